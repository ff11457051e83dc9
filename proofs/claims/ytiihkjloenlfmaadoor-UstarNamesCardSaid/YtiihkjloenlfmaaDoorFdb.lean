/- The reference of fields: Octal, Digits, Cut, Sum. Written ahead of stage 15. -/
import Derived.Test.YtiihkjloenlfmaaDoorFda
namespace Go.Proofs.YtiihkjloenlfmaaDoor
open Go.RowKit

theorem div_pow (n : Int) (q : Nat) : n / 8 ^ (q + 1) = n / 8 ^ q / 8 := by
  rw [Int.pow_succ, Int.ediv_ediv_of_nonneg (Int.pow_nonneg (by omega))]
set_option maxRecDepth 100000 in
theorem div_bounds (n : Int) (q : Nat) (h1 : -9223372036854775808 ≤ n) (h2 : n ≤ 9223372036854775807) : -9223372036854775808 ≤ n / 8 ^ q ∧ n / 8 ^ q ≤ 9223372036854775807 := by
  induction q with
  | zero => simpa using ⟨h1, h2⟩
  | succ q ih =>
    rw [div_pow]
    generalize n / 8 ^ q = m at *
    omega

set_option maxHeartbeats 1600000 in
set_option maxRecDepth 100000 in
theorem roctal_any (w : World) (n width : Int) (h1 : -9223372036854775808 ≤ n) (h2 : n ≤ 9223372036854775807) (h3 : -9223372036854775808 ≤ width) (h4 : width ≤ 9223372036854775807) :
    Calls Tryd.prog 40 #[.int .i64 n, .int .i64 width] w fun e w' => e = .returned (.tuple #[.string (strF (octalA n width).1), .int .i64 (octalA n width).2]) ∧ w' = w := by
  have HP : Hid (∀ (X : List UInt8) (k : Nat) (w' : World), octalA n width = (X, k) → w' = w → (fun e w' => e = Ending.returned (.tuple #[.string (strF (octalA n width).1), .int .i64 (octalA n width).2]) ∧ w' = w) (.returned (.tuple #[.string (strF X), .int .i64 k])) w') := Lib.hid fun X k w' h hb => ⟨by rw [h], hb⟩
  have hdef : octalA n width = if width < 2 ∨ 20 < width then ([], 2)
    else if n / 8 ^ (width.toNat - 1) ≠ 0 then ([], 150)
    else (octL (width.toNat - 1) n ++ [0], 0) := rfl
  generalize (fun e w' => e = Ending.returned (.tuple #[.string (strF (octalA n width).1), .int .i64 (octalA n width).2]) ∧ w' = w) = PO at *
  generalize octalA n width = ans at *
  by_cases e1 : width < 2
  · have d0 : decide (width < 2) = true := decide_eq_true e1
    rw [if_pos (.inl e1)] at hdef
    have HF := Lib.hid (HP.out [] 2 w hdef rfl)
    clear hdef
    go_enter Tryd.func40, Tryd.ntmps40
    go_wp2_with fail
    exact HF.out
  have d0 : decide (width < 2) = false := decide_eq_false e1
  by_cases e2 : 20 < width
  · have d1 : decide (20 < width) = true := decide_eq_true e2
    rw [if_pos (.inr e2)] at hdef
    have HF := Lib.hid (HP.out [] 2 w hdef rfl)
    clear hdef
    go_enter Tryd.func40, Tryd.ntmps40
    go_wp2_with fail
    exact HF.out
  have d1 : decide (20 < width) = false := decide_eq_false e2
  rw [if_neg (fun h => h.elim e1 e2)] at hdef
  obtain ⟨K, hK⟩ : ∃ K, K = width.toNat - 1 := ⟨_, rfl⟩
  rw [← hK] at hdef
  have hKz : width - 1 = (K : Int) := by omega
  have hKb : K ≤ 19 := by omega
  have HD := Lib.hid hdef
  clear hdef hK
  go_enter Tryd.func40, Tryd.ntmps40
  go_wp2_with fail
  go_loopw [0, 6, 7] (fun sn so si wx => ∃ (m : Int) (O : List UInt8) (q : Nat), sn = .int .i64 m ∧ so = .string (strF O) ∧ si = .int .i64 q ∧ q ≤ K ∧ -9223372036854775808 ≤ m ∧ m ≤ 9223372036854775807 ∧ O.length ≤ 1 + q ∧ wx = w ∧ Hid (m = n / 8 ^ q ∧ O = octL q n ++ [0])) (fun _ _ si _ => K - (intOf si).toNat)
  case atStart => exact ⟨n, [0], 0, rfl, rfl, rfl, Nat.zero_le _, h1, h2, Nat.le_refl _, rfl, Lib.hid ⟨by simp, rfl⟩⟩
  case round =>
    obtain ⟨m, O, q, rfl, rfl, rfl, hq, hm1, hm2, hO, rfl, hJ⟩ := hrel
    by_cases e : q < K
    · have dq : decide ((q : Int) < (K : Int)) = true := decide_eq_true (by omega)
      obtain ⟨d, hd⟩ : ∃ d, d = (m % 8).toNat := ⟨_, rfl⟩
      have hdz : m % 8 = (d : Int) := by omega
      have hand : bits .and .i64 m 7 = (d : Int) := by rw [and_seven, hdz]
      have hd8 : d < 8 := by omega
      obtain ⟨d1', hd1⟩ : ∃ x, x = d + 1 := ⟨_, rfl⟩
      have hd1z : (d : Int) + 1 = (d1' : Int) := by omega
      have hd1b : (d1' : Int) ≤ 8 := by omega
      have hex := dig_oct d hd8
      rw [← hd1] at hex
      have hOs : (strF O).size ≤ 30 := by rw [strF_size]; omega
      have hcat : strF [dig8 d] ++ strF O = strF (dig8 d :: O) := strF_app _ _
      have HEX := Lib.hid hex
      have HCAT := Lib.hid hcat
      obtain ⟨m2, hm2e⟩ : ∃ x, x = m / 8 := ⟨_, rfl⟩
      have HJ2 : Hid (m2 = n / 8 ^ (q + 1) ∧ dig8 d :: O = octL (q + 1) n ++ [0]) := Lib.hid ⟨by rw [hm2e, hJ.out.1, div_pow], by rw [octL, ← hJ.out.1, ← hd, hJ.out.2]; rfl⟩
      have hm2b : -9223372036854775808 ≤ m2 ∧ m2 ≤ 9223372036854775807 := by omega
      have hes : ((⟨#[48, 49, 50, 51, 52, 53, 54, 55]⟩ : ByteArray).extract d d1').size ≤ 1 := by rw [hex]; exact Nat.le_refl _
      have hm2s := hm2e.symm
      have HO := Lib.hid (show (dig8 d :: O).length ≤ 1 + (q + 1) by rw [List.length_cons]; omega)
      clear hJ hd hd1 hex hcat hm2e hdz
      go_wp2_with fail
      go_roundw
      case rel => exact ⟨m2, dig8 d :: O, q + 1, by first | rfl | rw [hm2s], by rw [HEX.out, HCAT.out], by go_num, by omega, hm2b.1, hm2b.2, HO.out, by first | rfl | trivial, HJ2⟩
      case measure => simp [intOf]; omega
    · obtain rfl : q = K := by omega
      have dq : decide ((q : Int) < (q : Int)) = false := decide_eq_false (by omega)
      have hd := HD.out
      rw [← hJ.out.1, ← hJ.out.2] at hd
      by_cases e0 : m ≠ 0
      · have f0 : (m != 0) = true := bne_iff_ne.2 e0
        rw [if_pos e0] at hd
        have HF := Lib.hid (HP.out [] 150 wr hd rfl)
        clear hd hJ e0
        go_wp2_with fail
        exact HF.out
      · have f0 : (m != 0) = false := by
          rw [bne_eq_false_iff_eq]
          exact Decidable.not_not.1 e0
        rw [if_neg e0] at hd
        have HF := Lib.hid (HP.out O 0 wr hd rfl)
        clear hd hJ e0
        go_wp2_with fail
        exact HF.out

set_option maxHeartbeats 1600000 in
set_option maxRecDepth 100000 in
theorem rcutz_any (w : World) (t : ByteArray) (hs : t.size ≤ 9223372036854775807) : Calls Tryd.prog 34 #[.string t] w fun e w' => e = .returned (.string (strF (cutZ t.data.toList))) ∧ w' = w := by
  have HP : Hid (∀ (X : List UInt8) (w' : World), cutZ t.data.toList = X → w' = w → (fun e w' => e = Ending.returned (.string (strF (cutZ t.data.toList))) ∧ w' = w) (.returned (.string (strF X))) w') := Lib.hid fun X w' h hb => ⟨by rw [h], hb⟩
  have hself := strF_self t
  have hll : t.data.toList.length = t.size := rfl
  generalize (fun e w' => e = Ending.returned (.string (strF (cutZ t.data.toList))) ∧ w' = w) = PO at *
  obtain ⟨S, hS⟩ : ∃ S, S = t.data.toList := ⟨_, rfl⟩
  have HS := Lib.hid hS
  rw [← hS] at HP hself hll
  have HSELF := Lib.hid hself
  have HLL := Lib.hid hll
  clear hS hself hll
  go_enter Tryd.func34, Tryd.ntmps34
  go_wp2_with fail
  go_loopw [3] (fun si wx => ∃ q : Nat, si = .int .i64 q ∧ q ≤ t.size ∧ wx = w ∧ Hid (cutZ S = S.take q ++ cutZ (S.drop q))) (fun si _ => t.size - (intOf si).toNat)
  case atStart => exact ⟨0, rfl, Nat.zero_le _, rfl, Lib.hid (by simp)⟩
  case round =>
    obtain ⟨q, rfl, hq, rfl, hJ⟩ := hrel
    by_cases e : q < t.size
    · have dq : decide ((q : Int) < (t.size : Int)) = true := decide_eq_true (by omega)
      have hqz : (q : Int) < t.size := by omega
      have hqS : q < S.length := by rw [HLL.out]; exact e
      have hby := fbyte t q e
      rw [← HS.out] at hby
      have hdr : S.drop q = S.getD q 0 :: S.drop (q + 1) := by
        rw [List.drop_eq_getElem_cons hqS, List.getD_eq_getElem?_getD, List.getElem?_eq_getElem hqS]
        rfl
      have hj := hJ.out
      rw [hdr, hby, cutZ] at hj
      by_cases e2 : t[q] = 0
      · have f : ((((t[q]).toNat : Nat) : Int) == 0) = true := by rw [e2]; rfl
        rw [if_pos e2, List.append_nil] at hj
        have hex := fext_take t q
        rw [← HS.out] at hex
        have HF := HP.out _ wr hj rfl
        rw [← hex] at HF
        have HFF := Lib.hid HF
        clear hj hJ hex HF hby hdr e2
        go_wp2_with fail
        exact HFF.out
      · have f : ((((t[q]).toNat : Nat) : Int) == 0) = false := by
          refine beq_false_of_ne fun h => e2 ?_
          apply UInt8.toNat_inj.1
          show (t[q]).toNat = 0
          omega
        rw [if_neg e2] at hj
        have HJ2 := Lib.hid (show cutZ S = S.take (q + 1) ++ cutZ (S.drop (q + 1)) by
          rw [hj, List.take_succ_eq_append_getElem hqS, List.append_assoc]
          congr 1
          rw [← hby, List.getD_eq_getElem?_getD, List.getElem?_eq_getElem hqS]
          rfl)
        clear hj hJ hby hdr e2
        go_wp2_with fail
        go_roundw
        case rel => exact ⟨q + 1, by go_num, by omega, by first | rfl | trivial, HJ2⟩
        case measure => simp [intOf]; omega
    · obtain rfl : q = t.size := by omega
      have hj := hJ.out
      rw [List.take_of_length_le (by rw [HLL.out]; exact Nat.le_refl _), List.drop_of_length_le (by rw [HLL.out]; exact Nat.le_refl _), cutZ, List.append_nil] at hj
      have HF := HP.out _ wr hj rfl
      rw [HSELF.out] at HF
      have HFF := Lib.hid HF
      clear hj hJ HF
      go_wp2_with fail
      exact HFF.out

set_option maxHeartbeats 1600000 in
set_option maxRecDepth 100000 in
theorem rsum15_any (w : World) (t : ByteArray) (_ : t.size ≤ 9223372036854775807) : Calls Tryd.prog 28 #[.string t] w fun e w' => e = .returned (.tuple #[.int .i64 (sumA t.data.toList).1, .int .i64 (sumA t.data.toList).2]) ∧ w' = w := by
  have HP : Hid (∀ (n k : Nat) (w' : World), sumA t.data.toList = (n, k) → w' = w → (fun e w' => e = Ending.returned (.tuple #[.int .i64 (sumA t.data.toList).1, .int .i64 (sumA t.data.toList).2]) ∧ w' = w) (.returned (.tuple #[.int .i64 n, .int .i64 k])) w') := Lib.hid fun n k w' h hb => ⟨by rw [h], hb⟩
  have hdef : sumA t.data.toList = if t.size ≠ 512 then (0, 2) else (256 + sumF t.data.toList 512, 0) := rfl
  generalize (fun e w' => e = Ending.returned (.tuple #[.int .i64 (sumA t.data.toList).1, .int .i64 (sumA t.data.toList).2]) ∧ w' = w) = PO at *
  generalize sumA t.data.toList = ans at *
  by_cases e : t.size ≠ 512
  · have d0 : ((t.size : Int) != 512) = true := bne_iff_ne.2 (by omega)
    rw [if_pos e] at hdef
    have HF := Lib.hid (HP.out 0 2 w hdef rfl)
    clear hdef e
    go_enter Tryd.func28, Tryd.ntmps28
    go_wp2_with fail
    exact HF.out
  · have d0 : ((t.size : Int) != 512) = false := by
      rw [bne_eq_false_iff_eq]
      omega
    rw [if_neg e] at hdef
    have HD := Lib.hid hdef
    have hsz : t.size = 512 := Decidable.not_not.1 e
    have HSZ := Lib.hid hsz
    clear hdef e hsz
    go_enter Tryd.func28, Tryd.ntmps28
    go_wp2_with fail
    go_loopw [4, 5] (fun sn si wx => ∃ n q : Nat, sn = .int .i64 n ∧ si = .int .i64 q ∧ q ≤ 512 ∧ n ≤ 256 + 255 * q ∧ wx = w ∧ Hid (n = 256 + sumF t.data.toList q)) (fun _ si _ => 512 - (intOf si).toNat)
    case atStart => exact ⟨256, 0, rfl, rfl, Nat.zero_le _, Nat.le_refl _, rfl, Lib.hid rfl⟩
    case round =>
      obtain ⟨n, q, rfl, rfl, hq, hn, rfl, hJ⟩ := hrel
      by_cases e : q < 512
      · have dq : decide ((q : Int) < 512) = true := decide_eq_true (by omega)
        have hqt : q < t.size := by rw [HSZ.out]; exact e
        have hqz : (q : Int) < t.size := by omega
        have hby := fbyte t q hqt
        have hx := UInt8.toNat_lt (t[q])
        have hnx := sumF_next t.data.toList q
        rw [hby] at hnx
        by_cases e1 : q < 148
        · have f1 : decide ((q : Int) < 148) = true := decide_eq_true (by omega)
          rw [if_pos (.inl e1)] at hnx
          obtain ⟨m, hm⟩ : ∃ m, m = n + (t[q]).toNat := ⟨_, rfl⟩
          have hmz : (n : Int) + ((t[q]).toNat : Int) = (m : Int) := by omega
          have HJ2 := Lib.hid (show m = 256 + sumF t.data.toList (q + 1) by rw [hnx, hm, hJ.out, Nat.add_assoc])
          have hmb : m ≤ 256 + 255 * (q + 1) := by omega
          clear hJ hnx hby hm
          go_wp2_with fail
          go_roundw
          case rel => exact ⟨m, q + 1, by first | rfl | rw [hmz], by go_num, by omega, hmb, by first | rfl | trivial, HJ2⟩
          case measure => simp [intOf]; omega
        · have f1 : decide ((q : Int) < 148) = false := decide_eq_false (by omega)
          by_cases e2 : 155 < q
          · have f2 : decide ((155 : Int) < (q : Int)) = true := decide_eq_true (by omega)
            rw [if_pos (.inr e2)] at hnx
            obtain ⟨m, hm⟩ : ∃ m, m = n + (t[q]).toNat := ⟨_, rfl⟩
            have hmz : (n : Int) + ((t[q]).toNat : Int) = (m : Int) := by omega
            have HJ2 := Lib.hid (show m = 256 + sumF t.data.toList (q + 1) by rw [hnx, hm, hJ.out, Nat.add_assoc])
            have hmb : m ≤ 256 + 255 * (q + 1) := by omega
            clear hJ hnx hby hm
            go_wp2_with fail
            go_roundw
            case rel => exact ⟨m, q + 1, by first | rfl | rw [hmz], by go_num, by omega, hmb, by first | rfl | trivial, HJ2⟩
            case measure => simp [intOf]; omega
          · have f2 : decide ((155 : Int) < (q : Int)) = false := decide_eq_false (by omega)
            rw [if_neg (show ¬ (q < 148 ∨ 155 < q) by omega)] at hnx
            have HJ2 := Lib.hid (show n = 256 + sumF t.data.toList (q + 1) by rw [hnx, hJ.out, Nat.add_zero])
            clear hJ hnx hby
            go_wp2_with fail
            go_roundw
            case rel => exact ⟨n, q + 1, rfl, by go_num, by omega, by omega, by first | rfl | trivial, HJ2⟩
            case measure => simp [intOf]; omega
      · have hq5 : q = 512 := by omega
        have dq : decide ((q : Int) < 512) = false := decide_eq_false (by omega)
        have hj := hJ.out
        rw [hq5] at hj
        have HF := Lib.hid (HP.out n 0 wr (by rw [HD.out, ← hj]) rfl)
        clear hJ hj hq5
        go_wp2_with fail
        exact HF.out

end Go.Proofs.YtiihkjloenlfmaaDoor
