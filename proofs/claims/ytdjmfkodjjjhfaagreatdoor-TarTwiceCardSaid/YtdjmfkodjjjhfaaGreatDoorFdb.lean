/- The reference of fields: Octal, Digits, Cut, Sum. Written ahead of stage 15. -/
import Derived.Test.YtdjmfkodjjjhfaaGreatDoorSa
namespace Go.Proofs.YtdjmfkodjjjhfaaGreatDoor
open Go.RowKit

theorem div_pow (n : Int) (q : Nat) : n / 8 ^ (q + 1) = n / 8 ^ q / 8 := by
  rw [Int.pow_succ, Int.ediv_ediv_of_nonneg (Int.pow_nonneg (by omega))]
set_option maxRecDepth 100000 in
theorem div_bounds (n : Int) (q : Nat) (h1 : -9223372036854775808 ≤ n) (h2 : n ≤ 9223372036854775807) : -9223372036854775808 ≤ n / 8 ^ q ∧ n / 8 ^ q ≤ 9223372036854775807 := by
  induction q with
  | zero => simpa using ⟨h1, h2⟩
  | succ q ih =>
    rw [div_pow]
    generalize n / 8 ^ q = m at *
    omega

set_option maxHeartbeats 1600000 in
set_option maxRecDepth 100000 in
theorem roctal_any (w : World) (n width : Int) (h1 : -9223372036854775808 ≤ n) (h2 : n ≤ 9223372036854775807) (h3 : -9223372036854775808 ≤ width) (h4 : width ≤ 9223372036854775807) :
    Calls Tryz.prog 126 #[.int .i64 n, .int .i64 width] w fun e w' => e = .returned (.tuple #[.string (strF (octalA n width).1), .int .i64 (octalA n width).2]) ∧ w' = w := by
  have HP : Hid (∀ (X : List UInt8) (k : Nat) (w' : World), octalA n width = (X, k) → w' = w → (fun e w' => e = Ending.returned (.tuple #[.string (strF (octalA n width).1), .int .i64 (octalA n width).2]) ∧ w' = w) (.returned (.tuple #[.string (strF X), .int .i64 k])) w') := Lib.hid fun X k w' h hb => ⟨by rw [h], hb⟩
  have hdef : octalA n width = if width < 2 ∨ 20 < width then ([], 2)
    else if n / 8 ^ (width.toNat - 1) ≠ 0 then ([], 150)
    else (octL (width.toNat - 1) n ++ [0], 0) := rfl
  generalize (fun e w' => e = Ending.returned (.tuple #[.string (strF (octalA n width).1), .int .i64 (octalA n width).2]) ∧ w' = w) = PO at *
  generalize octalA n width = ans at *
  by_cases e1 : width < 2
  · have d0 : decide (width < 2) = true := decide_eq_true e1
    rw [if_pos (.inl e1)] at hdef
    have HF := Lib.hid (HP.out [] 2 w hdef rfl)
    clear hdef
    go_enter Tryz.func126, Tryz.ntmps126
    go_wp2_with fail
    exact HF.out
  have d0 : decide (width < 2) = false := decide_eq_false e1
  by_cases e2 : 20 < width
  · have d1 : decide (20 < width) = true := decide_eq_true e2
    rw [if_pos (.inr e2)] at hdef
    have HF := Lib.hid (HP.out [] 2 w hdef rfl)
    clear hdef
    go_enter Tryz.func126, Tryz.ntmps126
    go_wp2_with fail
    exact HF.out
  have d1 : decide (20 < width) = false := decide_eq_false e2
  rw [if_neg (fun h => h.elim e1 e2)] at hdef
  obtain ⟨K, hK⟩ : ∃ K, K = width.toNat - 1 := ⟨_, rfl⟩
  rw [← hK] at hdef
  have hKz : width - 1 = (K : Int) := by omega
  have hKb : K ≤ 19 := by omega
  have HD := Lib.hid hdef
  clear hdef hK
  go_enter Tryz.func126, Tryz.ntmps126
  go_wp2_with fail
  go_loopw [0, 6, 7] (fun sn so si wx => ∃ (m : Int) (O : List UInt8) (q : Nat), sn = .int .i64 m ∧ so = .string (strF O) ∧ si = .int .i64 q ∧ q ≤ K ∧ -9223372036854775808 ≤ m ∧ m ≤ 9223372036854775807 ∧ O.length ≤ 1 + q ∧ wx = w ∧ Hid (m = n / 8 ^ q ∧ O = octL q n ++ [0])) (fun _ _ si _ => K - (intOf si).toNat)
  case atStart => exact ⟨n, [0], 0, rfl, rfl, rfl, Nat.zero_le _, h1, h2, Nat.le_refl _, rfl, Lib.hid ⟨by simp, rfl⟩⟩
  case round =>
    obtain ⟨m, O, q, rfl, rfl, rfl, hq, hm1, hm2, hO, rfl, hJ⟩ := hrel
    by_cases e : q < K
    · have dq : decide ((q : Int) < (K : Int)) = true := decide_eq_true (by omega)
      obtain ⟨d, hd⟩ : ∃ d, d = (m % 8).toNat := ⟨_, rfl⟩
      have hdz : m % 8 = (d : Int) := by omega
      have hand : bits .and .i64 m 7 = (d : Int) := by rw [and_seven, hdz]
      have hd8 : d < 8 := by omega
      obtain ⟨d1', hd1⟩ : ∃ x, x = d + 1 := ⟨_, rfl⟩
      have hd1z : (d : Int) + 1 = (d1' : Int) := by omega
      have hd1b : (d1' : Int) ≤ 8 := by omega
      have hex := dig_oct d hd8
      rw [← hd1] at hex
      have hOs : (strF O).size ≤ 30 := by rw [strF_size]; omega
      have hcat : strF [dig8 d] ++ strF O = strF (dig8 d :: O) := strF_app _ _
      have HEX := Lib.hid hex
      have HCAT := Lib.hid hcat
      obtain ⟨m2, hm2e⟩ : ∃ x, x = m / 8 := ⟨_, rfl⟩
      have HJ2 : Hid (m2 = n / 8 ^ (q + 1) ∧ dig8 d :: O = octL (q + 1) n ++ [0]) := Lib.hid ⟨by rw [hm2e, hJ.out.1, div_pow], by rw [octL, ← hJ.out.1, ← hd, hJ.out.2]; rfl⟩
      have hm2b : -9223372036854775808 ≤ m2 ∧ m2 ≤ 9223372036854775807 := by omega
      have hes : ((⟨#[48, 49, 50, 51, 52, 53, 54, 55]⟩ : ByteArray).extract d d1').size ≤ 1 := by rw [hex]; exact Nat.le_refl _
      have hm2s := hm2e.symm
      have HO := Lib.hid (show (dig8 d :: O).length ≤ 1 + (q + 1) by rw [List.length_cons]; omega)
      clear hJ hd hd1 hex hcat hm2e hdz
      go_wp2_with fail
      go_roundw
      case rel => exact ⟨m2, dig8 d :: O, q + 1, by first | rfl | rw [hm2s], by rw [HEX.out, HCAT.out], by go_num, by omega, hm2b.1, hm2b.2, HO.out, by first | rfl | trivial, HJ2⟩
      case measure => simp [intOf]; omega
    · obtain rfl : q = K := by omega
      have dq : decide ((q : Int) < (q : Int)) = false := decide_eq_false (by omega)
      have hd := HD.out
      rw [← hJ.out.1, ← hJ.out.2] at hd
      by_cases e0 : m ≠ 0
      · have f0 : (m != 0) = true := bne_iff_ne.2 e0
        rw [if_pos e0] at hd
        have HF := Lib.hid (HP.out [] 150 wr hd rfl)
        clear hd hJ e0
        go_wp2_with fail
        exact HF.out
      · have f0 : (m != 0) = false := by
          rw [bne_eq_false_iff_eq]
          exact Decidable.not_not.1 e0
        rw [if_neg e0] at hd
        have HF := Lib.hid (HP.out O 0 wr hd rfl)
        clear hd hJ e0
        go_wp2_with fail
        exact HF.out

set_option maxHeartbeats 1600000 in
set_option maxRecDepth 100000 in
theorem rcutz_any (w : World) (t : ByteArray) (hs : t.size ≤ 9223372036854775807) : Calls Tryz.prog 107 #[.string t] w fun e w' => e = .returned (.string (strF (cutZ t.data.toList))) ∧ w' = w := by
  have HP : Hid (∀ (X : List UInt8) (w' : World), cutZ t.data.toList = X → w' = w → (fun e w' => e = Ending.returned (.string (strF (cutZ t.data.toList))) ∧ w' = w) (.returned (.string (strF X))) w') := Lib.hid fun X w' h hb => ⟨by rw [h], hb⟩
  have hself := strF_self t
  have hll : t.data.toList.length = t.size := rfl
  generalize (fun e w' => e = Ending.returned (.string (strF (cutZ t.data.toList))) ∧ w' = w) = PO at *
  obtain ⟨S, hS⟩ : ∃ S, S = t.data.toList := ⟨_, rfl⟩
  have HS := Lib.hid hS
  rw [← hS] at HP hself hll
  have HSELF := Lib.hid hself
  have HLL := Lib.hid hll
  clear hS hself hll
  go_enter Tryz.func107, Tryz.ntmps107
  go_wp2_with fail
  go_loopw [3] (fun si wx => ∃ q : Nat, si = .int .i64 q ∧ q ≤ t.size ∧ wx = w ∧ Hid (cutZ S = S.take q ++ cutZ (S.drop q))) (fun si _ => t.size - (intOf si).toNat)
  case atStart => exact ⟨0, rfl, Nat.zero_le _, rfl, Lib.hid (by simp)⟩
  case round =>
    obtain ⟨q, rfl, hq, rfl, hJ⟩ := hrel
    by_cases e : q < t.size
    · have dq : decide ((q : Int) < (t.size : Int)) = true := decide_eq_true (by omega)
      have hqz : (q : Int) < t.size := by omega
      have hqS : q < S.length := by rw [HLL.out]; exact e
      have hby := fbyte t q e
      rw [← HS.out] at hby
      have hdr : S.drop q = S.getD q 0 :: S.drop (q + 1) := by
        rw [List.drop_eq_getElem_cons hqS, List.getD_eq_getElem?_getD, List.getElem?_eq_getElem hqS]
        rfl
      have hj := hJ.out
      rw [hdr, hby, cutZ] at hj
      by_cases e2 : t[q] = 0
      · have f : ((((t[q]).toNat : Nat) : Int) == 0) = true := by rw [e2]; rfl
        rw [if_pos e2, List.append_nil] at hj
        have hex := fext_take t q
        rw [← HS.out] at hex
        have HF := HP.out _ wr hj rfl
        rw [← hex] at HF
        have HFF := Lib.hid HF
        clear hj hJ hex HF hby hdr e2
        go_wp2_with fail
        exact HFF.out
      · have f : ((((t[q]).toNat : Nat) : Int) == 0) = false := by
          refine beq_false_of_ne fun h => e2 ?_
          apply UInt8.toNat_inj.1
          show (t[q]).toNat = 0
          omega
        rw [if_neg e2] at hj
        have HJ2 := Lib.hid (show cutZ S = S.take (q + 1) ++ cutZ (S.drop (q + 1)) by
          rw [hj, List.take_succ_eq_append_getElem hqS, List.append_assoc]
          congr 1
          rw [← hby, List.getD_eq_getElem?_getD, List.getElem?_eq_getElem hqS]
          rfl)
        clear hj hJ hby hdr e2
        go_wp2_with fail
        go_roundw
        case rel => exact ⟨q + 1, by go_num, by omega, by first | rfl | trivial, HJ2⟩
        case measure => simp [intOf]; omega
    · obtain rfl : q = t.size := by omega
      have hj := hJ.out
      rw [List.take_of_length_le (by rw [HLL.out]; exact Nat.le_refl _), List.drop_of_length_le (by rw [HLL.out]; exact Nat.le_refl _), cutZ, List.append_nil] at hj
      have HF := HP.out _ wr hj rfl
      rw [HSELF.out] at HF
      have HFF := Lib.hid HF
      clear hj hJ HF
      go_wp2_with fail
      exact HFF.out

set_option maxHeartbeats 1600000 in
set_option maxRecDepth 100000 in
theorem rsum15_any (w : World) (t : ByteArray) (_ : t.size ≤ 9223372036854775807) : Calls Tryz.prog 97 #[.string t] w fun e w' => e = .returned (.tuple #[.int .i64 (sumA t.data.toList).1, .int .i64 (sumA t.data.toList).2]) ∧ w' = w := by
  have HP : Hid (∀ (n k : Nat) (w' : World), sumA t.data.toList = (n, k) → w' = w → (fun e w' => e = Ending.returned (.tuple #[.int .i64 (sumA t.data.toList).1, .int .i64 (sumA t.data.toList).2]) ∧ w' = w) (.returned (.tuple #[.int .i64 n, .int .i64 k])) w') := Lib.hid fun n k w' h hb => ⟨by rw [h], hb⟩
  have hdef : sumA t.data.toList = if t.size ≠ 512 then (0, 2) else (256 + sumF t.data.toList 512, 0) := rfl
  generalize (fun e w' => e = Ending.returned (.tuple #[.int .i64 (sumA t.data.toList).1, .int .i64 (sumA t.data.toList).2]) ∧ w' = w) = PO at *
  generalize sumA t.data.toList = ans at *
  by_cases e : t.size ≠ 512
  · have d0 : ((t.size : Int) != 512) = true := bne_iff_ne.2 (by omega)
    rw [if_pos e] at hdef
    have HF := Lib.hid (HP.out 0 2 w hdef rfl)
    clear hdef e
    go_enter Tryz.func97, Tryz.ntmps97
    go_wp2_with fail
    exact HF.out
  · have d0 : ((t.size : Int) != 512) = false := by
      rw [bne_eq_false_iff_eq]
      omega
    rw [if_neg e] at hdef
    have HD := Lib.hid hdef
    have hsz : t.size = 512 := Decidable.not_not.1 e
    have HSZ := Lib.hid hsz
    clear hdef e hsz
    go_enter Tryz.func97, Tryz.ntmps97
    go_wp2_with fail
    go_loopw [4, 5] (fun sn si wx => ∃ n q : Nat, sn = .int .i64 n ∧ si = .int .i64 q ∧ q ≤ 512 ∧ n ≤ 256 + 255 * q ∧ wx = w ∧ Hid (n = 256 + sumF t.data.toList q)) (fun _ si _ => 512 - (intOf si).toNat)
    case atStart => exact ⟨256, 0, rfl, rfl, Nat.zero_le _, Nat.le_refl _, rfl, Lib.hid rfl⟩
    case round =>
      obtain ⟨n, q, rfl, rfl, hq, hn, rfl, hJ⟩ := hrel
      by_cases e : q < 512
      · have dq : decide ((q : Int) < 512) = true := decide_eq_true (by omega)
        have hqt : q < t.size := by rw [HSZ.out]; exact e
        have hqz : (q : Int) < t.size := by omega
        have hby := fbyte t q hqt
        have hx := UInt8.toNat_lt (t[q])
        have hnx := sumF_next t.data.toList q
        rw [hby] at hnx
        by_cases e1 : q < 148
        · have f1 : decide ((q : Int) < 148) = true := decide_eq_true (by omega)
          rw [if_pos (.inl e1)] at hnx
          obtain ⟨m, hm⟩ : ∃ m, m = n + (t[q]).toNat := ⟨_, rfl⟩
          have hmz : (n : Int) + ((t[q]).toNat : Int) = (m : Int) := by omega
          have HJ2 := Lib.hid (show m = 256 + sumF t.data.toList (q + 1) by rw [hnx, hm, hJ.out, Nat.add_assoc])
          have hmb : m ≤ 256 + 255 * (q + 1) := by omega
          clear hJ hnx hby hm
          go_wp2_with fail
          go_roundw
          case rel => exact ⟨m, q + 1, by first | rfl | rw [hmz], by go_num, by omega, hmb, by first | rfl | trivial, HJ2⟩
          case measure => simp [intOf]; omega
        · have f1 : decide ((q : Int) < 148) = false := decide_eq_false (by omega)
          by_cases e2 : 155 < q
          · have f2 : decide ((155 : Int) < (q : Int)) = true := decide_eq_true (by omega)
            rw [if_pos (.inr e2)] at hnx
            obtain ⟨m, hm⟩ : ∃ m, m = n + (t[q]).toNat := ⟨_, rfl⟩
            have hmz : (n : Int) + ((t[q]).toNat : Int) = (m : Int) := by omega
            have HJ2 := Lib.hid (show m = 256 + sumF t.data.toList (q + 1) by rw [hnx, hm, hJ.out, Nat.add_assoc])
            have hmb : m ≤ 256 + 255 * (q + 1) := by omega
            clear hJ hnx hby hm
            go_wp2_with fail
            go_roundw
            case rel => exact ⟨m, q + 1, by first | rfl | rw [hmz], by go_num, by omega, hmb, by first | rfl | trivial, HJ2⟩
            case measure => simp [intOf]; omega
          · have f2 : decide ((155 : Int) < (q : Int)) = false := decide_eq_false (by omega)
            rw [if_neg (show ¬ (q < 148 ∨ 155 < q) by omega)] at hnx
            have HJ2 := Lib.hid (show n = 256 + sumF t.data.toList (q + 1) by rw [hnx, hJ.out, Nat.add_zero])
            clear hJ hnx hby
            go_wp2_with fail
            go_roundw
            case rel => exact ⟨n, q + 1, rfl, by go_num, by omega, by omega, by first | rfl | trivial, HJ2⟩
            case measure => simp [intOf]; omega
      · have hq5 : q = 512 := by omega
        have dq : decide ((q : Int) < 512) = false := decide_eq_false (by omega)
        have hj := hJ.out
        rw [hq5] at hj
        have HF := Lib.hid (HP.out n 0 wr (by rw [HD.out, ← hj]) rfl)
        clear hJ hj hq5
        go_wp2_with fail
        exact HF.out

set_option maxHeartbeats 1600000 in
set_option maxRecDepth 100000 in
theorem rdigits_any (w : World) (n : Int) (h1 : -9223372036854775808 ≤ n) (h2 : n ≤ 9223372036854775807) : Calls Tryz.prog 98 #[.int .i64 n] w fun e w' => e = .returned (.string (strF (digitsA n))) ∧ w' = w := by
  have HP : Hid (∀ (X : List UInt8) (w' : World), digitsA n = X → w' = w → (fun e w' => e = Ending.returned (.string (strF (digitsA n))) ∧ w' = w) (.returned (.string (strF X))) w') := Lib.hid fun X w' h hb => ⟨by rw [h], hb⟩
  have hdef : digitsA n = if n < 0 then [] else digF n.toNat n.toNat [dig8 (n.toNat % 10)] := rfl
  generalize (fun e w' => e = Ending.returned (.string (strF (digitsA n))) ∧ w' = w) = PO at *
  generalize digitsA n = ans at *
  by_cases e : n < 0
  · have d0 : decide (n < 0) = true := decide_eq_true e
    rw [if_pos e] at hdef
    have HF := Lib.hid (HP.out [] w hdef rfl)
    clear hdef
    go_enter Tryz.func98, Tryz.ntmps98
    go_wp2_with fail
    exact HF.out
  · have d0 : decide (n < 0) = false := decide_eq_false e
    rw [if_neg e] at hdef
    obtain ⟨m, rfl⟩ : ∃ m : Nat, n = m := ⟨n.toNat, by omega⟩
    rw [Int.toNat_natCast] at hdef
    have HD := Lib.hid hdef
    obtain ⟨d, hd⟩ : ∃ d, d = m % 10 := ⟨_, rfl⟩
    have hdz : Int.tmod (m : Int) 10 = (d : Int) := by
      rw [hd]
      exact (Int.tmod_eq_emod_of_nonneg (by omega)).trans (by omega)
    have hdz2 : (m : Int) % 10 = (d : Int) := by omega
    have hd10 : d < 10 := by omega
    obtain ⟨d', hd'⟩ : ∃ x, x = d + 1 := ⟨_, rfl⟩
    have hd1z : (d : Int) + 1 = (d' : Int) := by omega
    have hd1b : (d' : Int) ≤ 10 := by omega
    have hex := dig_dec d hd10
    rw [← hd'] at hex
    have HEX := Lib.hid hex
    have H0 : Hid (ans = digF m m [dig8 d]) := Lib.hid (by rw [hd]; exact HD.out)
    clear hdef hd hd' hex e HD
    go_enter Tryz.func98, Tryz.ntmps98
    go_wp2_with fail
    go_loopw [0, 4] (fun sn so wx => ∃ (k : Nat) (O : List UInt8) (f : Nat), sn = .int .i64 k ∧ so = .string (strF O) ∧ k ≤ 9223372036854775807 ∧ O.length ≤ 1 + m ∧ O.length + k ≤ 1 + m ∧ wx = w ∧ Hid (k ≤ f ∧ ans = digF f k O)) (fun sn _ _ => (intOf sn).toNat)
    case atStart => exact ⟨m, [dig8 d], m, rfl, by rw [← HEX.out], by omega, by simp, by rw [List.length_singleton]; omega, rfl, Lib.hid ⟨Nat.le_refl _, H0.out⟩⟩
    case round =>
      obtain ⟨k, O, f, rfl, rfl, hk, hO, hOk, rfl, hJ⟩ := hrel
      by_cases e : 10 ≤ k
      · have dk : decide ((10 : Int) ≤ (k : Int)) = true := decide_eq_true (by omega)
        obtain ⟨f, rfl⟩ : ∃ g, f = g + 1 := ⟨f - 1, by have := hJ.out.1; omega⟩
        have hj := hJ.out.2
        rw [digF, if_pos e] at hj
        obtain ⟨k2, hk2⟩ : ∃ x, x = k / 10 := ⟨_, rfl⟩
        have hk2z : Int.tdiv (k : Int) 10 = (k2 : Int) := by
          rw [Int.tdiv_eq_ediv_of_nonneg (by omega)]
          omega
        have hk2y : (k : Int) / 10 = (k2 : Int) := by omega
        obtain ⟨c, hc⟩ : ∃ x, x = k2 % 10 := ⟨_, rfl⟩
        have hcz : Int.tmod (k2 : Int) 10 = (c : Int) := by
          rw [hc]
          exact (Int.tmod_eq_emod_of_nonneg (by omega)).trans (by omega)
        have hcy : (k2 : Int) % 10 = (c : Int) := by omega
        have hc10 : c < 10 := by omega
        obtain ⟨c', hc'⟩ : ∃ x, x = c + 1 := ⟨_, rfl⟩
        have hc1z : (c : Int) + 1 = (c' : Int) := by omega
        have hc1b : (c' : Int) ≤ 10 := by omega
        have hex := dig_dec c hc10
        rw [← hc'] at hex
        have HEX2 := Lib.hid hex
        have HCAT := Lib.hid (strF_app [dig8 c] O)
        rw [← hk2, ← hc] at hj
        have HJ2 : Hid (k2 ≤ f ∧ ans = digF f k2 (dig8 c :: O)) := Lib.hid ⟨by have := hJ.out.1; omega, hj⟩
        have hes : ((⟨#[48, 49, 50, 51, 52, 53, 54, 55, 56, 57]⟩ : ByteArray).extract c c').size ≤ 1 := by rw [hex]; exact Nat.le_refl _
        have hOs : (strF O).size ≤ 9223372036854775800 := by rw [strF_size]; omega
        have hn1 : (dig8 c :: O).length ≤ 1 + m := by rw [List.length_cons]; omega
        have hn2 : (dig8 c :: O).length + k2 ≤ 1 + m := by rw [List.length_cons]; omega
        have HN1 := Lib.hid hn1
        have HN2 := Lib.hid hn2
        have hk2k : k2 < k := by omega
        clear hJ hj hk2 hc hc' hex hn1 hn2
        go_wp2_with fail
        go_roundw
        case rel => exact ⟨k2, dig8 c :: O, f, by first | rfl | rw [hk2z], by rw [HEX2.out, HCAT.out]; rfl, by omega, HN1.out, HN2.out, by first | rfl | trivial, HJ2⟩
        case measure => simp [intOf]; omega
      · have dk : decide ((10 : Int) ≤ (k : Int)) = false := decide_eq_false (by omega)
        have hj := hJ.out.2
        have hjj : ans = O := by
          cases f with
          | zero => rw [digF] at hj; exact hj
          | succ f => rw [digF, if_neg e] at hj; exact hj
        have HF := Lib.hid (HP.out O wr hjj rfl)
        clear hJ hj hjj
        go_wp2_with fail
        exact HF.out
end Go.Proofs.YtdjmfkodjjjhfaaGreatDoor
/- The reference of fields: cut, Number, Decimal, Text. Written ahead of stage 15. -/
namespace Go.Proofs.YtdjmfkodjjjhfaaGreatDoor
open Go.RowKit

def strLen : Value → Nat
  | .string t => t.size
  | _ => 0
set_option maxRecDepth 100000 in
theorem cut_len (a b : Nat) : ∀ s : List UInt8, (cutF a b s).length ≤ s.length
  | [] => Nat.le_refl _
  | c :: s => by
    rw [cutF]
    split
    · exact Nat.le_trans (cut_len a b s) (by simp)
    · exact Nat.le_refl _
set_option maxRecDepth 100000 in
theorem num_len : ∀ (s : List UInt8) (n : Nat), (numF s n).2.length ≤ s.length
  | [], _ => Nat.le_refl _
  | c :: s, n => by
    rw [numF]
    split
    · exact Nat.le_trans (num_len s _) (by simp)
    · exact Nat.le_refl _

set_option maxHeartbeats 1600000 in
set_option maxRecDepth 100000 in
theorem rcut_any (w : World) (S : List UInt8) (a b : Nat) (hs : S.length ≤ 9223372036854775807) : Calls Tryz.prog 132 #[.string (strF S), .int .u8 a, .int .u8 b] w fun e w' => e = .returned (.string (strF (cutF a b S))) ∧ w' = w := by
  have HP : Hid (∀ (X : List UInt8) (w' : World), cutF a b S = X → w' = w → (fun e w' => e = Ending.returned (.string (strF (cutF a b S))) ∧ w' = w) (.returned (.string (strF X))) w') := Lib.hid fun X w' h hb => ⟨by rw [h], hb⟩
  generalize (fun e w' => e = Ending.returned (.string (strF (cutF a b S))) ∧ w' = w) = PO at *
  go_enter Tryz.func132, Tryz.ntmps132
  go_wp2_with fail
  go_loopw [0] (fun ss wx => ∃ L : List UInt8, ss = .string (strF L) ∧ L.length ≤ 9223372036854775807 ∧ wx = w ∧ Hid (cutF a b S = cutF a b L)) (fun ss _ => strLen ss)
  case atStart => exact ⟨S, rfl, hs, rfl, Lib.hid rfl⟩
  case round =>
    obtain ⟨L, rfl, hL, rfl, hJ⟩ := hrel
    cases L with
    | nil =>
      have HF := Lib.hid (HP.out [] wr hJ.out rfl)
      have hn : strF ([] : List UInt8) = ⟨#[]⟩ := rfl
      rw [hn] at *
      go_wp2_with fail
      exact HF.out
    | cons c r =>
      have hj := hJ.out
      rw [cutF] at hj
      have hsz : (strF (c :: r)).size = r.length + 1 := rfl
      have h0 : 0 < (strF (c :: r)).size := by omega
      have hb0 : (strF (c :: r))[0]'h0 = c := rfl
      have hd := fext_drop (c :: r) 1
      have hd : (strF (c :: r)).extract 1 (strF (c :: r)).size = strF r := hd
      have HD := Lib.hid hd
      have HR := Lib.hid (show r.length ≤ 9223372036854775807 by rw [List.length_cons] at hL; omega)
      have HSZ := Lib.hid hsz
      have HB := Lib.hid hb0
      have hcx : c.toNat < 256 := UInt8.toNat_lt c
      have HFN := Lib.hid fun (h : cutF a b S = c :: r) => HP.out (c :: r) wr h rfl
      have HM : Hid (strLen (.string (strF r)) < strLen (.string (strF (c :: r)))) := Lib.hid (by
        show (strF r).size < (strF (c :: r)).size
        rw [hsz, strF_size]
        omega)
      have hsb : (strF (c :: r)).size ≤ 9223372036854775807 := by rw [hsz]; exact hL
      generalize hT : strF (c :: r) = T at *
      have g0 : decide ((0 : Int) < (T.size : Int)) = true := decide_eq_true (by omega)
      have z1 : (1 : Int) ≤ (T.size : Int) := by omega
      have z0 : (0 : Int) < (T.size : Int) := by omega
      clear hJ hd hsz hT hL
      by_cases e1 : c.toNat = a
      · have f1 : ((((T[0]'h0).toNat : Nat) : Int) == (a : Int)) = true := by rw [hb0]; exact beq_iff_eq.2 (by omega)
        rw [if_pos (.inl e1)] at hj
        have HJ := Lib.hid hj
        clear hj hb0 e1
        go_wp2_with fail
        go_roundw
        case rel => exact ⟨r, by rw [← HD.out], HR.out, by first | rfl | trivial, HJ⟩
        case measure => exact HM.out
      · have f1 : ((((T[0]'h0).toNat : Nat) : Int) == (a : Int)) = false := by rw [hb0]; exact beq_false_of_ne (by omega)
        by_cases e2 : c.toNat = b
        · have f2 : ((((T[0]'h0).toNat : Nat) : Int) == (b : Int)) = true := by rw [hb0]; exact beq_iff_eq.2 (by omega)
          rw [if_pos (.inr e2)] at hj
          have HJ := Lib.hid hj
          clear hj hb0 e1 e2
          go_wp2_with fail
          go_roundw
          case rel => exact ⟨r, by rw [← HD.out], HR.out, by first | rfl | trivial, HJ⟩
          case measure => exact HM.out
        · have f2 : ((((T[0]'h0).toNat : Nat) : Int) == (b : Int)) = false := by rw [hb0]; exact beq_false_of_ne (by omega)
          rw [if_neg (fun h => h.elim e1 e2)] at hj
          have HF := Lib.hid (HFN.out hj)
          clear hj hb0 e1 e2
          go_wp2_with fail
          exact HF.out

set_option maxHeartbeats 3200000 in
set_option maxRecDepth 100000 in
theorem rnumber_any (w : World) (t : ByteArray) (hs : t.size ≤ 9223372036854775807) : Calls Tryz.prog 106 #[.string t] w fun e w' => e = .returned (.tuple #[.int .i64 (numberA t.data.toList).1, .int .i64 (numberA t.data.toList).2]) ∧ w' = w := by
  have HP : Hid (∀ (n k : Nat) (w' : World), numberA t.data.toList = (n, k) → w' = w → (fun e w' => e = Ending.returned (.tuple #[.int .i64 (numberA t.data.toList).1, .int .i64 (numberA t.data.toList).2]) ∧ w' = w) (.returned (.tuple #[.int .i64 n, .int .i64 k])) w') := Lib.hid fun n k w' h hb => ⟨by rw [h], hb⟩
  generalize (fun e w' => e = Ending.returned (.tuple #[.int .i64 (numberA t.data.toList).1, .int .i64 (numberA t.data.toList).2]) ∧ w' = w) = PO at *
  have hdef : numberA t.data.toList = if cutF 32 0 (numF (cutF 32 32 t.data.toList) 0).2 ≠ [] then (0, 150)
    else if 9007199254740992 < (numF (cutF 32 32 t.data.toList) 0).1 then (0, 3)
    else ((numF (cutF 32 32 t.data.toList) 0).1, 0) := rfl
  have hll : t.data.toList.length = t.size := rfl
  have HC1 := rcut_any w t.data.toList 32 32 (by rw [hll]; exact hs)
  rw [strF_self] at HC1
  have HC1 : Hid (Calls Tryz.prog 132 #[.string t, .int .u8 32, .int .u8 32] w fun e w' => e = .returned (.string (strF (cutF 32 32 t.data.toList))) ∧ w' = w) := Lib.hid HC1
  have HC2 : Hid (∀ (wx : World) (L : List UInt8), L.length ≤ 9223372036854775807 → Calls Tryz.prog 132 #[.string (strF L), .int .u8 32, .int .u8 0] wx fun e w' => e = .returned (.string (strF (cutF 32 0 L))) ∧ w' = wx) := Lib.hid fun wx L hL => rcut_any wx L 32 0 hL
  have hcl := cut_len 32 32 t.data.toList
  rw [hll] at hcl
  generalize numberA t.data.toList = ans at *
  generalize cutF 32 32 t.data.toList = L0 at *
  have HD := Lib.hid hdef
  have hL0 : L0.length ≤ 9223372036854775807 := by omega
  clear hdef hll hcl
  go_enter Tryz.func106, Tryz.ntmps106
  go_wp2_with fail
  refine HC1.out.mono ?_
  rintro e w1 ⟨rfl, rfl⟩
  go_wp2_with fail
  go_loopw [0, 4] (fun ss sn wx => ∃ (L : List UInt8) (n : Nat), ss = .string (strF L) ∧ sn = .int .i64 n ∧ L.length ≤ 9223372036854775807 ∧ n ≤ 72057594037927943 ∧ wx = w1 ∧ Hid (numF L0 0 = numF L n)) (fun ss _ _ => strLen ss)
  case atStart => exact ⟨L0, 0, rfl, rfl, hL0, Nat.zero_le _, rfl, Lib.hid rfl⟩
  case round =>
    obtain ⟨L, n, rfl, rfl, hL, hn, rfl, hJ⟩ := hrel
    have HCN0 := HC2.out wr L hL
    obtain ⟨E, hE⟩ : ∃ E, E = strF (cutF 32 0 L) := ⟨_, rfl⟩
    rw [← hE] at HCN0
    have HCN := Lib.hid HCN0
    have HE : Hid ((cutF 32 0 L ≠ [] → E.toList.isEmpty = false) ∧ (cutF 32 0 L = [] → E.toList.isEmpty = true)) := Lib.hid (by
      rw [hE, strF_toList]
      constructor
      · intro h
        cases hx : cutF 32 0 L with
        | nil => exact absurd hx h
        | cons _ _ => rfl
      · intro h
        rw [h]
        rfl)
    have stop : numF L n = (n, L) → ans = if cutF 32 0 L ≠ [] then (0, 150) else if 9007199254740992 < n then (0, 3) else (n, 0) := fun h => by rw [HD.out, hJ.out, h]
    by_cases g0 : L = []
    · have hans := stop (by rw [g0]; rfl)
      have hn : strF ([] : List UInt8) = ⟨#[]⟩ := rfl
      rw [g0, hn] at HCN ⊢
      clear stop hE HCN0 g0 hJ
      by_cases g5 : cutF 32 0 L ≠ []
      · have f5 : E.toList.isEmpty = false := HE.out.1 g5
        rw [if_pos g5] at hans
        have HF := Lib.hid (HP.out 0 150 wr hans rfl)
        clear hans g5
        go_wp2_with fail
        refine HCN.out.mono ?_
        rintro e w2 ⟨rfl, rfl⟩
        go_wp2_with fail
        exact HF.out
      · have f5 : E.toList.isEmpty = true := HE.out.2 (Decidable.not_not.1 g5)
        rw [if_neg g5] at hans
        by_cases g6 : 9007199254740992 < n
        · have f6 : decide ((9007199254740992 : Int) < (n : Int)) = true := decide_eq_true (by omega)
          rw [if_pos g6] at hans
          have HF := Lib.hid (HP.out 0 3 wr hans rfl)
          clear hans g5 g6
          go_wp2_with fail
          refine HCN.out.mono ?_
          rintro e w2 ⟨rfl, rfl⟩
          go_wp2_with fail
          exact HF.out
        · have f6 : decide ((9007199254740992 : Int) < (n : Int)) = false := decide_eq_false (by omega)
          rw [if_neg g6] at hans
          have HF := Lib.hid (HP.out n 0 wr hans rfl)
          clear hans g5 g6
          go_wp2_with fail
          refine HCN.out.mono ?_
          rintro e w2 ⟨rfl, rfl⟩
          go_wp2_with fail
          exact HF.out
    · have hpos : 0 < L.length := List.length_pos_iff.2 g0
      obtain ⟨c, r, hcr⟩ : ∃ c r, L = c :: r := by
        cases L with
        | nil => exact absurd rfl g0
        | cons c r => exact ⟨c, r, rfl⟩
      obtain ⟨T, hT⟩ : ∃ T, T = strF L := ⟨_, rfl⟩
      have hsz : T.size = L.length := by rw [hT, strF_size]
      have h0 : 0 < T.size := by omega
      have hb0 : T[0]'h0 = c := by
        have h := fbyte T 0 h0
        rw [← h, hT, strF_list, hcr]
        rfl
      have f0 : decide ((0 : Int) < (T.size : Int)) = true := decide_eq_true (by omega)
      have z0 : (0 : Int) < (T.size : Int) := by omega
      have z1 : (1 : Int) ≤ (T.size : Int) := by omega
      have hsb : T.size ≤ 9223372036854775807 := by omega
      have hnum : numF L n = if 48 ≤ c.toNat ∧ c.toNat ≤ 55 then numF r (if n ≤ 9007199254740992 then 8 * n + (c.toNat - 48) else n) else (n, L) := by
        rw [hcr, numF]
      have hx := UInt8.toNat_lt (T[0]'h0)
      have hd : T.extract 1 T.size = strF r := by
        have h := fext_drop L 1
        rw [← hT, hcr] at h
        exact h
      have HDR := Lib.hid hd
      have HSZ := Lib.hid hsz
      have HLR := Lib.hid (show L.length = r.length + 1 by rw [hcr, List.length_cons])
      rw [← hT] at HCN ⊢
      rw [← hb0] at hnum
      by_cases g1 : 48 ≤ (T[0]'h0).toNat
      · have f1 : decide ((48 : Int) ≤ ((T[0]'h0).toNat : Int)) = true := decide_eq_true (by omega)
        by_cases g2 : (T[0]'h0).toNat ≤ 55
        · have f2 : decide (((T[0]'h0).toNat : Int) ≤ 55) = true := decide_eq_true (by omega)
          rw [if_pos ⟨g1, g2⟩] at hnum
          obtain ⟨y, hy⟩ : ∃ y, y = (T[0]'h0).toNat - 48 := ⟨_, rfl⟩
          have hyz : ((T[0]'h0).toNat : Int) - 48 = (y : Int) := by omega
          have hy7 : y ≤ 7 := by omega
          rw [← hy] at hnum
          by_cases g3 : n ≤ 9007199254740992
          · have f3 : decide ((n : Int) ≤ 9007199254740992) = true := decide_eq_true (by omega)
            rw [if_pos g3] at hnum
            obtain ⟨k, hk⟩ : ∃ k, k = 8 * n := ⟨_, rfl⟩
            have hkz : (8 : Int) * (n : Int) = (k : Int) := by omega
            obtain ⟨m, hm⟩ : ∃ m, m = k + y := ⟨_, rfl⟩
            have hmz : (k : Int) + (y : Int) = (m : Int) := by omega
            have hmb : m ≤ 72057594037927943 := by omega
            have HJ2 := Lib.hid (show numF L0 0 = numF r m by rw [hJ.out, hnum, hm, hk])
            have HRB := Lib.hid (show r.length ≤ 9223372036854775807 by have := HLR.out; omega)
            have HMS : Hid (strLen (.string (strF r)) < strLen (.string T)) := Lib.hid (by
              show (strF r).size < T.size
              rw [strF_size]
              have := HLR.out
              omega)
            clear stop hE HCN0 hT hnum hd hb0 hy hk hm hJ hcr hpos g1 g2 g3 hsz
            go_wp2_with fail
            go_roundw
            case rel => exact ⟨r, m, by rw [← HDR.out], by first | rfl | rw [hmz], HRB.out, hmb, by first | rfl | trivial, HJ2⟩
            case measure => first | exact HMS.out | (rw [HDR.out]; exact HMS.out)
          · have f3 : decide ((n : Int) ≤ 9007199254740992) = false := decide_eq_false (by omega)
            rw [if_neg g3] at hnum
            have HJ2 := Lib.hid (show numF L0 0 = numF r n by rw [hJ.out, hnum])
            have HRB := Lib.hid (show r.length ≤ 9223372036854775807 by have := HLR.out; omega)
            have HMS : Hid (strLen (.string (strF r)) < strLen (.string T)) := Lib.hid (by
              show (strF r).size < T.size
              rw [strF_size]
              have := HLR.out
              omega)
            clear stop hE HCN0 hT hnum hd hb0 hy hJ hcr hpos g1 g2 g3 hsz
            go_wp2_with fail
            go_roundw
            case rel => exact ⟨r, n, by rw [← HDR.out], rfl, HRB.out, hn, by first | rfl | trivial, HJ2⟩
            case measure => first | exact HMS.out | (rw [HDR.out]; exact HMS.out)
        · have f2 : decide (((T[0]'h0).toNat : Int) ≤ 55) = false := decide_eq_false (by omega)
          rw [if_neg (fun h => g2 h.2)] at hnum
          have hans := stop hnum
          clear stop hE HCN0 hT hnum hd hb0 hJ hcr hpos g1 g2 hsz
          by_cases g5 : cutF 32 0 L ≠ []
          · have f5 : E.toList.isEmpty = false := HE.out.1 g5
            rw [if_pos g5] at hans
            have HF := Lib.hid (HP.out 0 150 wr hans rfl)
            clear hans g5
            go_wp2_with fail
            refine HCN.out.mono ?_
            rintro e w2 ⟨rfl, rfl⟩
            go_wp2_with fail
            exact HF.out
          · have f5 : E.toList.isEmpty = true := HE.out.2 (Decidable.not_not.1 g5)
            rw [if_neg g5] at hans
            by_cases g6 : 9007199254740992 < n
            · have f6 : decide ((9007199254740992 : Int) < (n : Int)) = true := decide_eq_true (by omega)
              rw [if_pos g6] at hans
              have HF := Lib.hid (HP.out 0 3 wr hans rfl)
              clear hans g5 g6
              go_wp2_with fail
              refine HCN.out.mono ?_
              rintro e w2 ⟨rfl, rfl⟩
              go_wp2_with fail
              exact HF.out
            · have f6 : decide ((9007199254740992 : Int) < (n : Int)) = false := decide_eq_false (by omega)
              rw [if_neg g6] at hans
              have HF := Lib.hid (HP.out n 0 wr hans rfl)
              clear hans g5 g6
              go_wp2_with fail
              refine HCN.out.mono ?_
              rintro e w2 ⟨rfl, rfl⟩
              go_wp2_with fail
              exact HF.out
      · have f1 : decide ((48 : Int) ≤ ((T[0]'h0).toNat : Int)) = false := decide_eq_false (by omega)
        rw [if_neg (fun h => g1 h.1)] at hnum
        have hans := stop hnum
        clear stop hE HCN0 hT hnum hd hb0 hJ hcr hpos g1 hsz
        by_cases g5 : cutF 32 0 L ≠ []
        · have f5 : E.toList.isEmpty = false := HE.out.1 g5
          rw [if_pos g5] at hans
          have HF := Lib.hid (HP.out 0 150 wr hans rfl)
          clear hans g5
          go_wp2_with fail
          refine HCN.out.mono ?_
          rintro e w2 ⟨rfl, rfl⟩
          go_wp2_with fail
          exact HF.out
        · have f5 : E.toList.isEmpty = true := HE.out.2 (Decidable.not_not.1 g5)
          rw [if_neg g5] at hans
          by_cases g6 : 9007199254740992 < n
          · have f6 : decide ((9007199254740992 : Int) < (n : Int)) = true := decide_eq_true (by omega)
            rw [if_pos g6] at hans
            have HF := Lib.hid (HP.out 0 3 wr hans rfl)
            clear hans g5 g6
            go_wp2_with fail
            refine HCN.out.mono ?_
            rintro e w2 ⟨rfl, rfl⟩
            go_wp2_with fail
            exact HF.out
          · have f6 : decide ((9007199254740992 : Int) < (n : Int)) = false := decide_eq_false (by omega)
            rw [if_neg g6] at hans
            have HF := Lib.hid (HP.out n 0 wr hans rfl)
            clear hans g5 g6
            go_wp2_with fail
            refine HCN.out.mono ?_
            rintro e w2 ⟨rfl, rfl⟩
            go_wp2_with fail
            exact HF.out
end Go.Proofs.YtdjmfkodjjjhfaaGreatDoor
/- The reference of fields: Text, Decimal. Written ahead of stage 15. -/
namespace Go.Proofs.YtdjmfkodjjjhfaaGreatDoor
open Go.RowKit

set_option maxHeartbeats 1600000 in
set_option maxRecDepth 100000 in
theorem rtext_any (w : World) (t : ByteArray) (width : Int) (hs : t.size ≤ 9223372036854775807) (h3 : -9223372036854775808 ≤ width) (h4 : width ≤ 9223372036854775807) :
    Calls Tryz.prog 125 #[.string t, .int .i64 width] w fun e w' => e = .returned (.tuple #[.string (strF (textA t.data.toList width).1), .int .i64 (textA t.data.toList width).2]) ∧ w' = w := by
  have HP : Hid (∀ (X : List UInt8) (k : Nat) (w' : World), textA t.data.toList width = (X, k) → w' = w → (fun e w' => e = Ending.returned (.tuple #[.string (strF (textA t.data.toList width).1), .int .i64 (textA t.data.toList width).2]) ∧ w' = w) (.returned (.tuple #[.string (strF X), .int .i64 k])) w') := Lib.hid fun X k w' h hb => ⟨by rw [h], hb⟩
  have hdef : textA t.data.toList width = if width < 0 ∨ 512 < width then ([], 2)
    else if width < (t.size : Int) ∨ cutZ t.data.toList ≠ t.data.toList then ([], 150)
    else (t.data.toList ++ List.replicate (width.toNat - t.size) 0, 0) := rfl
  have HC0 := rcutz_any w t hs
  have hself := strF_self t
  generalize (fun e w' => e = Ending.returned (.tuple #[.string (strF (textA t.data.toList width).1), .int .i64 (textA t.data.toList width).2]) ∧ w' = w) = PO at *
  generalize textA t.data.toList width = ans at *
  by_cases e1 : width < 0
  · have d0 : decide (width < 0) = true := decide_eq_true e1
    rw [if_pos (.inl e1)] at hdef
    have HF := Lib.hid (HP.out [] 2 w hdef rfl)
    clear hdef HC0 hself
    go_enter Tryz.func125, Tryz.ntmps125
    go_wp2_with fail
    exact HF.out
  have d0 : decide (width < 0) = false := decide_eq_false e1
  by_cases e2 : 512 < width
  · have d1 : decide (512 < width) = true := decide_eq_true e2
    rw [if_pos (.inr e2)] at hdef
    have HF := Lib.hid (HP.out [] 2 w hdef rfl)
    clear hdef HC0 hself
    go_enter Tryz.func125, Tryz.ntmps125
    go_wp2_with fail
    exact HF.out
  have d1 : decide (512 < width) = false := decide_eq_false e2
  rw [if_neg (fun h => h.elim e1 e2)] at hdef
  obtain ⟨W, hW⟩ : ∃ W : Nat, width = (W : Int) := ⟨width.toNat, by omega⟩
  subst hW
  have hWb : W ≤ 512 := by omega
  rw [Int.toNat_natCast] at hdef
  by_cases e3 : (W : Int) < (t.size : Int)
  · have d2 : decide ((W : Int) < (t.size : Int)) = true := decide_eq_true e3
    rw [if_pos (.inl e3)] at hdef
    have HF := Lib.hid (HP.out [] 150 w hdef rfl)
    clear hdef HC0 hself
    go_enter Tryz.func125, Tryz.ntmps125
    go_wp2_with fail
    exact HF.out
  have d2 : decide ((W : Int) < (t.size : Int)) = false := decide_eq_false e3
  obtain ⟨E, hE⟩ : ∃ E, E = strF (cutZ t.data.toList) := ⟨_, rfl⟩
  have hcmp : (E.toList == t.toList) = decide (cutZ t.data.toList = t.data.toList) := by
    rw [fsame, hE, strF_list]
  rw [← hE] at HC0
  have HC := Lib.hid HC0
  by_cases e4 : cutZ t.data.toList = t.data.toList
  · have d4 : (E.toList == t.toList) = true := by rw [hcmp, decide_eq_true e4]
    rw [if_neg (fun h => h.elim e3 (fun x => x e4))] at hdef
    obtain ⟨S, hS⟩ : ∃ S, S = t.data.toList := ⟨_, rfl⟩
    have HLL := Lib.hid (show S.length = t.size by rw [hS]; rfl)
    rw [← hS] at hdef hself
    have HD := Lib.hid hdef
    have HSELF := Lib.hid hself
    clear hdef hself HC0 hE hcmp e4 hS
    go_enter Tryz.func125, Tryz.ntmps125
    go_wp2_with fail
    refine HC.out.mono ?_
    rintro e w1 ⟨rfl, rfl⟩
    go_wp2_with fail
    go_loopw [0] (fun ss wx => ∃ q : Nat, ss = .string (strF (S ++ List.replicate q 0)) ∧ t.size + q ≤ W ∧ wx = w1) (fun ss _ => W - strLen ss)
    case atStart => exact ⟨0, by rw [List.replicate_zero, List.append_nil, HSELF.out], by omega, rfl⟩
    case round =>
      obtain ⟨q, rfl, hq, rfl⟩ := hrel
      obtain ⟨X, hX⟩ : ∃ X, X = strF (S ++ List.replicate q 0) := ⟨_, rfl⟩
      have hXs : X.size = t.size + q := by rw [hX, strF_size, List.length_append, List.length_replicate, HLL.out]
      rw [← hX]
      by_cases e : X.size < W
      · have dx : decide ((X.size : Int) < (W : Int)) = true := decide_eq_true (by omega)
        have hcat : X ++ (⟨#[0]⟩ : ByteArray) = strF (S ++ List.replicate (q + 1) 0) := by
          rw [hX, show (⟨#[0]⟩ : ByteArray) = strF [0] from rfl, strF_app, List.append_assoc, ← List.replicate_succ']
        have HCAT := Lib.hid hcat
        have hXb : X.size ≤ 512 := by omega
        have HM : Hid (W - strLen (.string (X ++ (⟨#[0]⟩ : ByteArray))) < W - strLen (.string X)) := Lib.hid (by
          show W - (X ++ (⟨#[0]⟩ : ByteArray)).size < W - X.size
          rw [ByteArray.size_append, show (⟨#[0]⟩ : ByteArray).size = 1 from rfl]
          omega)
        have hq2 : t.size + (q + 1) ≤ W := by omega
        clear hcat hX
        go_wp2_with fail
        go_roundw
        case rel => exact ⟨q + 1, by rw [HCAT.out], hq2, by first | rfl | trivial⟩
        case measure => exact HM.out
      · have dx : decide ((X.size : Int) < (W : Int)) = false := decide_eq_false (by omega)
        have hqw : W - t.size = q := by omega
        have hd := HD.out
        rw [hqw] at hd
        have HF0 := HP.out _ 0 wr hd rfl
        rw [← hX] at HF0
        have HF := Lib.hid HF0
        clear hd HF0 hX
        go_wp2_with fail
        exact HF.out
  · have d4 : (E.toList == t.toList) = false := by rw [hcmp, decide_eq_false e4]
    rw [if_pos (.inr e4)] at hdef
    have HF := Lib.hid (HP.out [] 150 w hdef rfl)
    clear hdef hself HC0 hE hcmp e4
    go_enter Tryz.func125, Tryz.ntmps125
    go_wp2_with fail
    refine HC.out.mono ?_
    rintro e w1 ⟨rfl, rfl⟩
    go_wp2_with fail
    exact HF.out

set_option maxHeartbeats 3200000 in
set_option maxRecDepth 100000 in
theorem rdecimal_any (w : World) (t : ByteArray) (hs : t.size ≤ 9223372036854775807) : Calls Tryz.prog 41 #[.string t] w fun e w' => e = .returned (.tuple #[.int .i64 (decimalA t.data.toList).1, .int .i64 (decimalA t.data.toList).2]) ∧ w' = w := by
  have HP : Hid (∀ (n k : Nat) (w' : World), decimalA t.data.toList = (n, k) → w' = w → (fun e w' => e = Ending.returned (.tuple #[.int .i64 (decimalA t.data.toList).1, .int .i64 (decimalA t.data.toList).2]) ∧ w' = w) (.returned (.tuple #[.int .i64 n, .int .i64 k])) w') := Lib.hid fun n k w' h hb => ⟨by rw [h], hb⟩
  generalize (fun e w' => e = Ending.returned (.tuple #[.int .i64 (decimalA t.data.toList).1, .int .i64 (decimalA t.data.toList).2]) ∧ w' = w) = PO at *
  obtain ⟨S, hS⟩ : ∃ S, S = t.data.toList := ⟨_, rfl⟩
  have HS := Lib.hid hS
  have hll : S.length = t.size := by rw [hS]; rfl
  have hdef : decimalA S = if S = [] ∨ (S.getD 0 0 = 48 ∧ 1 < S.length) then (0, 150) else decEnd (decF S 0) := rfl
  rw [← hS] at HP
  generalize decimalA S = ans at *
  by_cases e0 : S = []
  · have hemp : t.toList.isEmpty = true := by rw [ByteArray.toList_eq, ← hS, e0]; rfl
    rw [if_pos (.inl e0)] at hdef
    have HF := Lib.hid (HP.out 0 150 w hdef rfl)
    clear hdef hS hll e0
    go_enter Tryz.func41, Tryz.ntmps41
    go_wp2_with fail
    exact HF.out
  have hpos : 0 < t.size := by rw [← hll]; exact List.length_pos_iff.2 e0
  have hemp : t.toList.isEmpty = false := by
    rw [ByteArray.toList_eq, ← hS]
    cases S with
    | nil => exact absurd rfl e0
    | cons _ _ => rfl
  have z0 : (0 : Int) < (t.size : Int) := by omega
  have hby0 := fbyte t 0 hpos
  rw [← hS] at hby0
  have loopy : Hid (¬ (t[0] = 48 ∧ 1 < t.size) → ans = decEnd (decF S 0)) := Lib.hid fun h => by
    rw [hdef, hby0, hll, if_neg (fun x => x.elim e0 h)]
  have HLL := Lib.hid hll
  have bad : Hid (t[0] = 48 → 1 < t.size → ans = (0, 150)) := Lib.hid fun h1 h2 => by
    rw [hdef, hby0, hll, if_pos (.inr ⟨h1, h2⟩)]
  clear hdef hS hll e0 hby0
  by_cases e1 : t[0] = 48
  · have f1 : ((((t[0]).toNat : Nat) : Int) == 48) = true := by rw [e1]; rfl
    by_cases e2 : 1 < t.size
    · have f2 : decide ((1 : Int) < (t.size : Int)) = true := decide_eq_true (by omega)
      have HF := Lib.hid (HP.out 0 150 w (bad.out e1 e2) rfl)
      clear e1 bad loopy
      go_enter Tryz.func41, Tryz.ntmps41
      go_wp2_with fail
      exact HF.out
    · have f2 : decide ((1 : Int) < (t.size : Int)) = false := decide_eq_false (by omega)
      have H0 := Lib.hid (loopy.out (fun h => e2 h.2))
      clear e1 bad loopy
      go_enter Tryz.func41, Tryz.ntmps41
      go_wp2_with fail
      go_loopw [4, 5] (fun sn si wx => ∃ n q : Nat, sn = .int .i64 n ∧ si = .int .i64 q ∧ q ≤ t.size ∧ n ≤ 90071992547409929 ∧ wx = w ∧ Hid (decF S 0 = decF (S.drop q) n)) (fun _ si _ => t.size - (intOf si).toNat)
      case atStart => exact ⟨0, 0, rfl, rfl, Nat.zero_le _, Nat.zero_le _, rfl, Lib.hid rfl⟩
      case round =>
        obtain ⟨n, q, rfl, rfl, hq, hn, rfl, hJ⟩ := hrel
        by_cases e : q < t.size
        · have dq : decide ((q : Int) < (t.size : Int)) = true := decide_eq_true (by omega)
          have hqz : (q : Int) < t.size := by omega
          have hqS : q < S.length := by rw [HLL.out]; exact e
          have hby := fbyte t q e
          rw [← HS.out] at hby
          have hdr : S.drop q = S.getD q 0 :: S.drop (q + 1) := by
            rw [List.drop_eq_getElem_cons hqS, List.getD_eq_getElem?_getD, List.getElem?_eq_getElem hqS]
            rfl
          have hj := hJ.out
          rw [hdr, hby, decF] at hj
          have hx := UInt8.toNat_lt (t[q])
          by_cases g1 : (t[q]).toNat < 48
          · have k1 : decide (((t[q]).toNat : Int) < 48) = true := decide_eq_true (by omega)
            rw [if_pos (.inl g1)] at hj
            have HF := Lib.hid (HP.out 0 150 wr (by rw [H0.out, hj]; rfl) rfl)
            clear hj hJ hby hdr g1
            go_wp2_with fail
            exact HF.out
          · have k1 : decide (((t[q]).toNat : Int) < 48) = false := decide_eq_false (by omega)
            by_cases g2 : 57 < (t[q]).toNat
            · have k2 : decide ((57 : Int) < ((t[q]).toNat : Int)) = true := decide_eq_true (by omega)
              rw [if_pos (.inr g2)] at hj
              have HF := Lib.hid (HP.out 0 150 wr (by rw [H0.out, hj]; rfl) rfl)
              clear hj hJ hby hdr g1 g2
              go_wp2_with fail
              exact HF.out
            · have k2 : decide ((57 : Int) < ((t[q]).toNat : Int)) = false := decide_eq_false (by omega)
              rw [if_neg (fun h => h.elim g1 g2)] at hj
              obtain ⟨y, hy⟩ : ∃ y, y = (t[q]).toNat - 48 := ⟨_, rfl⟩
              have hyz : ((t[q]).toNat : Int) - 48 = (y : Int) := by omega
              have hy9 : y ≤ 9 := by omega
              rw [← hy] at hj
              by_cases g3 : n ≤ 9007199254740992
              · have k3 : decide ((n : Int) ≤ 9007199254740992) = true := decide_eq_true (by omega)
                rw [if_pos g3] at hj
                obtain ⟨k, hk⟩ : ∃ k, k = 10 * n := ⟨_, rfl⟩
                have hkz : (10 : Int) * (n : Int) = (k : Int) := by omega
                obtain ⟨m, hm⟩ : ∃ m, m = k + y := ⟨_, rfl⟩
                have hmz : (k : Int) + (y : Int) = (m : Int) := by omega
                have hmb : m ≤ 90071992547409929 := by omega
                have HJ2 := Lib.hid (show decF S 0 = decF (S.drop (q + 1)) m by rw [hj, hm, hk])
                clear hj hJ hby hdr g1 g2 g3 hy hk hm
                go_wp2_with fail
                go_roundw
                case rel => exact ⟨m, q + 1, by first | rfl | rw [hmz], by go_num, by omega, hmb, by first | rfl | trivial, HJ2⟩
                case measure => simp [intOf]; omega
              · have k3 : decide ((n : Int) ≤ 9007199254740992) = false := decide_eq_false (by omega)
                rw [if_neg g3] at hj
                have HJ2 := Lib.hid hj
                clear hj hJ hby hdr g1 g2 g3 hy
                go_wp2_with fail
                go_roundw
                case rel => exact ⟨n, q + 1, rfl, by go_num, by omega, hn, by first | rfl | trivial, HJ2⟩
                case measure => simp [intOf]; omega
        · have hqe : q = t.size := by omega
          have dq : decide ((q : Int) < (t.size : Int)) = false := decide_eq_false (by omega)
          have hj := hJ.out
          rw [List.drop_of_length_le (by rw [HLL.out, hqe]; exact Nat.le_refl _), decF] at hj
          have hans : ans = if 9007199254740992 < n then (0, 3) else (n, 0) := by rw [H0.out, hj]; rfl
          by_cases g6 : 9007199254740992 < n
          · have f6 : decide ((9007199254740992 : Int) < (n : Int)) = true := decide_eq_true (by omega)
            rw [if_pos g6] at hans
            have HF := Lib.hid (HP.out 0 3 wr hans rfl)
            clear hans g6 hj hJ hqe
            go_wp2_with fail
            exact HF.out
          · have f6 : decide ((9007199254740992 : Int) < (n : Int)) = false := decide_eq_false (by omega)
            rw [if_neg g6] at hans
            have HF := Lib.hid (HP.out n 0 wr hans rfl)
            clear hans g6 hj hJ hqe
            go_wp2_with fail
            exact HF.out
  · have f1 : ((((t[0]).toNat : Nat) : Int) == 48) = false := by
      refine beq_false_of_ne fun h => e1 ?_
      apply UInt8.toNat_inj.1
      show (t[0]).toNat = 48
      omega
    have H0 := Lib.hid (loopy.out (fun h => e1 h.1))
    clear e1 bad loopy
    go_enter Tryz.func41, Tryz.ntmps41
    go_wp2_with fail
    go_loopw [4, 5] (fun sn si wx => ∃ n q : Nat, sn = .int .i64 n ∧ si = .int .i64 q ∧ q ≤ t.size ∧ n ≤ 90071992547409929 ∧ wx = w ∧ Hid (decF S 0 = decF (S.drop q) n)) (fun _ si _ => t.size - (intOf si).toNat)
    case atStart => exact ⟨0, 0, rfl, rfl, Nat.zero_le _, Nat.zero_le _, rfl, Lib.hid rfl⟩
    case round =>
      obtain ⟨n, q, rfl, rfl, hq, hn, rfl, hJ⟩ := hrel
      by_cases e : q < t.size
      · have dq : decide ((q : Int) < (t.size : Int)) = true := decide_eq_true (by omega)
        have hqz : (q : Int) < t.size := by omega
        have hqS : q < S.length := by rw [HLL.out]; exact e
        have hby := fbyte t q e
        rw [← HS.out] at hby
        have hdr : S.drop q = S.getD q 0 :: S.drop (q + 1) := by
          rw [List.drop_eq_getElem_cons hqS, List.getD_eq_getElem?_getD, List.getElem?_eq_getElem hqS]
          rfl
        have hj := hJ.out
        rw [hdr, hby, decF] at hj
        have hx := UInt8.toNat_lt (t[q])
        by_cases g1 : (t[q]).toNat < 48
        · have k1 : decide (((t[q]).toNat : Int) < 48) = true := decide_eq_true (by omega)
          rw [if_pos (.inl g1)] at hj
          have HF := Lib.hid (HP.out 0 150 wr (by rw [H0.out, hj]; rfl) rfl)
          clear hj hJ hby hdr g1
          go_wp2_with fail
          exact HF.out
        · have k1 : decide (((t[q]).toNat : Int) < 48) = false := decide_eq_false (by omega)
          by_cases g2 : 57 < (t[q]).toNat
          · have k2 : decide ((57 : Int) < ((t[q]).toNat : Int)) = true := decide_eq_true (by omega)
            rw [if_pos (.inr g2)] at hj
            have HF := Lib.hid (HP.out 0 150 wr (by rw [H0.out, hj]; rfl) rfl)
            clear hj hJ hby hdr g1 g2
            go_wp2_with fail
            exact HF.out
          · have k2 : decide ((57 : Int) < ((t[q]).toNat : Int)) = false := decide_eq_false (by omega)
            rw [if_neg (fun h => h.elim g1 g2)] at hj
            obtain ⟨y, hy⟩ : ∃ y, y = (t[q]).toNat - 48 := ⟨_, rfl⟩
            have hyz : ((t[q]).toNat : Int) - 48 = (y : Int) := by omega
            have hy9 : y ≤ 9 := by omega
            rw [← hy] at hj
            by_cases g3 : n ≤ 9007199254740992
            · have k3 : decide ((n : Int) ≤ 9007199254740992) = true := decide_eq_true (by omega)
              rw [if_pos g3] at hj
              obtain ⟨k, hk⟩ : ∃ k, k = 10 * n := ⟨_, rfl⟩
              have hkz : (10 : Int) * (n : Int) = (k : Int) := by omega
              obtain ⟨m, hm⟩ : ∃ m, m = k + y := ⟨_, rfl⟩
              have hmz : (k : Int) + (y : Int) = (m : Int) := by omega
              have hmb : m ≤ 90071992547409929 := by omega
              have HJ2 := Lib.hid (show decF S 0 = decF (S.drop (q + 1)) m by rw [hj, hm, hk])
              clear hj hJ hby hdr g1 g2 g3 hy hk hm
              go_wp2_with fail
              go_roundw
              case rel => exact ⟨m, q + 1, by first | rfl | rw [hmz], by go_num, by omega, hmb, by first | rfl | trivial, HJ2⟩
              case measure => simp [intOf]; omega
            · have k3 : decide ((n : Int) ≤ 9007199254740992) = false := decide_eq_false (by omega)
              rw [if_neg g3] at hj
              have HJ2 := Lib.hid hj
              clear hj hJ hby hdr g1 g2 g3 hy
              go_wp2_with fail
              go_roundw
              case rel => exact ⟨n, q + 1, rfl, by go_num, by omega, hn, by first | rfl | trivial, HJ2⟩
              case measure => simp [intOf]; omega
      · have hqe : q = t.size := by omega
        have dq : decide ((q : Int) < (t.size : Int)) = false := decide_eq_false (by omega)
        have hj := hJ.out
        rw [List.drop_of_length_le (by rw [HLL.out, hqe]; exact Nat.le_refl _), decF] at hj
        have hans : ans = if 9007199254740992 < n then (0, 3) else (n, 0) := by rw [H0.out, hj]; rfl
        by_cases g6 : 9007199254740992 < n
        · have f6 : decide ((9007199254740992 : Int) < (n : Int)) = true := decide_eq_true (by omega)
          rw [if_pos g6] at hans
          have HF := Lib.hid (HP.out 0 3 wr hans rfl)
          clear hans g6 hj hJ hqe
          go_wp2_with fail
          exact HF.out
        · have f6 : decide ((9007199254740992 : Int) < (n : Int)) = false := decide_eq_false (by omega)
          rw [if_neg g6] at hans
          have HF := Lib.hid (HP.out n 0 wr hans rfl)
          clear hans g6 hj hJ hqe
          go_wp2_with fail
          exact HF.out
end Go.Proofs.YtdjmfkodjjjhfaaGreatDoor
