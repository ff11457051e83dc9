/- The reference of fields: Text, Decimal. Written ahead of stage 15. -/
import Derived.Test.YthnmodbfejmibaaDoorFdc
namespace Go.Proofs.YthnmodbfejmibaaDoor
open Go.RowKit

set_option maxHeartbeats 1600000 in
set_option maxRecDepth 100000 in
theorem rtext_any (w : World) (t : ByteArray) (width : Int) (hs : t.size ≤ 9223372036854775807) (h3 : -9223372036854775808 ≤ width) (h4 : width ≤ 9223372036854775807) :
    Calls Tryd.prog 16 #[.string t, .int .i64 width] w fun e w' => e = .returned (.tuple #[.string (strF (textA t.data.toList width).1), .int .i64 (textA t.data.toList width).2]) ∧ w' = w := by
  have HP : Hid (∀ (X : List UInt8) (k : Nat) (w' : World), textA t.data.toList width = (X, k) → w' = w → (fun e w' => e = Ending.returned (.tuple #[.string (strF (textA t.data.toList width).1), .int .i64 (textA t.data.toList width).2]) ∧ w' = w) (.returned (.tuple #[.string (strF X), .int .i64 k])) w') := Lib.hid fun X k w' h hb => ⟨by rw [h], hb⟩
  have hdef : textA t.data.toList width = if width < 0 ∨ 512 < width then ([], 2)
    else if width < (t.size : Int) ∨ cutZ t.data.toList ≠ t.data.toList then ([], 150)
    else (t.data.toList ++ List.replicate (width.toNat - t.size) 0, 0) := rfl
  have HC0 := rcutz_any w t hs
  have hself := strF_self t
  generalize (fun e w' => e = Ending.returned (.tuple #[.string (strF (textA t.data.toList width).1), .int .i64 (textA t.data.toList width).2]) ∧ w' = w) = PO at *
  generalize textA t.data.toList width = ans at *
  by_cases e1 : width < 0
  · have d0 : decide (width < 0) = true := decide_eq_true e1
    rw [if_pos (.inl e1)] at hdef
    have HF := Lib.hid (HP.out [] 2 w hdef rfl)
    clear hdef HC0 hself
    go_enter Tryd.func16, Tryd.ntmps16
    go_wp2_with fail
    exact HF.out
  have d0 : decide (width < 0) = false := decide_eq_false e1
  by_cases e2 : 512 < width
  · have d1 : decide (512 < width) = true := decide_eq_true e2
    rw [if_pos (.inr e2)] at hdef
    have HF := Lib.hid (HP.out [] 2 w hdef rfl)
    clear hdef HC0 hself
    go_enter Tryd.func16, Tryd.ntmps16
    go_wp2_with fail
    exact HF.out
  have d1 : decide (512 < width) = false := decide_eq_false e2
  rw [if_neg (fun h => h.elim e1 e2)] at hdef
  obtain ⟨W, hW⟩ : ∃ W : Nat, width = (W : Int) := ⟨width.toNat, by omega⟩
  subst hW
  have hWb : W ≤ 512 := by omega
  rw [Int.toNat_natCast] at hdef
  by_cases e3 : (W : Int) < (t.size : Int)
  · have d2 : decide ((W : Int) < (t.size : Int)) = true := decide_eq_true e3
    rw [if_pos (.inl e3)] at hdef
    have HF := Lib.hid (HP.out [] 150 w hdef rfl)
    clear hdef HC0 hself
    go_enter Tryd.func16, Tryd.ntmps16
    go_wp2_with fail
    exact HF.out
  have d2 : decide ((W : Int) < (t.size : Int)) = false := decide_eq_false e3
  obtain ⟨E, hE⟩ : ∃ E, E = strF (cutZ t.data.toList) := ⟨_, rfl⟩
  have hcmp : (E.toList == t.toList) = decide (cutZ t.data.toList = t.data.toList) := by
    rw [fsame, hE, strF_list]
  rw [← hE] at HC0
  have HC := Lib.hid HC0
  by_cases e4 : cutZ t.data.toList = t.data.toList
  · have d4 : (E.toList == t.toList) = true := by rw [hcmp, decide_eq_true e4]
    rw [if_neg (fun h => h.elim e3 (fun x => x e4))] at hdef
    obtain ⟨S, hS⟩ : ∃ S, S = t.data.toList := ⟨_, rfl⟩
    have HLL := Lib.hid (show S.length = t.size by rw [hS]; rfl)
    rw [← hS] at hdef hself
    have HD := Lib.hid hdef
    have HSELF := Lib.hid hself
    clear hdef hself HC0 hE hcmp e4 hS
    go_enter Tryd.func16, Tryd.ntmps16
    go_wp2_with fail
    refine HC.out.mono ?_
    rintro e w1 ⟨rfl, rfl⟩
    go_wp2_with fail
    go_loopw [0] (fun ss wx => ∃ q : Nat, ss = .string (strF (S ++ List.replicate q 0)) ∧ t.size + q ≤ W ∧ wx = w1) (fun ss _ => W - strLen ss)
    case atStart => exact ⟨0, by rw [List.replicate_zero, List.append_nil, HSELF.out], by omega, rfl⟩
    case round =>
      obtain ⟨q, rfl, hq, rfl⟩ := hrel
      obtain ⟨X, hX⟩ : ∃ X, X = strF (S ++ List.replicate q 0) := ⟨_, rfl⟩
      have hXs : X.size = t.size + q := by rw [hX, strF_size, List.length_append, List.length_replicate, HLL.out]
      rw [← hX]
      by_cases e : X.size < W
      · have dx : decide ((X.size : Int) < (W : Int)) = true := decide_eq_true (by omega)
        have hcat : X ++ (⟨#[0]⟩ : ByteArray) = strF (S ++ List.replicate (q + 1) 0) := by
          rw [hX, show (⟨#[0]⟩ : ByteArray) = strF [0] from rfl, strF_app, List.append_assoc, ← List.replicate_succ']
        have HCAT := Lib.hid hcat
        have hXb : X.size ≤ 512 := by omega
        have HM : Hid (W - strLen (.string (X ++ (⟨#[0]⟩ : ByteArray))) < W - strLen (.string X)) := Lib.hid (by
          show W - (X ++ (⟨#[0]⟩ : ByteArray)).size < W - X.size
          rw [ByteArray.size_append, show (⟨#[0]⟩ : ByteArray).size = 1 from rfl]
          omega)
        have hq2 : t.size + (q + 1) ≤ W := by omega
        clear hcat hX
        go_wp2_with fail
        go_roundw
        case rel => exact ⟨q + 1, by rw [HCAT.out], hq2, by first | rfl | trivial⟩
        case measure => exact HM.out
      · have dx : decide ((X.size : Int) < (W : Int)) = false := decide_eq_false (by omega)
        have hqw : W - t.size = q := by omega
        have hd := HD.out
        rw [hqw] at hd
        have HF0 := HP.out _ 0 wr hd rfl
        rw [← hX] at HF0
        have HF := Lib.hid HF0
        clear hd HF0 hX
        go_wp2_with fail
        exact HF.out
  · have d4 : (E.toList == t.toList) = false := by rw [hcmp, decide_eq_false e4]
    rw [if_pos (.inr e4)] at hdef
    have HF := Lib.hid (HP.out [] 150 w hdef rfl)
    clear hdef hself HC0 hE hcmp e4
    go_enter Tryd.func16, Tryd.ntmps16
    go_wp2_with fail
    refine HC.out.mono ?_
    rintro e w1 ⟨rfl, rfl⟩
    go_wp2_with fail
    exact HF.out

set_option maxHeartbeats 3200000 in
set_option maxRecDepth 100000 in
theorem rdecimal_any (w : World) (t : ByteArray) (hs : t.size ≤ 9223372036854775807) : Calls Tryd.prog 20 #[.string t] w fun e w' => e = .returned (.tuple #[.int .i64 (decimalA t.data.toList).1, .int .i64 (decimalA t.data.toList).2]) ∧ w' = w := by
  have HP : Hid (∀ (n k : Nat) (w' : World), decimalA t.data.toList = (n, k) → w' = w → (fun e w' => e = Ending.returned (.tuple #[.int .i64 (decimalA t.data.toList).1, .int .i64 (decimalA t.data.toList).2]) ∧ w' = w) (.returned (.tuple #[.int .i64 n, .int .i64 k])) w') := Lib.hid fun n k w' h hb => ⟨by rw [h], hb⟩
  generalize (fun e w' => e = Ending.returned (.tuple #[.int .i64 (decimalA t.data.toList).1, .int .i64 (decimalA t.data.toList).2]) ∧ w' = w) = PO at *
  obtain ⟨S, hS⟩ : ∃ S, S = t.data.toList := ⟨_, rfl⟩
  have HS := Lib.hid hS
  have hll : S.length = t.size := by rw [hS]; rfl
  have hdef : decimalA S = if S = [] ∨ (S.getD 0 0 = 48 ∧ 1 < S.length) then (0, 150) else decEnd (decF S 0) := rfl
  rw [← hS] at HP
  generalize decimalA S = ans at *
  by_cases e0 : S = []
  · have hemp : t.toList.isEmpty = true := by rw [ByteArray.toList_eq, ← hS, e0]; rfl
    rw [if_pos (.inl e0)] at hdef
    have HF := Lib.hid (HP.out 0 150 w hdef rfl)
    clear hdef hS hll e0
    go_enter Tryd.func20, Tryd.ntmps20
    go_wp2_with fail
    exact HF.out
  have hpos : 0 < t.size := by rw [← hll]; exact List.length_pos_iff.2 e0
  have hemp : t.toList.isEmpty = false := by
    rw [ByteArray.toList_eq, ← hS]
    cases S with
    | nil => exact absurd rfl e0
    | cons _ _ => rfl
  have z0 : (0 : Int) < (t.size : Int) := by omega
  have hby0 := fbyte t 0 hpos
  rw [← hS] at hby0
  have loopy : Hid (¬ (t[0] = 48 ∧ 1 < t.size) → ans = decEnd (decF S 0)) := Lib.hid fun h => by
    rw [hdef, hby0, hll, if_neg (fun x => x.elim e0 h)]
  have HLL := Lib.hid hll
  have bad : Hid (t[0] = 48 → 1 < t.size → ans = (0, 150)) := Lib.hid fun h1 h2 => by
    rw [hdef, hby0, hll, if_pos (.inr ⟨h1, h2⟩)]
  clear hdef hS hll e0 hby0
  by_cases e1 : t[0] = 48
  · have f1 : ((((t[0]).toNat : Nat) : Int) == 48) = true := by rw [e1]; rfl
    by_cases e2 : 1 < t.size
    · have f2 : decide ((1 : Int) < (t.size : Int)) = true := decide_eq_true (by omega)
      have HF := Lib.hid (HP.out 0 150 w (bad.out e1 e2) rfl)
      clear e1 bad loopy
      go_enter Tryd.func20, Tryd.ntmps20
      go_wp2_with fail
      exact HF.out
    · have f2 : decide ((1 : Int) < (t.size : Int)) = false := decide_eq_false (by omega)
      have H0 := Lib.hid (loopy.out (fun h => e2 h.2))
      clear e1 bad loopy
      go_enter Tryd.func20, Tryd.ntmps20
      go_wp2_with fail
      go_loopw [4, 5] (fun sn si wx => ∃ n q : Nat, sn = .int .i64 n ∧ si = .int .i64 q ∧ q ≤ t.size ∧ n ≤ 90071992547409929 ∧ wx = w ∧ Hid (decF S 0 = decF (S.drop q) n)) (fun _ si _ => t.size - (intOf si).toNat)
      case atStart => exact ⟨0, 0, rfl, rfl, Nat.zero_le _, Nat.zero_le _, rfl, Lib.hid rfl⟩
      case round =>
        obtain ⟨n, q, rfl, rfl, hq, hn, rfl, hJ⟩ := hrel
        by_cases e : q < t.size
        · have dq : decide ((q : Int) < (t.size : Int)) = true := decide_eq_true (by omega)
          have hqz : (q : Int) < t.size := by omega
          have hqS : q < S.length := by rw [HLL.out]; exact e
          have hby := fbyte t q e
          rw [← HS.out] at hby
          have hdr : S.drop q = S.getD q 0 :: S.drop (q + 1) := by
            rw [List.drop_eq_getElem_cons hqS, List.getD_eq_getElem?_getD, List.getElem?_eq_getElem hqS]
            rfl
          have hj := hJ.out
          rw [hdr, hby, decF] at hj
          have hx := UInt8.toNat_lt (t[q])
          by_cases g1 : (t[q]).toNat < 48
          · have k1 : decide (((t[q]).toNat : Int) < 48) = true := decide_eq_true (by omega)
            rw [if_pos (.inl g1)] at hj
            have HF := Lib.hid (HP.out 0 150 wr (by rw [H0.out, hj]; rfl) rfl)
            clear hj hJ hby hdr g1
            go_wp2_with fail
            exact HF.out
          · have k1 : decide (((t[q]).toNat : Int) < 48) = false := decide_eq_false (by omega)
            by_cases g2 : 57 < (t[q]).toNat
            · have k2 : decide ((57 : Int) < ((t[q]).toNat : Int)) = true := decide_eq_true (by omega)
              rw [if_pos (.inr g2)] at hj
              have HF := Lib.hid (HP.out 0 150 wr (by rw [H0.out, hj]; rfl) rfl)
              clear hj hJ hby hdr g1 g2
              go_wp2_with fail
              exact HF.out
            · have k2 : decide ((57 : Int) < ((t[q]).toNat : Int)) = false := decide_eq_false (by omega)
              rw [if_neg (fun h => h.elim g1 g2)] at hj
              obtain ⟨y, hy⟩ : ∃ y, y = (t[q]).toNat - 48 := ⟨_, rfl⟩
              have hyz : ((t[q]).toNat : Int) - 48 = (y : Int) := by omega
              have hy9 : y ≤ 9 := by omega
              rw [← hy] at hj
              by_cases g3 : n ≤ 9007199254740992
              · have k3 : decide ((n : Int) ≤ 9007199254740992) = true := decide_eq_true (by omega)
                rw [if_pos g3] at hj
                obtain ⟨k, hk⟩ : ∃ k, k = 10 * n := ⟨_, rfl⟩
                have hkz : (10 : Int) * (n : Int) = (k : Int) := by omega
                obtain ⟨m, hm⟩ : ∃ m, m = k + y := ⟨_, rfl⟩
                have hmz : (k : Int) + (y : Int) = (m : Int) := by omega
                have hmb : m ≤ 90071992547409929 := by omega
                have HJ2 := Lib.hid (show decF S 0 = decF (S.drop (q + 1)) m by rw [hj, hm, hk])
                clear hj hJ hby hdr g1 g2 g3 hy hk hm
                go_wp2_with fail
                go_roundw
                case rel => exact ⟨m, q + 1, by first | rfl | rw [hmz], by go_num, by omega, hmb, by first | rfl | trivial, HJ2⟩
                case measure => simp [intOf]; omega
              · have k3 : decide ((n : Int) ≤ 9007199254740992) = false := decide_eq_false (by omega)
                rw [if_neg g3] at hj
                have HJ2 := Lib.hid hj
                clear hj hJ hby hdr g1 g2 g3 hy
                go_wp2_with fail
                go_roundw
                case rel => exact ⟨n, q + 1, rfl, by go_num, by omega, hn, by first | rfl | trivial, HJ2⟩
                case measure => simp [intOf]; omega
        · have hqe : q = t.size := by omega
          have dq : decide ((q : Int) < (t.size : Int)) = false := decide_eq_false (by omega)
          have hj := hJ.out
          rw [List.drop_of_length_le (by rw [HLL.out, hqe]; exact Nat.le_refl _), decF] at hj
          have hans : ans = if 9007199254740992 < n then (0, 3) else (n, 0) := by rw [H0.out, hj]; rfl
          by_cases g6 : 9007199254740992 < n
          · have f6 : decide ((9007199254740992 : Int) < (n : Int)) = true := decide_eq_true (by omega)
            rw [if_pos g6] at hans
            have HF := Lib.hid (HP.out 0 3 wr hans rfl)
            clear hans g6 hj hJ hqe
            go_wp2_with fail
            exact HF.out
          · have f6 : decide ((9007199254740992 : Int) < (n : Int)) = false := decide_eq_false (by omega)
            rw [if_neg g6] at hans
            have HF := Lib.hid (HP.out n 0 wr hans rfl)
            clear hans g6 hj hJ hqe
            go_wp2_with fail
            exact HF.out
  · have f1 : ((((t[0]).toNat : Nat) : Int) == 48) = false := by
      refine beq_false_of_ne fun h => e1 ?_
      apply UInt8.toNat_inj.1
      show (t[0]).toNat = 48
      omega
    have H0 := Lib.hid (loopy.out (fun h => e1 h.1))
    clear e1 bad loopy
    go_enter Tryd.func20, Tryd.ntmps20
    go_wp2_with fail
    go_loopw [4, 5] (fun sn si wx => ∃ n q : Nat, sn = .int .i64 n ∧ si = .int .i64 q ∧ q ≤ t.size ∧ n ≤ 90071992547409929 ∧ wx = w ∧ Hid (decF S 0 = decF (S.drop q) n)) (fun _ si _ => t.size - (intOf si).toNat)
    case atStart => exact ⟨0, 0, rfl, rfl, Nat.zero_le _, Nat.zero_le _, rfl, Lib.hid rfl⟩
    case round =>
      obtain ⟨n, q, rfl, rfl, hq, hn, rfl, hJ⟩ := hrel
      by_cases e : q < t.size
      · have dq : decide ((q : Int) < (t.size : Int)) = true := decide_eq_true (by omega)
        have hqz : (q : Int) < t.size := by omega
        have hqS : q < S.length := by rw [HLL.out]; exact e
        have hby := fbyte t q e
        rw [← HS.out] at hby
        have hdr : S.drop q = S.getD q 0 :: S.drop (q + 1) := by
          rw [List.drop_eq_getElem_cons hqS, List.getD_eq_getElem?_getD, List.getElem?_eq_getElem hqS]
          rfl
        have hj := hJ.out
        rw [hdr, hby, decF] at hj
        have hx := UInt8.toNat_lt (t[q])
        by_cases g1 : (t[q]).toNat < 48
        · have k1 : decide (((t[q]).toNat : Int) < 48) = true := decide_eq_true (by omega)
          rw [if_pos (.inl g1)] at hj
          have HF := Lib.hid (HP.out 0 150 wr (by rw [H0.out, hj]; rfl) rfl)
          clear hj hJ hby hdr g1
          go_wp2_with fail
          exact HF.out
        · have k1 : decide (((t[q]).toNat : Int) < 48) = false := decide_eq_false (by omega)
          by_cases g2 : 57 < (t[q]).toNat
          · have k2 : decide ((57 : Int) < ((t[q]).toNat : Int)) = true := decide_eq_true (by omega)
            rw [if_pos (.inr g2)] at hj
            have HF := Lib.hid (HP.out 0 150 wr (by rw [H0.out, hj]; rfl) rfl)
            clear hj hJ hby hdr g1 g2
            go_wp2_with fail
            exact HF.out
          · have k2 : decide ((57 : Int) < ((t[q]).toNat : Int)) = false := decide_eq_false (by omega)
            rw [if_neg (fun h => h.elim g1 g2)] at hj
            obtain ⟨y, hy⟩ : ∃ y, y = (t[q]).toNat - 48 := ⟨_, rfl⟩
            have hyz : ((t[q]).toNat : Int) - 48 = (y : Int) := by omega
            have hy9 : y ≤ 9 := by omega
            rw [← hy] at hj
            by_cases g3 : n ≤ 9007199254740992
            · have k3 : decide ((n : Int) ≤ 9007199254740992) = true := decide_eq_true (by omega)
              rw [if_pos g3] at hj
              obtain ⟨k, hk⟩ : ∃ k, k = 10 * n := ⟨_, rfl⟩
              have hkz : (10 : Int) * (n : Int) = (k : Int) := by omega
              obtain ⟨m, hm⟩ : ∃ m, m = k + y := ⟨_, rfl⟩
              have hmz : (k : Int) + (y : Int) = (m : Int) := by omega
              have hmb : m ≤ 90071992547409929 := by omega
              have HJ2 := Lib.hid (show decF S 0 = decF (S.drop (q + 1)) m by rw [hj, hm, hk])
              clear hj hJ hby hdr g1 g2 g3 hy hk hm
              go_wp2_with fail
              go_roundw
              case rel => exact ⟨m, q + 1, by first | rfl | rw [hmz], by go_num, by omega, hmb, by first | rfl | trivial, HJ2⟩
              case measure => simp [intOf]; omega
            · have k3 : decide ((n : Int) ≤ 9007199254740992) = false := decide_eq_false (by omega)
              rw [if_neg g3] at hj
              have HJ2 := Lib.hid hj
              clear hj hJ hby hdr g1 g2 g3 hy
              go_wp2_with fail
              go_roundw
              case rel => exact ⟨n, q + 1, rfl, by go_num, by omega, hn, by first | rfl | trivial, HJ2⟩
              case measure => simp [intOf]; omega
      · have hqe : q = t.size := by omega
        have dq : decide ((q : Int) < (t.size : Int)) = false := decide_eq_false (by omega)
        have hj := hJ.out
        rw [List.drop_of_length_le (by rw [HLL.out, hqe]; exact Nat.le_refl _), decF] at hj
        have hans : ans = if 9007199254740992 < n then (0, 3) else (n, 0) := by rw [H0.out, hj]; rfl
        by_cases g6 : 9007199254740992 < n
        · have f6 : decide ((9007199254740992 : Int) < (n : Int)) = true := decide_eq_true (by omega)
          rw [if_pos g6] at hans
          have HF := Lib.hid (HP.out 0 3 wr hans rfl)
          clear hans g6 hj hJ hqe
          go_wp2_with fail
          exact HF.out
        · have f6 : decide ((9007199254740992 : Int) < (n : Int)) = false := decide_eq_false (by omega)
          rw [if_neg g6] at hans
          have HF := Lib.hid (HP.out n 0 wr hans rfl)
          clear hans g6 hj hJ hqe
          go_wp2_with fail
          exact HF.out
end Go.Proofs.YthnmodbfejmibaaDoor
