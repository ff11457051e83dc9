/- The reference of fields: Text, Decimal. Written ahead of stage 15. -/
import Derived.Test.YtiihkjloenlfmaaDoorFdc
namespace Go.Proofs.YtiihkjloenlfmaaDoor
open Go.RowKit

set_option maxHeartbeats 1600000 in
set_option maxRecDepth 100000 in
theorem rtext_any (w : World) (t : ByteArray) (width : Int) (hs : t.size ≤ 9223372036854775807) (h3 : -9223372036854775808 ≤ width) (h4 : width ≤ 9223372036854775807) :
    Calls Tryd.prog 39 #[.string t, .int .i64 width] w fun e w' => e = .returned (.tuple #[.string (strF (textA t.data.toList width).1), .int .i64 (textA t.data.toList width).2]) ∧ w' = w := by
  have HP : Hid (∀ (X : List UInt8) (k : Nat) (w' : World), textA t.data.toList width = (X, k) → w' = w → (fun e w' => e = Ending.returned (.tuple #[.string (strF (textA t.data.toList width).1), .int .i64 (textA t.data.toList width).2]) ∧ w' = w) (.returned (.tuple #[.string (strF X), .int .i64 k])) w') := Lib.hid fun X k w' h hb => ⟨by rw [h], hb⟩
  have hdef : textA t.data.toList width = if width < 0 ∨ 512 < width then ([], 2)
    else if width < (t.size : Int) ∨ cutZ t.data.toList ≠ t.data.toList then ([], 150)
    else (t.data.toList ++ List.replicate (width.toNat - t.size) 0, 0) := rfl
  have HC0 := rcutz_any w t hs
  have hself := strF_self t
  generalize (fun e w' => e = Ending.returned (.tuple #[.string (strF (textA t.data.toList width).1), .int .i64 (textA t.data.toList width).2]) ∧ w' = w) = PO at *
  generalize textA t.data.toList width = ans at *
  by_cases e1 : width < 0
  · have d0 : decide (width < 0) = true := decide_eq_true e1
    rw [if_pos (.inl e1)] at hdef
    have HF := Lib.hid (HP.out [] 2 w hdef rfl)
    clear hdef HC0 hself
    go_enter Tryd.func39, Tryd.ntmps39
    go_wp2_with fail
    exact HF.out
  have d0 : decide (width < 0) = false := decide_eq_false e1
  by_cases e2 : 512 < width
  · have d1 : decide (512 < width) = true := decide_eq_true e2
    rw [if_pos (.inr e2)] at hdef
    have HF := Lib.hid (HP.out [] 2 w hdef rfl)
    clear hdef HC0 hself
    go_enter Tryd.func39, Tryd.ntmps39
    go_wp2_with fail
    exact HF.out
  have d1 : decide (512 < width) = false := decide_eq_false e2
  rw [if_neg (fun h => h.elim e1 e2)] at hdef
  obtain ⟨W, hW⟩ : ∃ W : Nat, width = (W : Int) := ⟨width.toNat, by omega⟩
  subst hW
  have hWb : W ≤ 512 := by omega
  rw [Int.toNat_natCast] at hdef
  by_cases e3 : (W : Int) < (t.size : Int)
  · have d2 : decide ((W : Int) < (t.size : Int)) = true := decide_eq_true e3
    rw [if_pos (.inl e3)] at hdef
    have HF := Lib.hid (HP.out [] 150 w hdef rfl)
    clear hdef HC0 hself
    go_enter Tryd.func39, Tryd.ntmps39
    go_wp2_with fail
    exact HF.out
  have d2 : decide ((W : Int) < (t.size : Int)) = false := decide_eq_false e3
  obtain ⟨E, hE⟩ : ∃ E, E = strF (cutZ t.data.toList) := ⟨_, rfl⟩
  have hcmp : (E.toList == t.toList) = decide (cutZ t.data.toList = t.data.toList) := by
    rw [fsame, hE, strF_list]
  rw [← hE] at HC0
  have HC := Lib.hid HC0
  by_cases e4 : cutZ t.data.toList = t.data.toList
  · have d4 : (E.toList == t.toList) = true := by rw [hcmp, decide_eq_true e4]
    rw [if_neg (fun h => h.elim e3 (fun x => x e4))] at hdef
    obtain ⟨S, hS⟩ : ∃ S, S = t.data.toList := ⟨_, rfl⟩
    have HLL := Lib.hid (show S.length = t.size by rw [hS]; rfl)
    rw [← hS] at hdef hself
    have HD := Lib.hid hdef
    have HSELF := Lib.hid hself
    clear hdef hself HC0 hE hcmp e4 hS
    go_enter Tryd.func39, Tryd.ntmps39
    go_wp2_with fail
    refine HC.out.mono ?_
    rintro e w1 ⟨rfl, rfl⟩
    go_wp2_with fail
    go_loopw [0] (fun ss wx => ∃ q : Nat, ss = .string (strF (S ++ List.replicate q 0)) ∧ t.size + q ≤ W ∧ wx = w1) (fun ss _ => W - strLen ss)
    case atStart => exact ⟨0, by rw [List.replicate_zero, List.append_nil, HSELF.out], by omega, rfl⟩
    case round =>
      obtain ⟨q, rfl, hq, rfl⟩ := hrel
      obtain ⟨X, hX⟩ : ∃ X, X = strF (S ++ List.replicate q 0) := ⟨_, rfl⟩
      have hXs : X.size = t.size + q := by rw [hX, strF_size, List.length_append, List.length_replicate, HLL.out]
      rw [← hX]
      by_cases e : X.size < W
      · have dx : decide ((X.size : Int) < (W : Int)) = true := decide_eq_true (by omega)
        have hcat : X ++ (⟨#[0]⟩ : ByteArray) = strF (S ++ List.replicate (q + 1) 0) := by
          rw [hX, show (⟨#[0]⟩ : ByteArray) = strF [0] from rfl, strF_app, List.append_assoc, ← List.replicate_succ']
        have HCAT := Lib.hid hcat
        have hXb : X.size ≤ 512 := by omega
        have HM : Hid (W - strLen (.string (X ++ (⟨#[0]⟩ : ByteArray))) < W - strLen (.string X)) := Lib.hid (by
          show W - (X ++ (⟨#[0]⟩ : ByteArray)).size < W - X.size
          rw [ByteArray.size_append, show (⟨#[0]⟩ : ByteArray).size = 1 from rfl]
          omega)
        have hq2 : t.size + (q + 1) ≤ W := by omega
        clear hcat hX
        go_wp2_with fail
        go_roundw
        case rel => exact ⟨q + 1, by rw [HCAT.out], hq2, by first | rfl | trivial⟩
        case measure => exact HM.out
      · have dx : decide ((X.size : Int) < (W : Int)) = false := decide_eq_false (by omega)
        have hqw : W - t.size = q := by omega
        have hd := HD.out
        rw [hqw] at hd
        have HF0 := HP.out _ 0 wr hd rfl
        rw [← hX] at HF0
        have HF := Lib.hid HF0
        clear hd HF0 hX
        go_wp2_with fail
        exact HF.out
  · have d4 : (E.toList == t.toList) = false := by rw [hcmp, decide_eq_false e4]
    rw [if_pos (.inr e4)] at hdef
    have HF := Lib.hid (HP.out [] 150 w hdef rfl)
    clear hdef hself HC0 hE hcmp e4
    go_enter Tryd.func39, Tryd.ntmps39
    go_wp2_with fail
    refine HC.out.mono ?_
    rintro e w1 ⟨rfl, rfl⟩
    go_wp2_with fail
    exact HF.out

end Go.Proofs.YtiihkjloenlfmaaDoor
