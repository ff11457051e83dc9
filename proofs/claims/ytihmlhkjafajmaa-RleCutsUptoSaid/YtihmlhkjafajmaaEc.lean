/- The reference of rle, walked: same. Plain: how runs are read. -/
import Derived.Test.YtihmlhkjafajmaaEb
namespace Go.Proofs.Ytihmlhkjafajmaa
open Go.RowKit

/-- How many bytes at the beginning are one, at most four. -/
def sameN : List UInt8 → Nat
  | [] => 0
  | x :: l => 1 + runN x 3 l
theorem sameN_le (l : List UInt8) : sameN l ≤ 4 ∧ sameN l ≤ l.length := by
  cases l with
  | nil => exact ⟨by simp [sameN], by simp [sameN]⟩
  | cons x l =>
    have h := runN_le x 3 l
    simp only [sameN, List.length_cons]
    omega
/-- A count of equal bytes that is read byte by byte, at most m. -/
theorem run_more (l : List UInt8) (k m N : Nat) (x y : UInt8) (hy : l[k]? = some y) (he : y = x) (hm : k < m) (h : N = k + runN x (m - k) (l.drop k)) : N = (k + 1) + runN x (m - (k + 1)) (l.drop (k + 1)) := by
  have hlt : k < l.length := by
    rcases Nat.lt_or_ge k l.length with h1 | h1
    · exact h1
    · rw [List.getElem?_eq_none h1] at hy; cases hy
  have hd : l.drop k = y :: l.drop (k + 1) := by
    rw [List.drop_eq_getElem_cons hlt]
    rw [List.getElem?_eq_getElem hlt] at hy
    rw [Option.some.inj hy]
  rw [h, hd, show m - k = (m - (k + 1)) + 1 by omega, runN, if_pos he]
  omega
theorem run_end (l : List UInt8) (k m N : Nat) (x : UInt8) (h : N = k + runN x (m - k) (l.drop k)) (he : l.length ≤ k ∨ m ≤ k ∨ ∃ y, l[k]? = some y ∧ y ≠ x) : N = k := by
  have h0 : runN x (m - k) (l.drop k) = 0 := by
    rcases he with h1 | h1 | ⟨y, hy, hn⟩
    · rw [List.drop_of_length_le h1]
      cases m - k <;> rfl
    · rw [show m - k = 0 by omega]
      rfl
    · have hlt : k < l.length := by
        rcases Nat.lt_or_ge k l.length with h1 | h1
        · exact h1
        · rw [List.getElem?_eq_none h1] at hy; cases hy
      rw [List.drop_eq_getElem_cons hlt]
      rw [List.getElem?_eq_getElem hlt] at hy
      cases m - k with
      | zero => rfl
      | succ m => rw [runN, if_neg (by rw [Option.some.inj hy]; exact hn)]
  omega
theorem list_head (t : ByteArray) (h : 0 < t.size) : t.data.toList = t[0] :: t.data.toList.drop 1 := by
  have hl0 : 0 < t.data.toList.length := h
  have := List.drop_eq_getElem_cons hl0
  rw [List.drop_zero] at this
  exact this

set_option maxHeartbeats 1600000 in
set_option maxRecDepth 1000000 in
theorem rsame_any (w : World) (t : ByteArray) (h : 0 < t.size) :
    Calls Try.prog 19 #[.string t] w fun e w' => e = .returned (.int .i64 (sameN t.data.toList)) ∧ Below w.heap.size w w' := by
  go_enter Try.func19, Try.ntmps19
  go_wp2_with fail
  go_loopw [3] (fun i wx => ∃ k : Nat, 1 ≤ k ∧ k ≤ 4 ∧ k ≤ t.size ∧ i = .int .i64 k ∧ sameN t.data.toList = k + runN t[0] (4 - k) (t.data.toList.drop k) ∧ Below w.heap.size w wx) (fun i _ => 4 - (intOf i).toNat)
  case atStart =>
    refine ⟨1, Nat.le_refl _, by omega, h, rfl, ?_, Below.refl _ _⟩
    rw [list_head t h]
    rfl
  case round =>
    obtain ⟨k, h1, h2, h3, rfl, hk, hbx⟩ := hrel
    have HBX := Lib.hid hbx
    clear hbx
    by_cases e : ∃ (e1 : k < t.size), k < 4 ∧ t[k] = t[0]
    · obtain ⟨e1, e2, e3⟩ := e
      have HK := Lib.hid (run_more t.data.toList k 4 _ t[0] t[k] (data_get t k e1) e3 e2 hk)
      clear hk
      have q : (((t[k].toNat : Nat) : Int) == ((t[0].toNat : Nat) : Int)) = true := by rw [e3]; simp
      have d2 : (k : Int) < 4 := by omega
      go_wp2_with fail
      go_quiet (fail)
      go_wp2_with fail
      go_roundw
      case rel => exact ⟨k + 1, by omega, by omega, by omega, by go_num, HK.out, below_drewN HBX.out _⟩
      case measure => simp [intOf]; omega
    · have hend : sameN t.data.toList = k := by
        refine run_end _ k 4 _ _ hk ?_
        by_cases e1 : k < t.size
        · by_cases e2 : k < 4
          · exact .inr (.inr ⟨t[k], data_get t k e1, fun e3 => e ⟨e1, e2, e3⟩⟩)
          · exact .inr (.inl (by omega))
        · exact .inl (by show t.size ≤ k; omega)
      have HEND := Lib.hid hend
      clear hk hend
      by_cases e1 : k < t.size
      · by_cases e2 : k < 4
        · have e3 : t[k] ≠ t[0] := fun e3 => e ⟨e1, e2, e3⟩
          have q : (((t[k].toNat : Nat) : Int) == ((t[0].toNat : Nat) : Int)) = false := by
            simp only [beq_eq_false_iff_ne, ne_eq]
            intro h
            exact e3 (UInt8.toNat_inj.1 (by omega))
          clear e e3
          have d2 : (k : Int) < 4 := by omega
          go_wp2_with fail
          go_quiet (fail)
          go_wp2_with fail
          go_ret
          exact ⟨by rw [HEND.out]; rfl, below_drewN HBX.out _⟩
        · clear e
          have d2 : ¬ (k : Int) < 4 := by omega
          have d3 : decide ((k : Int) < 4) = false := decide_eq_false d2
          go_wp2_with fail
          go_quiet (fail)
          go_wp2_with fail
          go_ret
          exact ⟨by rw [HEND.out]; rfl, below_drewN HBX.out _⟩
      · clear e
        go_wp2_with fail
        go_quiet (fail)
        go_wp2_with fail
        go_ret
        exact ⟨by rw [HEND.out]; rfl, below_drewN HBX.out _⟩

end Go.Proofs.Ytihmlhkjafajmaa
