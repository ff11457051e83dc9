/- The reference of rotate, walked: Rotation, Cmp, Period. -/
import Derived.Test.YtgoghcdigkgkmaaGb
import Derived.ChangeMaps5
import Derived.BigQuiet
namespace Go.Proofs.Ytgoghcdigkgkmaa
open Go.RowKit

/-- Rotation i of a text, as a text. -/
def rotB (s : ByteArray) (i : Nat) : ByteArray := ⟨(rotL s.data.toList i).toArray⟩
theorem rotB_ext (s : ByteArray) (i : Nat) : s.extract i s.size ++ s.extract 0 i = rotB s i := by
  apply ByteArray.ext
  apply Array.ext'
  show (s.extract i s.size ++ s.extract 0 i).data.toList = rotL s.data.toList i
  rw [ByteArray.data_append, Array.toList_append, ByteArray.data_extract, ByteArray.data_extract, Array.toList_extract, Array.toList_extract, List.extract_eq_take_drop, List.extract_eq_take_drop, List.drop_zero, Nat.sub_zero, rotL]
  congr 1
  refine List.take_of_length_le ?_
  rw [List.length_drop]
  exact Nat.le_refl _

set_option maxHeartbeats 1600000 in
set_option maxRecDepth 100000 in
theorem rrotation_any (w : World) (s : ByteArray) (i : Nat) (hi : i ≤ s.size) (hs : s.size ≤ 1000000) :
    Calls Try.prog 21 #[.string s, .int .i64 i] w fun e w' => e = .returned (.string (rotB s i)) ∧ ∃ m, w' = w.drewN m := by
  have hx := rotB_ext s i
  have h1 : (s.extract i s.size).size = s.size - i := by rw [ByteArray.size_extract]; omega
  have h2 : (s.extract 0 i).size = i := by rw [ByteArray.size_extract]; omega
  have HX := Lib.hid hx
  clear hx
  go_enter Try.func21, Try.ntmps21
  go_wp2_with fail
  go_region
  go_wp2_with fail
  go_ret
  exact ⟨congrArg (fun t => Ending.returned (Value.string t)) HX.out, 1, rfl⟩

theorem less_list : ∀ (x y : List UInt8), Op.bytesLess x y = decide (x < y) := by
  intro x
  induction x with
  | nil => intro y; cases y <;> simp [Op.bytesLess]
  | cons a x ih =>
    intro y
    cases y with
    | nil => simp [Op.bytesLess]
    | cons b y =>
      have h := ih y
      simp only [Op.bytesLess, h, List.cons_lt_cons_iff, Bool.decide_or, Bool.decide_and]
      rfl
theorem less_rot (s : ByteArray) (i j : Nat) : Op.bytesLess (rotB s i).toList (rotB s j).toList = decide (rotL s.data.toList i < rotL s.data.toList j) := by
  rw [less_list, ByteArray.toList_eq, ByteArray.toList_eq]
  rfl
theorem same_rot (s : ByteArray) (i j : Nat) : ((rotB s i).toList == (rotB s j).toList) = decide (rotL s.data.toList i = rotL s.data.toList j) := by
  rw [ByteArray.toList_eq, ByteArray.toList_eq]
  show (rotL s.data.toList i == rotL s.data.toList j) = _
  by_cases h : rotL s.data.toList i = rotL s.data.toList j
  · simp [h]
  · simp [h]
/-- What Cmp answers of two rotations that are there. -/
def cmpV (s : List UInt8) (i j : Nat) : Int := if rotL s i < rotL s j then -1 else if rotL s j < rotL s i then 1 else 0

set_option maxHeartbeats 1600000 in
set_option maxRecDepth 100000 in
theorem rcmp_any (w : World) (s : ByteArray) (i j : Nat) (hi : i < s.size) (hj : j < s.size) (hs : s.size ≤ 1000000) :
    Calls Try.prog 11 #[.string s, .int .i64 i, .int .i64 j] w fun e w' => e = .returned (.tuple #[.int .i64 (cmpV s.data.toList i j), .int .i64 0]) ∧ ∃ m, w' = w.drewN m := by
  have HA := Lib.hid fun w1 : World => rrotation_any w1 s i (by omega) hs
  have HB := Lib.hid fun w1 : World => rrotation_any w1 s j (by omega) hs
  have hl := less_rot s i j
  have hm := less_rot s j i
  have he := same_rot s i j
  obtain ⟨c, hc⟩ : ∃ c, c = cmpV s.data.toList i j := ⟨_, rfl⟩
  have HC := Lib.hid hc
  unfold cmpV at hc
  generalize rotB s i = A at *
  generalize rotB s j = B at *
  go_enter Try.func11, Try.ntmps11
  go_wp2_with fail
  refine (HA.out w).mono ?_
  rintro e w1 ⟨rfl, m1, rfl⟩
  go_wp2_with fail
  refine (HB.out _).mono ?_
  rintro e w2 ⟨rfl, m2, rfl⟩
  by_cases h1 : rotL s.data.toList i < rotL s.data.toList j
  · rw [if_pos h1] at hc
    rw [decide_eq_true h1] at hl
    clear hm he h1
    go_wp2_with fail
    go_ret2
    exact ⟨by rw [← HC.out, hc]; rfl, _, rfl⟩
  · rw [if_neg h1] at hc
    rw [decide_eq_false h1] at hl
    by_cases h2 : rotL s.data.toList j < rotL s.data.toList i
    · rw [if_pos h2] at hc
      have hne : rotL s.data.toList i ≠ rotL s.data.toList j := fun e => by
        rw [e] at h2
        exact List.lt_irrefl _ h2
      rw [decide_eq_false hne] at he
      clear hm h1 h2 hne
      go_wp2_with fail
      go_ret2
      exact ⟨by rw [← HC.out, hc]; rfl, _, rfl⟩
    · rw [if_neg h2] at hc
      have e : rotL s.data.toList i = rotL s.data.toList j := List.le_antisymm (List.not_lt.1 h2) (List.not_lt.1 h1)
      rw [decide_eq_true e] at he
      clear hm h1 h2 e
      go_wp2_with fail
      go_ret2
      exact ⟨by rw [← HC.out, hc]; rfl, _, rfl⟩

end Go.Proofs.Ytgoghcdigkgkmaa
