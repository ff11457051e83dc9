/- Plain mathematics of the reference's division of polynomials, as it is written: in place, bit by bit. No conditions. -/
import Derived.Test.YtkhabmbclepjpaaM
namespace Go.Proofs.Ytkhabmbclepjpaa

/-- The polynomial, x^32 first. -/
def pL : List Nat := bitsN 4374732215 33
theorem pL_length : pL.length = 33 := bitsN_length _ _
theorem pL_bits : Bit01 pL := bit01_bitsN _ _

/-- The first m of the polynomial's bits added from bit number i on. -/
def setK (D : List Nat) (i : Nat) : Nat → List Nat
  | 0 => D
  | m + 1 => (setK D i m).set (i + m) (((setK D i m).getD (i + m) 0 + pL.getD m 0) % 2)
/-- One step of the division. -/
def stepD (D : List Nat) (i : Nat) : List Nat := if D.getD i 0 = 1 then setK D i 33 else D
/-- So many steps. -/
def runD (D : List Nat) : Nat → List Nat
  | 0 => D
  | i + 1 => stepD (runD D i) i
/-- What is left. -/
def restL (D : List Nat) : List Nat := (runD D (D.length - 32)).drop (D.length - 32)

theorem setK_length (D : List Nat) (i m : Nat) : (setK D i m).length = D.length := by
  induction m with
  | zero => rfl
  | succ m ih => rw [setK, List.length_set, ih]
theorem setK_bits (D : List Nat) (i m : Nat) (h : Bit01 D) : Bit01 (setK D i m) := by
  induction m with
  | zero => exact h
  | succ m ih =>
    intro b hb
    rw [setK] at hb
    rcases List.mem_or_eq_of_mem_set hb with h1 | h1
    · exact ih b h1
    · rw [h1]; exact Nat.mod_lt _ (by omega)
theorem stepD_length (D : List Nat) (i : Nat) : (stepD D i).length = D.length := by
  unfold stepD; split
  · exact setK_length _ _ _
  · rfl
theorem stepD_bits (D : List Nat) (i : Nat) (h : Bit01 D) : Bit01 (stepD D i) := by
  unfold stepD; split
  · exact setK_bits _ _ _ h
  · exact h
theorem runD_length (D : List Nat) (i : Nat) : (runD D i).length = D.length := by
  induction i with
  | zero => rfl
  | succ i ih => rw [runD, stepD_length, ih]
theorem runD_bits (D : List Nat) (i : Nat) (h : Bit01 D) : Bit01 (runD D i) := by
  induction i with
  | zero => exact h
  | succ i ih => exact stepD_bits _ _ ih
theorem restL_length (D : List Nat) (h : 32 ≤ D.length) : (restL D).length = 32 := by
  unfold restL; rw [List.length_drop, runD_length]; omega
theorem restL_bits (D : List Nat) (h : Bit01 D) : Bit01 (restL D) := (runD_bits D _ h).drop _

end Go.Proofs.Ytkhabmbclepjpaa
