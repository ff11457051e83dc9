/- Fields: plain: digits to the base 8 and 10, blanks, sums. Written ahead of stage 15. -/
import Derived.Test.YtccfjabmmecbkaaDoorI
import Derived.Laws.BitsAllLaws
namespace Go.Proofs.YtccfjabmmecbkaaDoor
open Go.RowKit

/-- A digit's byte. -/
def dig8 (d : Nat) : UInt8 := UInt8.ofNat (48 + d)
/-- The last k digits to the base 8. -/
def octL : Nat → Int → List UInt8
  | 0, _ => []
  | k + 1, n => dig8 (n / 8 ^ k % 8).toNat :: octL k n
theorem octL_length : ∀ k n, (octL k n).length = k
  | 0, _ => rfl
  | k + 1, n => by rw [octL, List.length_cons, octL_length k n]
/-- What Octal answers. -/
def octalA (n width : Int) : List UInt8 × Nat :=
  if width < 2 ∨ 20 < width then ([], 2)
  else if n / 8 ^ (width.toNat - 1) ≠ 0 then ([], 150)
  else (octL (width.toNat - 1) n ++ [0], 0)
/-- Bytes at the beginning taken off. -/
def cutF (a b : Nat) : List UInt8 → List UInt8
  | [] => []
  | c :: s => if c.toNat = a ∨ c.toNat = b then cutF a b s else c :: s
/-- Digits read, until one is none: the number (as it is told while it is not above 2^53), the rest. -/
def numF : List UInt8 → Nat → Nat × List UInt8
  | [], n => (n, [])
  | c :: s, n => if 48 ≤ c.toNat ∧ c.toNat ≤ 55 then numF s (if n ≤ 9007199254740992 then 8 * n + (c.toNat - 48) else n) else (n, c :: s)
/-- What Number answers. -/
def numberA (s : List UInt8) : Nat × Nat :=
  if cutF 32 0 (numF (cutF 32 32 s) 0).2 ≠ [] then (0, 150)
  else if 9007199254740992 < (numF (cutF 32 32 s) 0).1 then (0, 3)
  else ((numF (cutF 32 32 s) 0).1, 0)
/-- What Cut answers. -/
def cutZ : List UInt8 → List UInt8
  | [] => []
  | c :: s => if c = 0 then [] else c :: cutZ s
/-- What Text answers. -/
def textA (s : List UInt8) (width : Int) : List UInt8 × Nat :=
  if width < 0 ∨ 512 < width then ([], 2)
  else if width < (s.length : Int) ∨ cutZ s ≠ s then ([], 150)
  else (s ++ List.replicate (width.toNat - s.length) 0, 0)
/-- What Digits answers. -/
def digF : Nat → Nat → List UInt8 → List UInt8
  | 0, _, out => out
  | k + 1, n, out => if 10 ≤ n then digF k (n / 10) (dig8 (n / 10 % 10) :: out) else out
def digitsA (n : Int) : List UInt8 := if n < 0 then [] else digF n.toNat n.toNat [dig8 (n.toNat % 10)]
/-- What Decimal answers. -/
def decF : List UInt8 → Nat → Option Nat
  | [], n => some n
  | c :: s, n => if c.toNat < 48 ∨ 57 < c.toNat then none else decF s (if n ≤ 9007199254740992 then 10 * n + (c.toNat - 48) else n)
def decEnd : Option Nat → Nat × Nat
  | none => (0, 150)
  | some n => if 9007199254740992 < n then (0, 3) else (n, 0)
def decimalA (s : List UInt8) : Nat × Nat := if s = [] ∨ (s.getD 0 0 = 48 ∧ 1 < s.length) then (0, 150) else decEnd (decF s 0)
/-- What Sum answers. -/
def sumF (s : List UInt8) (q : Nat) : Nat := ((List.range q).map fun i => if i < 148 ∨ 155 < i then (s.getD i 0).toNat else 0).sum
def sumA (s : List UInt8) : Nat × Nat := if s.length ≠ 512 then (0, 2) else (256 + sumF s 512, 0)
theorem sumF_next (s : List UInt8) (q : Nat) : sumF s (q + 1) = sumF s q + if q < 148 ∨ 155 < q then (s.getD q 0).toNat else 0 := by
  unfold sumF
  rw [List.range_succ, List.map_append, List.sum_append, List.map_singleton, List.sum_singleton]
theorem sumF_le (s : List UInt8) : ∀ q, sumF s q ≤ 255 * q
  | 0 => Nat.le_refl _
  | q + 1 => by
    have ih := sumF_le s q
    have := UInt8.toNat_lt (s.getD q 0)
    rw [sumF_next]
    split <;> omega
theorem and_seven (x : Int) : bits .and .i64 x 7 = x % 8 := by
  show IntKind.i64.wrap ((BitVec.ofInt 64 x &&& BitVec.ofInt 64 7).toNat : Int) = _
  rw [BitVec.toNat_and, show (BitVec.ofInt 64 7).toNat = 7 from rfl, nat_mask3, BitVec.toNat_ofInt, IntKind.wrap_i64]
  omega
theorem numF_le : ∀ (s : List UInt8) (n : Nat), n ≤ 72057594037927943 → (numF s n).1 ≤ 72057594037927943
  | [], n, h => h
  | c :: s, n, h => by
    rw [numF]
    split
    · refine numF_le s _ ?_
      split <;> omega
    · exact h

def strF (l : List UInt8) : ByteArray := ⟨l.toArray⟩
theorem strF_size (l : List UInt8) : (strF l).size = l.length := rfl
theorem strF_list (l : List UInt8) : (strF l).data.toList = l := rfl
set_option maxRecDepth 100000 in
theorem strF_self (s : ByteArray) : strF s.data.toList = s := by
  apply ByteArray.ext
  show s.data.toList.toArray = s.data
  simp
set_option maxRecDepth 100000 in
theorem strF_app (a b : List UInt8) : strF a ++ strF b = strF (a ++ b) := by
  apply ByteArray.ext
  simp [strF]
theorem fext_list (t : ByteArray) (a b : Nat) : (t.extract a b).data.toList = (t.data.toList.take b).drop a := by
  rw [ByteArray.data_extract, Array.toList_extract, List.extract_eq_take_drop, List.drop_take]
theorem fext_take (t : ByteArray) (k : Nat) : t.extract 0 k = strF (t.data.toList.take k) := by
  apply ByteArray.ext
  apply Array.toList_inj.1
  rw [fext_list, List.drop_zero]
  rfl
theorem fext_drop (l : List UInt8) (k : Nat) : (strF l).extract k (strF l).size = strF (l.drop k) := by
  apply ByteArray.ext
  apply Array.toList_inj.1
  rw [fext_list, List.take_of_length_le (show (strF l).data.toList.length ≤ (strF l).size from Nat.le_refl _)]
  rfl
theorem fbyte (t : ByteArray) (i : Nat) (h : i < t.size) : t.data.toList.getD i 0 = t[i] := by
  rw [List.getD_eq_getElem?_getD, List.getElem?_eq_getElem (by show i < t.size; exact h)]
  rfl
theorem fsame (a b : ByteArray) : (a.toList == b.toList) = decide (a.data.toList = b.data.toList) := by
  rw [ByteArray.toList_eq, ByteArray.toList_eq]
  by_cases h : a.data.toList = b.data.toList
  · rw [h, decide_eq_true rfl]
    exact beq_self_eq_true _
  · rw [decide_eq_false h]
    exact beq_false_of_ne h
theorem strF_toList (p : List UInt8) : (strF p).toList = p := by
  rw [ByteArray.toList_eq]
  rfl
set_option maxRecDepth 100000 in
/-- A digit out of the row of digits. -/
theorem dig_oct (d : Nat) (h : d < 8) : (⟨#[48, 49, 50, 51, 52, 53, 54, 55]⟩ : ByteArray).extract d (d + 1) = strF [dig8 d] := by
  have : d = 0 ∨ d = 1 ∨ d = 2 ∨ d = 3 ∨ d = 4 ∨ d = 5 ∨ d = 6 ∨ d = 7 := by omega
  rcases this with rfl | rfl | rfl | rfl | rfl | rfl | rfl | rfl <;> rfl
set_option maxRecDepth 100000 in
theorem dig_dec (d : Nat) (h : d < 10) : (⟨#[48, 49, 50, 51, 52, 53, 54, 55, 56, 57]⟩ : ByteArray).extract d (d + 1) = strF [dig8 d] := by
  have : d = 0 ∨ d = 1 ∨ d = 2 ∨ d = 3 ∨ d = 4 ∨ d = 5 ∨ d = 6 ∨ d = 7 ∨ d = 8 ∨ d = 9 := by omega
  rcases this with rfl | rfl | rfl | rfl | rfl | rfl | rfl | rfl | rfl | rfl <;> rfl
end Go.Proofs.YtccfjabmmecbkaaDoor
