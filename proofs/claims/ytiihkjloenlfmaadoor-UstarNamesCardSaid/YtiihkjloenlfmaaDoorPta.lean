/- Paths: plain: parts, one form, one order, splits. Written ahead of stage 14. -/
import Derived.Test.YtiihkjloenlfmaaDoorI
namespace Go.Proofs.YtiihkjloenlfmaaDoor
open Go.RowKit

/-- The parts, the first of which has begun. -/
def partsF : List UInt8 → List UInt8 → List (List UInt8)
  | cur, [] => [cur]
  | cur, c :: s => if c = 47 then cur :: partsF [] s else partsF (cur ++ [c]) s
def partsL (s : List UInt8) : List (List UInt8) := partsF [] s
set_option maxRecDepth 100000 in
theorem partsF_ne : ∀ (s cur : List UInt8), partsF cur s ≠ []
  | [], _ => by simp [partsF]
  | c :: s, cur => by
    rw [partsF]
    split
    · simp
    · exact partsF_ne s _
set_option maxRecDepth 100000 in
theorem partsF_len : ∀ (s cur : List UInt8), (partsF cur s).length ≤ s.length + 1
  | [], _ => by simp [partsF]
  | c :: s, cur => by
    rw [partsF]
    split
    · rw [List.length_cons, List.length_cons]
      have := partsF_len s []
      omega
    · rw [List.length_cons]
      have := partsF_len s (cur ++ [c])
      omega
set_option maxRecDepth 100000 in
theorem partsF_mem : ∀ (s cur : List UInt8) (p : List UInt8), p ∈ partsF cur s → p.length ≤ cur.length + s.length
  | [], cur, p, h => by
    rw [partsF, List.mem_singleton] at h
    rw [h]
    exact Nat.le_add_right _ _
  | c :: s, cur, p, h => by
    rw [partsF] at h
    rw [List.length_cons]
    split at h
    · rcases List.mem_cons.1 h with rfl | h
      · omega
      · have := partsF_mem s [] p h
        rw [List.length_nil] at this
        omega
    · have := partsF_mem s _ p h
      rw [List.length_append, List.length_singleton] at this
      omega
/-- What is kept of parts, with slashes between. -/
def joinF : List UInt8 → List (List UInt8) → List UInt8
  | out, [] => out
  | out, p :: l => if p = [] ∨ p = [46] then joinF out l else joinF ((if out = [] then [] else out ++ [47]) ++ p) l
def okB (c : UInt8) : Prop := 32 ≤ c.toNat ∧ c.toNat ≤ 126
instance (c : UInt8) : Decidable (okB c) := inferInstanceAs (Decidable (_ ∧ _))
/-- What Clean answers. -/
def cleanL (s : List UInt8) : List UInt8 × Nat :=
  if [46, 46] ∈ partsL s then ([], 140)
  else if ¬ ∀ c ∈ s, okB c then ([], 140)
  else if joinF [] (partsL s) = [] ∨ 120 < (joinF [] (partsL s)).length then ([], 140)
  else (joinF [] (partsL s), 0)
/-- What Check answers. -/
def checkL (p : List UInt8) : Nat := if (cleanL p).2 ≠ 0 ∨ (cleanL p).1 ≠ p then 140 else 0
/-- What Cmp answers, of parts. -/
def cmpF : List (List UInt8) → List (List UInt8) → Int
  | [], [] => 0
  | [], _ :: _ => -1
  | _ :: _, [] => 1
  | x :: xs, y :: ys => if x < y then -1 else if y < x then 1 else cmpF xs ys
def cmpL (a b : List UInt8) : Int := cmpF (partsL a) (partsL b)
/-- May a text be parted at a place? -/
def okAt (p : List UInt8) (i : Nat) : Prop := (p.getD i 0).toNat = 47 ∧ 1 ≤ i ∧ i ≤ 155 ∧ i + 2 ≤ p.length ∧ p.length ≤ i + 101
instance (p : List UInt8) (i : Nat) : Decidable (okAt p i) := inferInstanceAs (Decidable (_ ∧ _))
def splitF (p : List UInt8) : Nat → Nat → List UInt8 × List UInt8 × Bool
  | 0, _ => ([], [], false)
  | k + 1, i => if okAt p i then (p.take i, p.drop (i + 1), true) else splitF p k (i + 1)
/-- What Split answers. -/
def splitL (p : List UInt8) : List UInt8 × List UInt8 × Bool := if p.length ≤ 100 then ([], p, true) else splitF p p.length 0
/-- What Under answers. -/
def underL (d p : List UInt8) : Bool := decide (d.length + 1 ≤ p.length ∧ p.take (d.length + 1) = d ++ [47])

def strP (l : List UInt8) : ByteArray := ⟨l.toArray⟩
def sv (l : List UInt8) : Value := .string (strP l)
theorem strP_size (l : List UInt8) : (strP l).size = l.length := rfl
theorem strP_list (l : List UInt8) : (strP l).data.toList = l := rfl
set_option maxRecDepth 100000 in
theorem strP_self (s : ByteArray) : strP s.data.toList = s := by
  apply ByteArray.ext
  show s.data.toList.toArray = s.data
  simp
set_option maxRecDepth 100000 in
theorem strP_app (a b : List UInt8) : strP a ++ strP b = strP (a ++ b) := by
  apply ByteArray.ext
  simp [strP]
theorem strP_nil : strP [] = (⟨#[]⟩ : ByteArray) := rfl
theorem ext_list (t : ByteArray) (a b : Nat) : (t.extract a b).data.toList = (t.data.toList.take b).drop a := by
  rw [ByteArray.data_extract, Array.toList_extract, List.extract_eq_take_drop, List.drop_take]
set_option maxRecDepth 100000 in
theorem less_text (a b : ByteArray) : Op.bytesLess a.toList b.toList = decide (a.data.toList < b.data.toList) := by
  have key : ∀ l m : List UInt8, Op.bytesLess l m = decide (l < m) := by
    intro l
    induction l with
    | nil => intro m; cases m <;> simp [Op.bytesLess]
    | cons x l ih =>
      intro m
      cases m with
      | nil => simp [Op.bytesLess]
      | cons y m =>
        simp only [Op.bytesLess, ih m, List.cons_lt_cons_iff, Bool.decide_or, Bool.decide_and]
        rfl
  rw [ByteArray.toList_eq, ByteArray.toList_eq, key]
theorem same_text (a b : ByteArray) : (a.toList == b.toList) = decide (a.data.toList = b.data.toList) := by
  rw [ByteArray.toList_eq, ByteArray.toList_eq]
  by_cases h : a.data.toList = b.data.toList
  · rw [h, decide_eq_true rfl]
    exact beq_self_eq_true _
  · rw [decide_eq_false h]
    exact beq_false_of_ne h
end Go.Proofs.YtiihkjloenlfmaaDoor
