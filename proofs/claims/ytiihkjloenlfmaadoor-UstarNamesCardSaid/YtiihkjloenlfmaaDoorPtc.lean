/- The reference of paths: Clean, Check. Conditions: texts of at most a million bytes. Written ahead of stage 14. -/
import Derived.Test.YtiihkjloenlfmaaDoorPtb
namespace Go.Proofs.YtiihkjloenlfmaaDoor
open Go.RowKit

theorem joinF_skip {p : List UInt8} (h : p = [] ∨ p = [46]) (O : List UInt8) (l : List (List UInt8)) : joinF O (p :: l) = joinF O l := if_pos h
theorem joinF_put {p : List UInt8} (h : ¬ (p = [] ∨ p = [46])) (O : List UInt8) (l : List (List UInt8)) : joinF O (p :: l) = joinF ((if O = [] then [] else O ++ [47]) ++ p) l := if_neg h
theorem list_drop (L : List (List UInt8)) (q : Nat) (h : q < L.length) : L.drop q = L.getD q [] :: L.drop (q + 1) := by
  rw [List.drop_eq_getElem_cons h, List.getD_eq_getElem?_getD, List.getElem?_eq_getElem h]
  rfl
theorem list_mem (L : List (List UInt8)) (q : Nat) (h : q < L.length) : L.getD q [] ∈ L := by
  rw [List.getD_eq_getElem?_getD, List.getElem?_eq_getElem h]
  exact List.getElem_mem h
theorem strP_toList (p : List UInt8) : (strP p).toList = p := by
  rw [ByteArray.toList_eq]
  rfl

end Go.Proofs.YtiihkjloenlfmaaDoor
