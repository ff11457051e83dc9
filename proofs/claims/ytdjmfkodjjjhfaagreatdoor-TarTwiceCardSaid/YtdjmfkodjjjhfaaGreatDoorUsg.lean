/- What is asked of ustar's functions (UstarDone); the answers that the document fixes; Encodes, Decodes, Zeros walked. With the tables and the sizes that the landed code wants (gen16t.py). -/
import Derived.Test.YtdjmfkodjjjhfaaGreatDoorTrd
import Derived.Test.YtdjmfkodjjjhfaaGreatDoorFwd
import Derived.Laws.MakeOwn
namespace Go.Proofs.YtdjmfkodjjjhfaaGreatDoor
open Go.RowKit

theorem str2_deep (a b c e : ByteArray) (w : World) : (Op.equalIn 9999 62 (.agg #[.string a, .string b]) (.agg #[.string c, .string e])).run Tryz.prog w = .ok (a.toList == c.toList && b.toList == e.toList) w := str2_in 9997 a b c e w
theorem int2_deep (a b c e : Int) (w : World) : (Op.equalIn 9999 63 (.agg #[.int .i64 a, .int .i64 b]) (.agg #[.int .i64 c, .int .i64 e])).run Tryz.prog w = .ok (a == c && b == e) w := int2_in 9997 a b c e w
/-- The ints and strings of a head lie in their kinds, the strings within the reading's own reach. -/
structure HeadT (h : HeadP) : Prop where
  base : HeadB h
  texts : ∀ i, i < 4 → (mayT h i).size ≤ 140737488355328
  ints : ∀ i, i < 3 → -9223372036854775808 ≤ mayS h i ∧ mayS h i ≤ 9223372036854775807
  size : -9223372036854775808 ≤ h.size ∧ h.size ≤ 9223372036854775807
  time : -9223372036854775808 ≤ h.time ∧ h.time ≤ 9223372036854775807
structure UstarDone : Prop where
  encode : ∀ (w : World), Tabs w → ∀ (h : HeadP), HeadT h → Calls Tryz.prog 52 #[headV h] w fun e w' => e = .returned (.tuple #[.string (strP (encA h).1), .int .i64 (encA h).2]) ∧ Below w.heap.size w w'
  decode : ∀ (w : World) (s : ByteArray), s.size ≤ 140737488355328 → Calls Tryz.prog 99 #[.string s] w fun e w' => e = .returned (.tuple #[headV (decA s.data.toList).1, .int .i64 (decA s.data.toList).2]) ∧ Below w.heap.size w w'
  zero : ∀ (w : World) (s : ByteArray), s.size ≤ 9223372036854775807 → Calls Tryz.prog 113 #[.string s] w fun e w' => e = .returned (.bool (zeroA s.data.toList)) ∧ Below w.heap.size w w'

def headA : HeadP := ⟨⟨#[97]⟩, 5, 48, 420, 0, ⟨#[]⟩, ⟨#[]⟩, ⟨#[]⟩, 0, 0⟩
set_option maxRecDepth 100000 in
theorem headA_b : HeadT headA := ⟨⟨by decide, fun i hi => by
  have : i = 0 ∨ i = 1 ∨ i = 2 ∨ i = 3 := by omega
  rcases this with rfl | rfl | rfl | rfl <;> decide⟩, fun i hi => by
  have : i = 0 ∨ i = 1 ∨ i = 2 ∨ i = 3 := by omega
  rcases this with rfl | rfl | rfl | rfl <;> decide, fun i hi => by
  have : i = 0 ∨ i = 1 ∨ i = 2 := by omega
  rcases this with rfl | rfl | rfl <;> decide, by decide, by decide⟩
theorem headA_may : mayA headA := by decide
theorem headA_enc : ∃ S : List UInt8, encA headA = (S, 0) ∧ decA S = (headA, 0) ∧ S.length = 512 ∧ fld S 100 108 = [48, 48, 48, 48, 54, 52, 52, 0] := by
  have hs : splitL headA.path.data.toList = ([], [97], true) := by decide
  have he : encA headA = (headL headA [] [97], 0) := by
    unfold encA
    rw [hs, if_neg (by decide), if_neg (fun h => h headA_may)]
  obtain ⟨h1, h2, _⟩ := enc_dec headA _ he
  refine ⟨_, he, h1, h2, ?_⟩
  have F := fits_of headA headA_may [] [97] hs
  have hsum := head_sum F
  have h7 : (oW ((sumA (rawL headA [] [97])).1 : Nat) 7 ++ [32]).length = 8 := by rw [List.length_append, seven_len _ hsum.2.1]; rfl
  have L := head_laid F _ h7
  rw [← head_is] at L
  rw [L.fM]
  decide
theorem zeros_conv (w : World) (n : Nat) : (convert 80 9 (.slice (some ⟨w.heap.size, 0, none⟩) n n)).run Tryz.prog (w.alloc (.cells (madeCells #[.int .u8 0] n) 5)) = .ok (.string (strP (List.replicate n 0))) (w.alloc (.cells (madeCells #[.int .u8 0] n) 5)) := by
  have h := run_convert_bytes_arg (P := Tryz.prog) (w.alloc (.cells (madeCells #[.int .u8 0] n) 5)) 80 5 Tryz.underlying80 Tryz.underlying5 w.heap.size 0 n n (List.replicate n 0) List.length_replicate (fun i hi => by
    rw [Nat.zero_add, blk_cell (blk_new w _ _) i, ← Array.getElem?_toList, toList_madeCells_one, List.getElem?_replicate, if_pos hi, List.getD_eq_getElem?_getD, List.getElem?_replicate, if_pos hi]
    rfl) 9 Tryz.underlying9
  rw [show strOfNums (List.replicate n 0) = strP (List.replicate n 0) from by
    unfold strOfNums strP
    rw [List.map_replicate]
    rfl] at h
  exact h
set_option maxRecDepth 100000 in
theorem zeroA_made : zeroA (strP (List.replicate 512 0)).data.toList = true := by
  unfold zeroA allZ
  rw [strP_list, List.all_replicate]
  simp
section
variable (R : UstarDone)
include R
end
end Go.Proofs.YtdjmfkodjjjhfaaGreatDoor
