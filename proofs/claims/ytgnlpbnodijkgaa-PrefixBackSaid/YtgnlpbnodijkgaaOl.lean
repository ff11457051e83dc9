/- What is asked of prefix's functions, and of lengths'; the answers that the document fixes. Conditions: as the fields say. Written ahead of stage 9. -/
import Derived.Test.YtgnlpbnodijkgaaOg
import Derived.Test.YtgnlpbnodijkgaaOk
import Derived.Test.YtgnlpbnodijkgaaRb
import Derived.Laws.StructEq
namespace Go.Proofs.Ytgnlpbnodijkgaa
open Go.RowKit

theorem guardB : Try.prog.eqGuardType Try.prog.depth 32 = false := by kernel_rfl
theorem heldB : Try.prog.stoodInHeld 32 = false := by kernel_rfl
theorem fieldsB : Try.prog.underlying 32 = some (.struct (Try.prog.fieldsOf 32)) := by simp [Program.fieldsOf, Try.underlying32]
/-- Two pieces of one text and one count are equal. -/
theorem bits_eql (T : ByteArray) (n : Int) (w : World) : (binOp .eql 32 (.agg #[.string T, .int .i64 n]) (.agg #[.string T, .int .i64 n])).run Try.prog w = .ok (.bool true) w := by
  rw [run_eql_struct, run_equalIn_agg w 9999 32 _ _ fieldsB heldB]
  simp [Program.fieldsOf, Try.underlying32, Op.eqFields, part, go_sem]

/-- What is asked of the code's functions: Decode of texts of at most S bytes, Make of at most N weights. -/
structure PrefixDone (S N : Nat) : Prop where
  codes : ∀ (w : World) (A : Option Addr) (n c : Nat) (L : List Int), ZIn w A n L → n ≤ c → n ≤ maxLen → Calls Try.prog 10 #[.slice A n c] w (ListPost w (codesAns L))
  enc : ∀ (w : World) (A B : Option Addr) (n c m d : Nat) (L list : List Int), ZIn w A n L → n ≤ c → n ≤ maxLen → ZIn w B m list → m ≤ d → m ≤ 2000 → Calls Try.prog 14 #[.slice A n c, .slice B m d] w (BitsPost w (putAns L list))
  dec : ∀ (w : World) (A : Option Addr) (n c : Nat) (L : List Int) (s : ByteArray) (at' : Int), ZIn w A n L → n ≤ c → n ≤ maxLen → s.size ≤ S → -9223372036854775808 ≤ at' → at' ≤ 9223372036854775807 → Calls Try.prog 16 #[.slice A n c, .string s, .int .i64 at'] w (DecPost w (decAns L (bitsB s.data.toList) at'))
  all : ∀ (w : World) (A : Option Addr) (n c : Nat) (L : List Int) (s : ByteArray) (at' k en : Int), ZIn w A n L → n ≤ c → n ≤ maxLen → s.size ≤ 10000 → -9223372036854775808 ≤ at' → at' ≤ 9223372036854775807 → -9223372036854775808 ≤ k → k ≤ 9223372036854775807 → -9223372036854775808 ≤ en → en ≤ 9223372036854775807 →
    Calls Try.prog 19 #[.slice A n c, .string s, .int .i64 at', .int .i64 k, .int .i64 en] w (AllPost w (allAns L (bitsB s.data.toList) at' k en))
  check : ∀ (w : World) (A : Option Addr) (n c : Nat) (L : List Int), ZIn w A n L → n ≤ c → n ≤ maxLen → Calls Try.prog 21 #[.slice A n c] w fun e w' => e = .returned (.int .i64 (if LenOk L then 0 else 80)) ∧ Below w.heap.size w w'
  make : ∀ (w : World) (A : Option Addr) (n c : Nat) (L : List Int) (most : Int), ZIn w A n L → n ≤ c → n ≤ N → n ≤ maxLen → -9223372036854775808 ≤ most → most ≤ 9223372036854775807 → Calls Try.prog 22 #[.slice A n c, .int .i64 most] w (MakePost w L most)

theorem lit_zin (w : World) (L : List Int) : ZIn (w.alloc (.cells (L.map fun (x : Int) => Value.int .i64 x).toArray 3)) (some ⟨w.heap.size, 0, none⟩) L.length L := by
  refine ⟨rfl, fun _ => ⟨w.heap.size, 0, rfl, fun i hi => ?_⟩⟩
  rw [Nat.zero_add, blk_cell (blk_new w 3 _)]
  simp [hi]
theorem lit_nums (w : World) (L : List Nat) : IntsIn (w.alloc (.cells (L.map iv).toArray 3)) (some ⟨w.heap.size, 0, none⟩) L.length L := by
  refine ⟨rfl, fun _ => ⟨w.heap.size, 0, rfl, fun i hi => ?_⟩⟩
  rw [Nat.zero_add, blk_cell (blk_new w 3 _)]
  simp [iv, hi]

theorem codes_four : codesAns [2, 1, 3, 3] = ([2, 0, 6, 7], 0) := by decide +kernel
theorem put_three : putAns [2, 1, 3, 3] [0, 1, 2] = ([1, 0, 0, 1, 1, 0], 0) := by decide +kernel
theorem pack_three : pack [1, 0, 0, 1, 1, 0] = [152] := by decide +kernel
theorem dec_two : decAns [2, 1, 3, 3] (bitsB [152]) 3 = (2, 6, 0) := by decide +kernel

/-- The lengths 2, 1, 3, 3, written down. -/
def four (w : World) : World := w.alloc (.cells #[.int .i64 2, .int .i64 1, .int .i64 3, .int .i64 3] 3)
theorem four_in (w : World) : ZIn (four w) (some ⟨w.heap.size, 0, none⟩) 4 [2, 1, 3, 3] := lit_zin w [2, 1, 3, 3]
theorem four_below (w : World) : Below w.heap.size w (four w) := (Below.refl _ w).alloc (Nat.le_refl _) _

section
variable {S N : Nat} (R : PrefixDone S N) (hS : 1 ≤ S)
include R

theorem acodes (w : World) : Calls Try.prog 10 #[.slice (some ⟨w.heap.size, 0, none⟩) 4 4] (w.alloc (.cells #[.int .i64 2, .int .i64 1, .int .i64 3, .int .i64 3] 3)) fun e w' => ∃ A c, e = .returned (.tuple #[.slice A 4 c, .int .i64 0]) ∧ IntsIn w' A 4 [2, 0, 6, 7] ∧ Below w.heap.size w w' := by
  refine (R.codes (four w) (some ⟨w.heap.size, 0, none⟩) 4 4 [2, 1, 3, 3] (four_in w) (Nat.le_refl _) (by unfold maxLen; omega)).mono ?_
  rintro e w' ⟨v, rfl, ho, hb⟩
  rw [codes_four] at ho ⊢
  obtain ⟨A, c, rfl, _⟩ := own_slice ho
  exact ⟨A, c, rfl, ints_of_own ho, (four_below w).trans (hb.mono (by simp [four]))⟩
theorem aenc (w : World) : Calls Try.prog 14 #[.slice (some ⟨w.heap.size, 0, none⟩) 4 4, .slice (some ⟨w.heap.size + 1, 0, none⟩) 3 3] ((w.alloc (.cells #[.int .i64 2, .int .i64 1, .int .i64 3, .int .i64 3] 3)).alloc (.cells #[.int .i64 0, .int .i64 1, .int .i64 2] 3)) fun e w' => e = .returned (.tuple #[.agg #[.string ⟨#[152]⟩, .int .i64 6], .int .i64 0]) ∧ Below w.heap.size w w' := by
  have hz : (four w).heap.size = w.heap.size + 1 := by simp [four]
  have h2 : ZIn ((four w).alloc (.cells #[.int .i64 0, .int .i64 1, .int .i64 2] 3)) (some ⟨w.heap.size + 1, 0, none⟩) 3 [0, 1, 2] := by
    rw [← hz]
    exact lit_zin (four w) [0, 1, 2]
  have hb2 : Below (four w).heap.size (four w) ((four w).alloc (.cells #[.int .i64 0, .int .i64 1, .int .i64 2] 3)) := (Below.refl _ _).alloc (Nat.le_refl _) _
  refine (R.enc ((four w).alloc (.cells #[.int .i64 0, .int .i64 1, .int .i64 2] 3)) (some ⟨w.heap.size, 0, none⟩) (some ⟨w.heap.size + 1, 0, none⟩) 4 4 3 3 [2, 1, 3, 3] [0, 1, 2] ((four_in w).below hb2) (Nat.le_refl _) (by unfold maxLen; omega) h2 (Nat.le_refl _) (by omega)).mono ?_
  rintro e w' ⟨rfl, hb⟩
  rw [put_three]
  exact ⟨by rw [pack_three]; rfl, ((four_below w).trans (hb2.mono (by omega))).trans (hb.mono (by simp [four]; omega))⟩
include hS in
theorem adec (w : World) : Calls Try.prog 16 #[.slice (some ⟨w.heap.size, 0, none⟩) 4 4, .string ⟨#[152]⟩, .int .i64 3] (w.alloc (.cells #[.int .i64 2, .int .i64 1, .int .i64 3, .int .i64 3] 3)) fun e w' => e = .returned (.tuple #[.int .i64 2, .int .i64 6, .int .i64 0]) ∧ Below w.heap.size w w' := by
  refine (R.dec (four w) (some ⟨w.heap.size, 0, none⟩) 4 4 [2, 1, 3, 3] ⟨#[152]⟩ 3 (four_in w) (Nat.le_refl _) (by unfold maxLen; omega) hS (by omega) (by omega)).mono ?_
  rintro e w' ⟨rfl, hb⟩
  have h : decAns [2, 1, 3, 3] (bitsB (⟨#[152]⟩ : ByteArray).data.toList) 3 = (2, 6, 0) := dec_two
  rw [h]
  exact ⟨rfl, (four_below w).trans (hb.mono (by simp [four]))⟩

include hS in
set_option maxHeartbeats 1600000 in
set_option maxRecDepth 100000 in
theorem awake_any (w : World) : Calls Try.prog 13 #[] w fun e w' => e = .returned (.bool true) ∧ Below w.heap.size w w' := by
  have heq := bits_eql ⟨#[152]⟩ 6
  have hg := guardB
  have HE := Lib.hid (aenc R)
  have HD := Lib.hid (adec R hS)
  go_enter Try.func13, Try.ntmps13
  go_wp2_with fail
  refine (acodes R w).mono ?_
  rintro e w1 ⟨A, c, rfl, hi, hb1⟩
  have HI := Lib.hid hi
  have HB1 := Lib.hid hb1
  clear hi hb1
  go_wp2_with fail
  refine (HE.out w1).mono ?_
  rintro e w2 ⟨rfl, hb2⟩
  have HB2 := Lib.hid (HB1.out.trans (hb2.mono HB1.out.size))
  have HI2 := Lib.hid (ints_low HI.out hb2)
  clear hb2
  have hk0 := blk_new w2 32 #[.string ⟨#[152]⟩, .int .i64 6]
  have hz2 := HB2.out.size
  have hba : Below w2.heap.size w2 (w2.alloc (.cells #[.string ⟨#[152]⟩, .int .i64 6] 32)) := (Below.refl _ _).alloc (Nat.le_refl _) _
  have HIA := Lib.hid (ints_low HI2.out hba)
  have HBA := Lib.hid (HB2.out.trans (hba.mono hz2))
  have HK0 := Lib.hid hk0
  have hd3 := HD.out (w2.alloc (.cells #[.string ⟨#[152]⟩, .int .i64 6] 32))
  have hz3 : (w2.alloc (.cells #[.string ⟨#[152]⟩, .int .i64 6] 32)).heap.size = w2.heap.size + 1 := by simp
  rw [hz3] at hd3
  have HD3 := Lib.hid hd3
  clear hk0 hba hd3 hz3
  go_wp2_with fail
  refine HD3.out.mono ?_
  rintro e w4 ⟨rfl, hb4⟩
  rw [show w2.heap.size + 1 = (w2.alloc (.cells #[.string ⟨#[152]⟩, .int .i64 6] 32)).heap.size by simp] at hb4
  have hk4 := (step_of_below hb4).blk HK0.out List.not_mem_nil List.not_mem_nil
  have HK4 := Lib.hid hk4
  have HI4 := Lib.hid (ints_low HIA.out hb4)
  have HB4 := Lib.hid (HBA.out.trans (hb4.mono HBA.out.size))
  clear hk4 hb4
  have hz4 := HB4.out.size
  have hal : Below w4.heap.size w4 (w4.alloc (.cells #[.int .i64 2, .int .i64 0, .int .i64 6, .int .i64 7] 3)) := (Below.refl _ _).alloc (Nat.le_refl _) _
  have HS := Lib.hid (ints_same _ _ _ 4 c 4 _ (ints_low HI4.out hal) (lit_nums w4 [2, 0, 6, 7]) (by omega))
  have HK5 := Lib.hid ((step_of_below hal).blk HK4.out List.not_mem_nil List.not_mem_nil)
  have HB5 := Lib.hid (HB4.out.trans (hal.mono hz4))
  clear hal
  go_wp2_with fail
  refine HS.out.mono ?_
  rintro e w5 ⟨rfl, m5, rfl⟩
  have hk5 : Blk ((w4.alloc (.cells #[.int .i64 2, .int .i64 0, .int .i64 6, .int .i64 7] 3)).drewN m5) w2.heap.size 32 #[.string ⟨#[152]⟩, .int .i64 6] := HK5.out
  have HB6 := Lib.hid (below_drewN HB5.out m5)
  generalize (w4.alloc (.cells #[.int .i64 2, .int .i64 0, .int .i64 6, .int .i64 7] 3)).drewN m5 = w5 at *
  have q0 : w5.cell? ⟨w2.heap.size, 0, none⟩ = some (.string ⟨#[152]⟩) := blk_cell hk5 0
  have q1 : w5.cell? ⟨w2.heap.size, 1, none⟩ = some (.int .i64 6) := blk_cell hk5 1
  clear hk5
  go_wp2_with fail
  go_ret
  exact ⟨rfl, HB6.out⟩
end

end Go.Proofs.Ytgnlpbnodijkgaa
