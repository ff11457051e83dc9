/- What each law asks besides, some answers that the document fixes, is true in any world. No conditions. -/
import Derived.Test.YtelgmihemnidkaaB
import Derived.Test.YtelgmihemnidkaaE
namespace Go.Proofs.Ytelgmihemnidkaa
open Go.RowKit

theorem put_53 (B : Nat) (w : World) (p : Nat) (v : Value) (hW : IsW B w p v []) :
    Calls Try.prog 13 #[.pointer (some ⟨p, 0, none⟩), .int .u64 5, .int .i64 3] w fun e w' => e = .returned (.int .i64 0) ∧ ∃ v', IsW B w' p v' [1, 0, 1] ∧ Step B [p] [5] w w' :=
  put_ok B w p v [] 5 3 hW (by decide) (by decide) (by decide)
theorem put_12 (B : Nat) (w : World) (p : Nat) (v : Value) (hW : IsW B w p v [1, 0, 1]) :
    Calls Try.prog 13 #[.pointer (some ⟨p, 0, none⟩), .int .u64 1, .int .i64 2] w fun e w' => e = .returned (.int .i64 0) ∧ ∃ v', IsW B w' p v' [1, 0, 1, 0, 1] ∧ Step B [p] [5] w w' :=
  put_ok B w p v [1, 0, 1] 1 2 hW (by decide) (by decide) (by decide)
theorem unary_3 (B : Nat) (w : World) (p : Nat) (hR : IsR B w p ⟨#[232]⟩ 0) :
    Calls Try.prog 19 #[.pointer (some ⟨p, 0, none⟩), .int .i64 3] w fun e w' => e = .returned (.tuple #[.int .i64 3, .int .i64 0]) ∧ IsR B w' p ⟨#[232]⟩ 4 ∧ Step B [p] [] w w' :=
  unary_ok B w p ⟨#[232]⟩ 0 3 3 [1, 0, 0, 0] hR (by decide) (by decide) (by decide) (by decide)
theorem len_5 (B : Nat) (w : World) (p : Nat) (v : Value) (hW : IsW B w p v [1, 0, 1, 0, 1]) :
    Calls Try.prog 14 #[.pointer (some ⟨p, 0, none⟩)] w fun e w' => e = .returned (.int .i64 5) ∧ w = w' :=
  wlen_yes w p 5 (by have := blk_cell hW.blk 0; simpa using this) (by have := blk_cell hW.blk 2; simpa using this)
theorem text_a8 (B : Nat) (w : World) (p : Nat) (v : Value) (hW : IsW B w p v [1, 0, 1, 0, 1]) :
    Calls Try.prog 15 #[.pointer (some ⟨p, 0, none⟩)] w fun e w' => e = .returned (.string ⟨#[168]⟩) ∧ w = w' :=
  wtext_yes B w p v _ hW
theorem at_4 (B : Nat) (w : World) (p : Nat) (s : ByteArray) (hR : IsR B w p s 4) :
    Calls Try.prog 23 #[.pointer (some ⟨p, 0, none⟩)] w fun e w' => e = .returned (.int .i64 4) ∧ w = w' :=
  rat_yes w p 4 (by have := blk_cell hR.blk 0; simpa using this) (by have := blk_cell hR.blk 2; simpa using this)
theorem left_4 (B : Nat) (w : World) (p : Nat) (hR : IsR B w p ⟨#[232]⟩ 4) :
    Calls Try.prog 24 #[.pointer (some ⟨p, 0, none⟩)] w fun e w' => e = .returned (.int .i64 4) ∧ ∃ k, w' = w.drewN k :=
  rleft_yes w p ⟨#[232]⟩ 4 (by decide) (by decide) (by have := blk_cell hR.blk 0; simpa using this) (by have := blk_cell hR.blk 1; simpa using this) (by have := blk_cell hR.blk 2; simpa using this)

theorem awake_any (w : World) : Calls Try.prog 10 #[] w fun e w' => e = .returned (.bool true) ∧ Below w.heap.size w w' := by
  go_enter Try.func10, Try.ntmps10
  go_wp2_with fail
  refine (newW w).mono ?_
  rintro e w1 ⟨rfl, hw1⟩
  have hS1 : Step w.heap.size [w.heap.size, w.heap.size + 1] [5] w w1 := by rw [hw1]; exact (Step.refl _ _ _ _).alloc (Nat.le_refl _) _
  have hz1 : w1.heap.size = w.heap.size + 1 := by rw [hw1]; simp
  have hW1 : IsW w.heap.size w1 w.heap.size (.slice none 0 0) [] := by rw [hw1]; exact isW_new w _ (Nat.le_refl _)
  have HZ1 := Lib.hid hz1
  have HW1 := Lib.hid hw1
  clear hz1 hw1
  go_wp2_with fail
  refine (newR_yes _ ⟨#[232]⟩ 0 (by decide) (by decide) (by decide)).mono ?_
  rw [HZ1.out]
  rintro e w2 ⟨rfl, hw2⟩
  have hS2 : Step w.heap.size [w.heap.size, w.heap.size + 1] [5] w w2 := by rw [hw2]; exact hS1.alloc hS1.size _
  have hW2 : IsW w.heap.size w2 w.heap.size (.slice none 0 0) [] := by rw [hw2]; exact hW1.alloc _
  have hR2 : IsR w.heap.size w2 (w.heap.size + 1) ⟨#[232]⟩ 0 := by
    have := isR_new w1 w.heap.size hS1.size ⟨#[232]⟩ 0
    rw [HZ1.out] at this
    rw [hw2]; exact this
  have HW2 := Lib.hid hw2
  clear hw2
  go_wp2_with fail
  refine (put_53 _ _ _ _ hW2).mono ?_
  rintro e w3 ⟨rfl, v3, hW3, hs3⟩
  have hS3 := hS2.trans (hs3.mono (Nat.le_refl _) (by simp) (by simp))
  have hR3 := hR2.put hW2 hs3
  go_wp2_with fail
  refine (put_12 _ _ _ _ hW3).mono ?_
  rintro e w4 ⟨rfl, v4, hW4, hs4⟩
  have hS4 := hS3.trans (hs4.mono (Nat.le_refl _) (by simp) (by simp))
  have hR4 := hR3.put hW3 hs4
  go_wp2_with fail
  refine (unary_3 _ _ _ hR4).mono ?_
  rintro e w5 ⟨rfl, hR5, hs5⟩
  have hS5 := hS4.trans (hs5.mono (Nat.le_refl _) (by simp) (by simp))
  have hW5 := hW4.take hR4 hs5
  go_wp2_with fail
  refine (text_a8 _ _ _ _ hW5).mono ?_
  rintro e w6 ⟨rfl, rfl⟩
  go_wp2_with fail
  refine (len_5 _ _ _ _ hW5).mono ?_
  rintro e w6 ⟨rfl, rfl⟩
  go_wp2_with fail
  refine (at_4 _ _ _ _ hR5).mono ?_
  rintro e w6 ⟨rfl, rfl⟩
  go_wp2_with fail
  refine (left_4 _ _ _ hR5).mono ?_
  rintro e w6 ⟨rfl, k, rfl⟩
  go_wp2_with fail
  go_ret
  exact ⟨rfl, (hS5.drewN k).below⟩

end Go.Proofs.Ytelgmihemnidkaa
