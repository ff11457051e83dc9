/- A word's bits, turned round by steps; a byte's by a table: plain. -/
import Derived.Test.YtkhabmbclepjpaaDd
namespace Go.Proofs.Ytkhabmbclepjpaa
open Go.RowKit

/-- Pieces of k bits, neighbours swapped. -/
def swapK (k m x : Nat) : Nat := (x / 2 ^ k &&& m) ||| ((x &&& m) * 2 ^ k)
theorem swapK_bit (k m x i : Nat) : (swapK k m x).testBit i = ((x.testBit (i + k) && m.testBit i) || (decide (k ≤ i) && (x.testBit (i - k) && m.testBit (i - k)))) := by
  unfold swapK
  rw [Nat.testBit_or, Nat.testBit_and, Nat.testBit_div_two_pow, Nat.testBit_mul_two_pow, Nat.testBit_and]
theorem upto32 {i : Nat} (h : i < 32) : i = 0 ∨ i = 1 ∨ i = 2 ∨ i = 3 ∨ i = 4 ∨ i = 5 ∨ i = 6 ∨ i = 7 ∨ i = 8 ∨ i = 9 ∨ i = 10 ∨ i = 11 ∨ i = 12 ∨ i = 13 ∨ i = 14 ∨ i = 15 ∨ i = 16 ∨ i = 17 ∨ i = 18 ∨ i = 19 ∨ i = 20 ∨ i = 21 ∨ i = 22 ∨ i = 23 ∨ i = 24 ∨ i = 25 ∨ i = 26 ∨ i = 27 ∨ i = 28 ∨ i = 29 ∨ i = 30 ∨ i = 31 := by omega
theorem swap1 (x i : Nat) (h : i < 32) : (swapK 1 1431655765 x).testBit i = x.testBit (i ^^^ 1) := by
  rw [swapK_bit]
  have hm : ∀ j, j < 32 → Nat.testBit 1431655765 j = decide (j / 1 % 2 = 0) := fun j hj => (by decide : ∀ j : Fin 32, Nat.testBit 1431655765 j.val = decide (j.val / 1 % 2 = 0)) ⟨j, hj⟩
  rcases upto32 h with rfl | rfl | rfl | rfl | rfl | rfl | rfl | rfl | rfl | rfl | rfl | rfl | rfl | rfl | rfl | rfl | rfl | rfl | rfl | rfl | rfl | rfl | rfl | rfl | rfl | rfl | rfl | rfl | rfl | rfl | rfl | rfl <;> simp [hm]
theorem swap2 (x i : Nat) (h : i < 32) : (swapK 2 858993459 x).testBit i = x.testBit (i ^^^ 2) := by
  rw [swapK_bit]
  have hm : ∀ j, j < 32 → Nat.testBit 858993459 j = decide (j / 2 % 2 = 0) := fun j hj => (by decide : ∀ j : Fin 32, Nat.testBit 858993459 j.val = decide (j.val / 2 % 2 = 0)) ⟨j, hj⟩
  rcases upto32 h with rfl | rfl | rfl | rfl | rfl | rfl | rfl | rfl | rfl | rfl | rfl | rfl | rfl | rfl | rfl | rfl | rfl | rfl | rfl | rfl | rfl | rfl | rfl | rfl | rfl | rfl | rfl | rfl | rfl | rfl | rfl | rfl <;> simp [hm]
theorem swap4 (x i : Nat) (h : i < 32) : (swapK 4 252645135 x).testBit i = x.testBit (i ^^^ 4) := by
  rw [swapK_bit]
  have hm : ∀ j, j < 32 → Nat.testBit 252645135 j = decide (j / 4 % 2 = 0) := fun j hj => (by decide : ∀ j : Fin 32, Nat.testBit 252645135 j.val = decide (j.val / 4 % 2 = 0)) ⟨j, hj⟩
  rcases upto32 h with rfl | rfl | rfl | rfl | rfl | rfl | rfl | rfl | rfl | rfl | rfl | rfl | rfl | rfl | rfl | rfl | rfl | rfl | rfl | rfl | rfl | rfl | rfl | rfl | rfl | rfl | rfl | rfl | rfl | rfl | rfl | rfl <;> simp [hm]
theorem swap8 (x i : Nat) (h : i < 32) : (swapK 8 16711935 x).testBit i = x.testBit (i ^^^ 8) := by
  rw [swapK_bit]
  have hm : ∀ j, j < 32 → Nat.testBit 16711935 j = decide (j / 8 % 2 = 0) := fun j hj => (by decide : ∀ j : Fin 32, Nat.testBit 16711935 j.val = decide (j.val / 8 % 2 = 0)) ⟨j, hj⟩
  rcases upto32 h with rfl | rfl | rfl | rfl | rfl | rfl | rfl | rfl | rfl | rfl | rfl | rfl | rfl | rfl | rfl | rfl | rfl | rfl | rfl | rfl | rfl | rfl | rfl | rfl | rfl | rfl | rfl | rfl | rfl | rfl | rfl | rfl <;> simp [hm]
def swapH (x : Nat) : Nat := (x / 65536) ||| (x * 65536 % 4294967296)
theorem swap16 (x i : Nat) (hx : x < 4294967296) (h : i < 32) : (swapH x).testBit i = x.testBit (i ^^^ 16) := by
  unfold swapH
  rw [Nat.testBit_or, show x / 65536 = x / 2 ^ 16 by rfl, Nat.testBit_div_two_pow, show x * 65536 % 4294967296 = (x * 2 ^ 16) % 2 ^ 32 by rfl, Nat.testBit_mod_two_pow, Nat.testBit_mul_two_pow]
  have hh : ∀ k, 32 ≤ k → x.testBit k = false := fun k hk => Nat.testBit_lt_two_pow (Nat.lt_of_lt_of_le hx (Nat.pow_le_pow_right (n := 2) (by omega) hk))
  rcases upto32 h with rfl | rfl | rfl | rfl | rfl | rfl | rfl | rfl | rfl | rfl | rfl | rfl | rfl | rfl | rfl | rfl | rfl | rfl | rfl | rfl | rfl | rfl | rfl | rfl | rfl | rfl | rfl | rfl | rfl | rfl | rfl | rfl <;> simp (disch := omega) [hh]
theorem swapK_lt (k m x : Nat) (hm : m < 4294967296) (hk : m * 2 ^ k < 4294967296) : swapK k m x < 4294967296 := by
  unfold swapK
  refine Nat.or_lt_two_pow (n := 32) (Nat.lt_of_le_of_lt Nat.and_le_right hm) ?_
  exact Nat.lt_of_le_of_lt (Nat.mul_le_mul_right _ Nat.and_le_right) hk
theorem swapH_lt (x : Nat) (hx : x < 4294967296) : swapH x < 4294967296 := by
  unfold swapH
  exact Nat.or_lt_two_pow (n := 32) (by omega) (by omega)
def rev32 (x : Nat) : Nat := swapH (swapK 8 16711935 (swapK 4 252645135 (swapK 2 858993459 (swapK 1 1431655765 x))))
theorem rev32_lt (x : Nat) : rev32 x < 4294967296 := swapH_lt _ (swapK_lt _ _ _ (by decide) (by decide))
theorem rev32_bit (x i : Nat) (h : i < 32) : (rev32 x).testBit i = x.testBit (31 - i) := by
  unfold rev32
  have b : ∀ k, k < 32 → ∀ j, j < 32 → k ^^^ j < 32 := fun k hk j hj => Nat.xor_lt_two_pow (n := 5) hk hj
  rw [swap16 _ _ (swapK_lt _ _ _ (by decide) (by decide)) h, swap8 _ _ (b _ h _ (by decide)), swap4 _ _ (b _ (b _ h _ (by decide)) _ (by decide)), swap2 _ _ (b _ (b _ (b _ h _ (by decide)) _ (by decide)) _ (by decide)),
    swap1 _ _ (b _ (b _ (b _ (b _ h _ (by decide)) _ (by decide)) _ (by decide)) _ (by decide))]
  congr 1
  have : ∀ j : Fin 32, (((j.val ^^^ 16) ^^^ 8) ^^^ 4 ^^^ 2) ^^^ 1 = 31 - j.val := by decide
  exact this ⟨i, h⟩
theorem bit_div (x i : Nat) : x / 2 ^ i % 2 = if x.testBit i then 1 else 0 := by
  rw [Nat.testBit_eq_decide_div_mod_eq]
  by_cases h : x / 2 ^ i % 2 = 1
  · simp [h]
  · simp [h]
    omega
theorem rev32_bits (x : Nat) : bitsN (rev32 x) 32 = (bitsN x 32).reverse := by
  apply List.ext_getElem?
  intro i
  by_cases h : i < 32
  · rw [bitsN_get _ _ _ h, List.getElem?_reverse (by rw [bitsN_length]; exact h), bitsN_length, bitsN_get _ _ _ (by omega), bit_div, bit_div, rev32_bit _ _ (by omega), show 31 - (32 - 1 - i) = i by omega]
  · rw [List.getElem?_eq_none (by rw [bitsN_length]; omega), List.getElem?_eq_none (by rw [List.length_reverse, bitsN_length]; omega)]
theorem rev32_val (x : Nat) : val (bitsN x 32).reverse = rev32 x := by
  rw [← rev32_bits, val_bitsN, Nat.mod_eq_of_lt (rev32_lt x)]

end Go.Proofs.Ytkhabmbclepjpaa
