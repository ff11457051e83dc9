/- Plain mathematics: the register is linear, and eats a byte by a table. No conditions. -/
import Derived.Test.YtkhabmbclepjpaaCq
namespace Go.Proofs.Ytkhabmbclepjpaa

theorem xor_twice (a b : Nat) : 2 * (a ^^^ b) = (2 * a) ^^^ (2 * b) := by
  have h := Nat.shiftLeft_xor_distrib (a := a) (b := b) (i := 1)
  rw [Nat.shiftLeft_eq, Nat.shiftLeft_eq, Nat.shiftLeft_eq] at h
  rw [Nat.mul_comm 2, Nat.mul_comm 2 a, Nat.mul_comm 2 b]
  exact h
theorem xor_times (a b n : Nat) : (a ^^^ b) * 2 ^ n = (a * 2 ^ n) ^^^ (b * 2 ^ n) := by
  have h := Nat.shiftLeft_xor_distrib (a := a) (b := b) (i := n)
  rw [Nat.shiftLeft_eq, Nat.shiftLeft_eq, Nat.shiftLeft_eq] at h
  exact h
theorem xor_over (a b n : Nat) : (a ^^^ b) / 2 ^ n = (a / 2 ^ n) ^^^ (b / 2 ^ n) := by
  have h := Nat.shiftRight_xor_distrib (a := a) (b := b) (i := n)
  rw [Nat.shiftRight_eq_div_pow, Nat.shiftRight_eq_div_pow, Nat.shiftRight_eq_div_pow] at h
  exact h
theorem xor_times24 (a b : Nat) : (a ^^^ b) * 16777216 = (a * 16777216) ^^^ (b * 16777216) := by
  have h := xor_times a b 24
  rw [show (2 : Nat) ^ 24 = 16777216 from rfl] at h
  exact h
theorem xor_swap (a b c d : Nat) : (a ^^^ b) ^^^ (c ^^^ d) = (a ^^^ c) ^^^ (b ^^^ d) := by
  rw [Nat.xor_assoc, ← Nat.xor_assoc b c d, Nat.xor_comm b c, Nat.xor_assoc c b d, ← Nat.xor_assoc]
theorem crcBit_xor (a b : Nat) (ha : a < 4294967296) (hb : b < 4294967296) : crcBit (a ^^^ b) = crcBit a ^^^ crcBit b := by
  have h1 : 2 * (a ^^^ b) % 4294967296 = (2 * a % 4294967296) ^^^ (2 * b % 4294967296) := by
    rw [xor_twice]
    exact Nat.xor_mod_two_pow (n := 32)
  have h2 : (a ^^^ b) / 2147483648 = (a / 2147483648) ^^^ (b / 2147483648) := xor_over a b 31
  have hx : a ^^^ b < 4294967296 := Nat.xor_lt_two_pow (n := 32) ha hb
  have h3 : (if 2147483648 ≤ a ^^^ b then 79764919 else 0) = (if 2147483648 ≤ a then 79764919 else 0) ^^^ (if 2147483648 ≤ b then 79764919 else 0) := by
    have ha' : a / 2147483648 = 0 ∨ a / 2147483648 = 1 := by omega
    have hb' : b / 2147483648 = 0 ∨ b / 2147483648 = 1 := by omega
    rcases ha' with ha' | ha' <;> rcases hb' with hb' | hb' <;> rw [ha', hb'] at h2
    · have : (a ^^^ b) / 2147483648 = 0 := h2
      rw [if_neg (by omega), if_neg (by omega), if_neg (by omega)]
      rfl
    · have : (a ^^^ b) / 2147483648 = 1 := h2
      rw [if_pos (by omega), if_neg (by omega), if_pos (by omega)]
      rfl
    · have : (a ^^^ b) / 2147483648 = 1 := h2
      rw [if_pos (by omega), if_pos (by omega), if_neg (by omega)]
      rfl
    · have : (a ^^^ b) / 2147483648 = 0 := h2
      rw [if_neg (by omega), if_pos (by omega), if_pos (by omega)]
      rfl
  unfold crcBit
  rw [h1, h3]
  exact xor_swap _ _ _ _
theorem crcIter_xor (n : Nat) : ∀ a b, a < 4294967296 → b < 4294967296 → crcIter n (a ^^^ b) = crcIter n a ^^^ crcIter n b := by
  induction n with
  | zero => intro a b _ _; rfl
  | succ n ih =>
    intro a b ha hb
    rw [crcIter, crcIter, crcIter, crcBit_xor a b ha hb, ih _ _ (crcBit_lt a) (crcBit_lt b)]
theorem crcBit_low (d : Nat) (h : d < 2147483648) : crcBit d = 2 * d := by
  unfold crcBit
  rw [if_neg (by omega), Nat.xor_zero, Nat.mod_eq_of_lt (by omega)]
theorem crcIter_low (d : Nat) (h : d < 16777216) : crcIter 8 d = d * 256 := by
  simp only [crcIter]
  rw [crcBit_low d (by omega), crcBit_low (2 * d) (by omega), crcBit_low (2 * (2 * d)) (by omega), crcBit_low (2 * (2 * (2 * d))) (by omega), crcBit_low (2 * (2 * (2 * (2 * d)))) (by omega), crcBit_low (2 * (2 * (2 * (2 * (2 * d))))) (by omega), crcBit_low (2 * (2 * (2 * (2 * (2 * (2 * d)))))) (by omega), crcBit_low (2 * (2 * (2 * (2 * (2 * (2 * (2 * d))))))) (by omega)]
  omega
theorem split_xor (c : Nat) : c = (c / 16777216 * 16777216) ^^^ (c % 16777216) := by
  have hd : c / 16777216 * 16777216 = (c >>> 24) <<< 24 := by rw [Nat.shiftLeft_eq, Nat.shiftRight_eq_div_pow]
  have hm : c % 16777216 = c % 2 ^ 24 := rfl
  apply Nat.eq_of_testBit_eq
  intro i
  rw [hd, hm, Nat.testBit_xor, Nat.testBit_shiftLeft, Nat.testBit_shiftRight, Nat.testBit_mod_two_pow]
  by_cases h : i < 24
  · simp [h, show ¬ (24 ≤ i) by omega]
  · simp [h, show 24 ≤ i by omega, show 24 + (i - 24) = i by omega]
/-- What eight bits make of a register. -/
def crcTab (i : Nat) : Nat := crcIter 8 (i * 16777216)
theorem crcTab_lt (i : Nat) : crcTab i < 4294967296 := by
  unfold crcTab
  rw [crcIter]
  exact crcIter_lt 7 _ (crcBit_lt _)
theorem crcByte_tab (c b : Nat) (hc : c < 4294967296) (hb : b < 256) : crcByte c b = (c % 16777216 * 256) ^^^ crcTab ((c / 16777216) ^^^ b) := by
  have h1 : c ^^^ (b * 16777216) = (c % 16777216) ^^^ (((c / 16777216) ^^^ b) * 16777216) := by
    have h2 : ((c / 16777216) ^^^ b) * 16777216 = (c / 16777216 * 16777216) ^^^ (b * 16777216) := xor_times24 (c / 16777216) b
    rw [h2, ← Nat.xor_assoc, Nat.xor_comm (c % 16777216), ← split_xor]
  have h3 : (c / 16777216) ^^^ b < 256 := Nat.xor_lt_two_pow (n := 8) (by omega) hb
  have h4 : c % 16777216 < 16777216 := Nat.mod_lt _ (by omega)
  unfold crcByte crcTab
  rw [h1, crcIter_xor 8 _ _ (by omega) (by omega), crcIter_low _ h4]
theorem crcByte_xor (a b c d : Nat) (ha : a < 4294967296) (hc : c < 4294967296) (hb : b < 256) (hd : d < 256) : crcByte (a ^^^ c) (b ^^^ d) = crcByte a b ^^^ crcByte c d := by
  have h1 : (b ^^^ d) * 16777216 = (b * 16777216) ^^^ (d * 16777216) := xor_times24 b d
  unfold crcByte
  rw [h1, xor_swap, crcIter_xor 8 _ _ (Nat.xor_lt_two_pow (n := 32) ha (by omega)) (Nat.xor_lt_two_pow (n := 32) hc (by omega))]
theorem crcFold_xor (l : List UInt8) : ∀ (m : List UInt8) (a c : Nat), l.length = m.length → a < 4294967296 → c < 4294967296 → crcFold (a ^^^ c) (List.zipWith (· ^^^ ·) l m) = crcFold a l ^^^ crcFold c m := by
  induction l with
  | nil =>
    intro m a c h _ _
    have : m = [] := List.eq_nil_of_length_eq_zero h.symm
    subst this
    rfl
  | cons b l ih =>
    intro m a c h ha hc
    cases m with
    | nil => cases h
    | cons d m =>
      show crcFold (crcByte (a ^^^ c) (b ^^^ d).toNat) (List.zipWith (· ^^^ ·) l m) = crcFold (crcByte a b.toNat) l ^^^ crcFold (crcByte c d.toNat) m
      rw [UInt8.toNat_xor, crcByte_xor _ _ _ _ ha hc b.toNat_lt d.toNat_lt]
      exact ih m _ _ (by simpa using h) (crcByte_lt _ _) (crcByte_lt _ _)

end Go.Proofs.Ytkhabmbclepjpaa
