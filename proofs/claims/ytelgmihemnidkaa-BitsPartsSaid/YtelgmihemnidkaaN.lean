/- Plain mathematics of pieces: when bits may be; the bits of pieces joined. No conditions. -/
import Derived.Test.YtelgmihemnidkaaM
namespace Go.Proofs.Ytelgmihemnidkaa

/-- May bits be: s has just the bytes that n bits take, and behind them 0 bits alone. -/
def mayB (s : ByteArray) (n : Int) : Bool :=
  decide (0 ≤ n ∧ n ≤ 8 * (s.size : Int) ∧ 8 * (s.size : Int) < n + 8) && ((bitsB s.data.toList).drop n.toNat).all (· == 0)

theorem may_parts {s : ByteArray} {k : Nat} : mayB s k = true ↔ (k ≤ 8 * s.size ∧ 8 * s.size < k + 8 ∧ ((bitsB s.data.toList).drop k).all (· == 0) = true) := by
  unfold mayB
  rw [Bool.and_eq_true, decide_eq_true_iff, Int.toNat_natCast]
  constructor
  · rintro ⟨⟨_, h1, h2⟩, h3⟩
    exact ⟨by omega, by omega, h3⟩
  · rintro ⟨h1, h2, h3⟩
    exact ⟨⟨by omega, by omega, by omega⟩, h3⟩

theorem may_nat {s : ByteArray} {n : Int} (h : mayB s n = true) : ∃ k : Nat, n = k ∧ k ≤ 8 * s.size := by
  unfold mayB at h
  rw [Bool.and_eq_true, decide_eq_true_iff] at h
  exact ⟨n.toNat, by omega, by omega⟩

theorem may_neg (s : ByteArray) (n : Int) (h : n < 0) : mayB s n = false := by
  unfold mayB
  have : decide (0 ≤ n ∧ n ≤ 8 * (s.size : Int) ∧ 8 * (s.size : Int) < n + 8) = false := by rw [decide_eq_false_iff_not]; omega
  rw [this, Bool.false_and]

theorem may_far (s : ByteArray) (k : Nat) (h : 8 * s.size < k ∨ k + 8 ≤ 8 * s.size) : mayB s k = false := by
  rw [Bool.eq_false_iff]
  intro h1
  have := may_parts.1 h1
  omega

theorem may_whole (s : ByteArray) (k : Nat) (h : k % 8 = 0) : mayB s k = decide (s.size = k / 8) := by
  rw [Bool.eq_iff_iff, may_parts, decide_eq_true_iff]
  constructor
  · rintro ⟨h1, h2, _⟩
    omega
  · intro h1
    refine ⟨by omega, by omega, ?_⟩
    have hl : (bitsB s.data.toList).length = 8 * s.size := by rw [bitsB_length]; rfl
    rw [List.drop_of_length_le (by rw [hl]; omega)]
    rfl

theorem may_rest_no (s : ByteArray) (k : Nat) (h : k % 8 ≠ 0) (h1 : s.size ≠ k / 8 + 1) : mayB s k = false := by
  rw [Bool.eq_false_iff]
  intro h2
  have := may_parts.1 h2
  omega

theorem zeros_iff (v m : Nat) : (bitsN v m).all (· == 0) = true ↔ v % 2 ^ m = 0 := by
  constructor
  · intro h
    have h1 : bitsN v m = List.replicate m 0 := by
      rw [List.eq_replicate_iff]
      refine ⟨bitsN_length m v, fun b hb => ?_⟩
      have := List.all_eq_true.1 h b hb
      simpa using this
    rw [← val_bitsN, h1, ← bitsN_zero, val_bitsN, Nat.zero_mod]
  · intro h
    have h1 := bitsN_val (bitsN v m) (bit01_bitsN m v)
    rw [bitsN_length, val_bitsN, h, bitsN_zero] at h1
    rw [← h1]
    simp

theorem low_iff (c r : Nat) (hr : r ≤ 8) : c * 2 ^ r % 256 = 0 ↔ c % 2 ^ (8 - r) = 0 := by
  have e : 256 = 2 ^ (8 - r) * 2 ^ r := by rw [← Nat.pow_add, show 8 - r + r = 8 by omega]
  conv => lhs; lhs; rhs; rw [e]
  rw [Nat.mul_mod_mul_right]
  constructor
  · intro h
    rcases Nat.mul_eq_zero.1 h with h | h
    · exact h
    · have := Nat.two_pow_pos r; omega
  · intro h
    rw [h, Nat.zero_mul]

theorem may_rest (s : ByteArray) (k : Nat) (h : k % 8 ≠ 0) (h1 : s.size = k / 8 + 1) (hlt : k / 8 < s.size) : mayB s k = decide (s[k / 8].toNat * 2 ^ (k % 8) % 256 = 0) := by
  rw [Bool.eq_iff_iff, may_parts, decide_eq_true_iff, low_iff _ _ (by omega), ← zeros_iff]
  have hd : (bitsB s.data.toList).drop k = bitsN s[k / 8].toNat (8 - k % 8) := by
    have hl : s.data.toList.length = k / 8 + 1 := by rw [← h1]; rfl
    have hjl : k / 8 < s.data.toList.length := by omega
    have e : s.data.toList = s.data.toList.take (k / 8) ++ [s[k / 8]] := by
      have e1 := List.take_succ_eq_append_getElem hjl
      rw [List.take_of_length_le (by omega)] at e1
      exact e1
    have hlen : (bitsB (s.data.toList.take (k / 8))).length = 8 * (k / 8) := by rw [bitsB_length, List.length_take]; omega
    have hb8 : bitsN s[k / 8].toNat 8 = bitsN (s[k / 8].toNat / 2 ^ (8 - k % 8)) (k % 8) ++ bitsN s[k / 8].toNat (8 - k % 8) := by
      rw [← bitsN_add, show k % 8 + (8 - k % 8) = 8 by omega]
    conv => lhs; rw [e]
    rw [bitsB_append, bitsB_cons, bitsB_nil, List.append_nil]
    conv => lhs; lhs; rw [show k = 8 * (k / 8) + k % 8 by omega]
    rw [← List.drop_drop, List.drop_left' hlen, hb8, List.drop_left' (bitsN_length _ _)]
  rw [hd]
  constructor
  · rintro ⟨_, _, h3⟩
    exact h3
  · intro h3
    exact ⟨by omega, by omega, h3⟩

/-- The bits of the first i pieces, one behind the other; how many bytes their texts have. -/
def joinL (T : Nat → ByteArray) (K : Nat → Int) : Nat → List Nat
  | 0 => []
  | i + 1 => joinL T K i ++ (bitsB (T i).data.toList).take (K i).toNat
def totS (T : Nat → ByteArray) : Nat → Nat
  | 0 => 0
  | i + 1 => totS T i + (T i).size

theorem joinL_length (T : Nat → ByteArray) (K : Nat → Int) (i : Nat) : (joinL T K i).length ≤ 8 * totS T i := by
  induction i with
  | zero => simp [joinL]
  | succ i ih =>
    have hl : (bitsB (T i).data.toList).length = 8 * (T i).size := by rw [bitsB_length]; rfl
    rw [joinL, totS, List.length_append, List.length_take]
    omega
theorem totS_mono (T : Nat → ByteArray) {i j : Nat} (h : i ≤ j) : totS T i ≤ totS T j := by
  induction h with
  | refl => exact Nat.le_refl _
  | step _ ih => exact Nat.le_trans ih (by rw [totS]; omega)
theorem totS_at (T : Nat → ByteArray) {i n : Nat} (h : i < n) : (T i).size ≤ totS T n := by
  have := totS_mono T (show i + 1 ≤ n from h)
  rw [totS] at this
  omega
theorem bit01_joinL (T : Nat → ByteArray) (K : Nat → Int) (i : Nat) : Bit01 (joinL T K i) := by
  induction i with
  | zero => intro b h; simp [joinL] at h
  | succ i ih => rw [joinL]; exact ih.append ((bit01_bitsB _).take _)

/-- The first piece that may not be. -/
theorem first_bad (f : Nat → Bool) (n : Nat) : (∀ i, i < n → f i = true) ∨ ∃ j, j < n ∧ f j = false ∧ ∀ i, i < j → f i = true := by
  induction n with
  | zero => exact .inl fun i h => by omega
  | succ n ih =>
    rcases ih with h | ⟨j, h1, h2, h3⟩
    · cases hf : f n
      · exact .inr ⟨n, by omega, hf, h⟩
      · refine .inl fun i hi => ?_
        by_cases e : i = n
        · rw [e]; exact hf
        · exact h i (by omega)
    · exact .inr ⟨j, by omega, h2, h3⟩

end Go.Proofs.Ytelgmihemnidkaa
