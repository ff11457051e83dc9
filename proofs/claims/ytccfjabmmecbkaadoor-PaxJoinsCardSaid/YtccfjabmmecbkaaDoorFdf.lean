/- Fields: what is read is what was laid; the digits of a number; a turned byte and the sum: plain. Written ahead of stage 15. -/
import Derived.Test.YtccfjabmmecbkaaDoorFda
namespace Go.Proofs.YtccfjabmmecbkaaDoor
open Go.RowKit

theorem dig8_toNat (d : Nat) (h : d < 10) : (dig8 d).toNat = 48 + d := by
  unfold dig8
  rw [UInt8.toNat_ofNat']
  omega
theorem dig8_self (c : UInt8) (h : 48 ≤ c.toNat) : dig8 (c.toNat - 48) = c := by
  apply UInt8.toNat_inj.1
  unfold dig8
  rw [UInt8.toNat_ofNat']
  have := UInt8.toNat_lt c
  omega
set_option maxRecDepth 100000 in
/-- Numbers in octal digits are read. -/
theorem numF_oct (r : List UInt8) : ∀ (k : Nat) (n : Int) (acc : Nat), 0 ≤ n → (acc : Int) * 8 ^ k + n % 8 ^ k ≤ 9007199254740992 →
    ∃ m : Nat, (m : Int) = acc * 8 ^ k + n % 8 ^ k ∧ numF (octL k n ++ r) acc = numF r m
  | 0, n, acc, hn, h => ⟨acc, by simp [Int.emod_one], rfl⟩
  | k + 1, n, acc, hn, h => by
    have hp : (0 : Int) < 8 ^ k := Int.pow_pos (by omega)
    have hd0 : 0 ≤ n / 8 ^ k % 8 := Int.emod_nonneg _ (by omega)
    have hd8 : n / 8 ^ k % 8 < 8 := Int.emod_lt_of_pos _ (by omega)
    obtain ⟨d, hd⟩ : ∃ d : Nat, (n / 8 ^ k % 8) = d := ⟨(n / 8 ^ k % 8).toNat, by omega⟩
    have hsplit : n % 8 ^ (k + 1) = (d : Int) * 8 ^ k + n % 8 ^ k := by
      have hA := Int.emod_add_mul_ediv n (8 ^ k)
      have hB := Int.emod_add_mul_ediv (n / 8 ^ k) 8
      have hr0 : 0 ≤ n % 8 ^ k := Int.emod_nonneg _ (by omega)
      have hr1 : n % 8 ^ k < 8 ^ k := Int.emod_lt_of_pos _ hp
      rw [Int.pow_succ]
      rw [hd] at hB
      have h7 : (8 : Int) ^ k * d ≤ 8 ^ k * 7 := Int.mul_le_mul_of_nonneg_left (by omega) (by omega)
      have h00 : 0 ≤ (8 : Int) ^ k * d := Int.mul_nonneg (by omega) (by omega)
      have hn2 : n = (n % 8 ^ k + 8 ^ k * d) + (8 ^ k * 8) * (n / 8 ^ k / 8) := by
        rw [Int.mul_assoc, Int.add_assoc, ← Int.mul_add, hB]
        exact hA.symm
      generalize n % 8 ^ k = r1 at *
      generalize n / 8 ^ k / 8 = b1 at *
      rw [hn2, Int.add_mul_emod_self_left, Int.emod_eq_of_lt (by omega) (by omega)]
      rw [Int.add_comm, Int.mul_comm]
    have hm : (acc : Int) * 8 ^ (k + 1) + n % 8 ^ (k + 1) = ((8 * acc + d : Nat) : Int) * 8 ^ k + n % 8 ^ k := by
      rw [hsplit, Int.pow_succ]
      push_cast
      rw [Int.add_mul, Int.mul_comm (8 ^ k) 8, ← Int.mul_assoc, Int.mul_comm (acc : Int) 8, Int.add_assoc]
    have hr : 0 ≤ n % 8 ^ k := Int.emod_nonneg _ (by omega)
    have hacc : acc ≤ 9007199254740992 := by
      have h1 : (acc : Int) * 1 ≤ acc * 8 ^ (k + 1) := Int.mul_le_mul_of_nonneg_left (by rw [Int.pow_succ]; omega) (by omega)
      have h2 : 0 ≤ n % 8 ^ (k + 1) := Int.emod_nonneg _ (by rw [Int.pow_succ]; omega)
      omega
    obtain ⟨m, hm1, hm2⟩ := numF_oct r k n (8 * acc + d) hn (by rw [← hm]; exact h)
    refine ⟨m, by rw [hm1, hm], ?_⟩
    rw [octL, hd, Int.toNat_natCast, List.cons_append, numF, dig8_toNat d (by omega), if_pos (by omega), if_pos hacc, show 48 + d - 48 = d by omega]
    exact hm2
set_option maxRecDepth 100000 in
theorem octal_back (n width : Int) (X : List UInt8) (hn : n ≤ 9007199254740992) (h : octalA n width = (X, 0)) : numberA X = (n.toNat, 0) ∧ 0 ≤ n ∧ (X.length : Int) = width := by
  unfold octalA at h
  split at h
  · exact absurd (congrArg Prod.snd h) (by simp)
  rename_i hw
  split at h
  · exact absurd (congrArg Prod.snd h) (by simp)
  rename_i hz
  have hz := Decidable.not_not.1 hz
  have hX := congrArg Prod.fst h
  dsimp only at hX
  obtain ⟨k, hk⟩ : ∃ k, width.toNat - 1 = k + 1 := ⟨width.toNat - 2, by omega⟩
  rw [hk] at hz hX
  have hp : (0 : Int) < 8 ^ (k + 1) := Int.pow_pos (by omega)
  have h0 : 0 ≤ n := by
    rcases Int.lt_or_le n 0 with h | h
    · have := Int.ediv_neg_of_neg_of_pos h hp
      omega
    · exact h
  have hlt : n % 8 ^ (k + 1) = n := by
    have := Int.emod_add_mul_ediv n (8 ^ (k + 1))
    rw [hz, Int.mul_zero] at this
    omega
  obtain ⟨m, hm1, hm2⟩ := numF_oct [0] (k + 1) n 0 h0 (by rw [hlt]; simp; exact hn)
  have hmn : m = n.toNat := by rw [hlt] at hm1; simp at hm1; omega
  have hcut : cutF 32 32 X = X := by
    rw [← hX, octL, List.cons_append, cutF, if_neg]
    have hd0 : 0 ≤ n / 8 ^ k % 8 := Int.emod_nonneg _ (by omega)
    have hd8 : n / 8 ^ k % 8 < 8 := Int.emod_lt_of_pos _ (by omega)
    rw [dig8_toNat _ (by omega)]
    omega
  have hnum : numF X 0 = (n.toNat, [0]) := by
    rw [← hX, hm2, hmn]
    rfl
  refine ⟨?_, h0, ?_⟩
  · unfold numberA
    rw [hcut, hnum]
    dsimp only
    rw [show cutF 32 0 [0] = [] from rfl, if_neg (fun h => h rfl), if_neg (by omega)]
  · rw [← hX, List.length_append, octL_length]
    simp
    omega
/-- The digits of a number. -/
def decL (n : Nat) : List UInt8 := if n < 10 then [dig8 n] else decL (n / 10) ++ [dig8 (n % 10)]
  termination_by n
theorem digF_dec : ∀ (f n : Nat) (o : List UInt8), n ≤ f → digF f n (dig8 (n % 10) :: o) = decL n ++ o
  | 0, n, o, h => by
    obtain rfl : n = 0 := by omega
    rw [digF, decL]
    rfl
  | f + 1, n, o, h => by
    rw [digF, decL]
    by_cases e : 10 ≤ n
    · rw [if_pos e, if_neg (by omega), digF_dec f (n / 10) _ (by omega), List.append_assoc]
      rfl
    · rw [if_neg e, if_pos (by omega), Nat.mod_eq_of_lt (by omega)]
      rfl
theorem digits_dec (n : Nat) : digitsA n = decL n := by
  unfold digitsA
  rw [if_neg (by omega), Int.toNat_natCast, digF_dec n n [] (Nat.le_refl _), List.append_nil]
set_option maxRecDepth 100000 in
theorem decL_ne (n : Nat) : decL n ≠ [] := by
  rw [decL]
  split
  · exact List.cons_ne_nil _ _
  · simp
theorem decL_head (n : Nat) (h : 1 ≤ n) : (decL n).getD 0 0 ≠ 48 := by
  induction n using Nat.strongRecOn with
  | ind n ih =>
    rw [decL]
    by_cases e : n < 10
    · rw [if_pos e]
      show dig8 n ≠ 48
      intro hh
      have := congrArg UInt8.toNat hh
      rw [dig8_toNat n e] at this
      have h48 : (48 : UInt8).toNat = 48 := rfl
      omega
    · rw [if_neg e]
      have hp : 0 < (decL (n / 10)).length := List.length_pos_iff.2 (decL_ne _)
      rw [List.getD_eq_getElem?_getD, List.getElem?_append_left hp, ← List.getD_eq_getElem?_getD]
      exact ih (n / 10) (by omega) (by omega)
theorem decF_digit (c : Nat) (hc : c < 10) (r : List UInt8) (n : Nat) (hn : n ≤ 9007199254740992) : decF (dig8 c :: r) n = decF r (10 * n + c) := by
  rw [decF, dig8_toNat c hc, if_neg (by omega), if_pos hn, show 48 + c - 48 = c by omega]
theorem decF_dec (n : Nat) (hn : n ≤ 90071992547409929) : ∀ r, decF (decL n ++ r) 0 = decF r n := by
  induction n using Nat.strongRecOn with
  | ind n ih =>
    intro r
    rw [decL]
    by_cases e : n < 10
    · rw [if_pos e, List.cons_append, List.nil_append, decF_digit n e r 0 (by omega)]
      congr 1
      omega
    · rw [if_neg e, List.append_assoc, ih (n / 10) (by omega) (by omega), List.cons_append, List.nil_append, decF_digit _ (by omega) r _ (by omega)]
      congr 1
      omega
set_option maxRecDepth 100000 in
theorem decimal_digits (n : Nat) (hn : n ≤ 9007199254740992) : decimalA (decL n) = (n, 0) := by
  unfold decimalA
  rw [if_neg]
  · have h := decF_dec n (by omega) []
    rw [List.append_nil] at h
    rw [h]
    show (if 9007199254740992 < n then ((0 : Nat), (3 : Nat)) else (n, 0)) = _
    rw [if_neg (by omega)]
  · rintro (h | ⟨h1, h2⟩)
    · exact decL_ne n h
    · by_cases e : n = 0
      · subst e
        rw [decL] at h2
        simp at h2
      · exact decL_head n (by omega) h1
theorem decF_snoc (c : UInt8) : ∀ (p : List UInt8) (n : Nat), decF (p ++ [c]) n = (decF p n).bind fun m => decF [c] m
  | [], n => rfl
  | x :: p, n => by
    rw [List.cons_append, decF, decF]
    split
    · rfl
    · exact decF_snoc c p _
set_option maxRecDepth 100000 in
theorem dec_back_rev : ∀ (r : List UInt8) (n : Nat), r ≠ [] → ¬ ((r.reverse).getD 0 0 = 48 ∧ 1 < r.length) → decF r.reverse 0 = some n → n ≤ 9007199254740992 → decL n = r.reverse
  | [], _, h, _, _, _ => absurd rfl h
  | c :: p, n, _, hz, hd, hn => by
    rw [List.reverse_cons] at hz hd ⊢
    rw [decF_snoc] at hd
    have last : ∀ m, decF [c] m = some n → (48 ≤ c.toNat ∧ c.toNat ≤ 57) ∧ n = if m ≤ 9007199254740992 then 10 * m + (c.toNat - 48) else m := by
      intro m h
      rw [decF] at h
      split at h
      · exact absurd h (by simp)
      · rename_i g
        rw [decF] at h
        exact ⟨by omega, (Option.some.inj h).symm⟩
    cases p with
    | nil =>
      obtain ⟨h1, h2⟩ := last 0 hd
      rw [if_pos (by omega)] at h2
      rw [decL, if_pos (by omega), h2, show 10 * 0 + (c.toNat - 48) = c.toNat - 48 by omega, dig8_self c h1.1]
      rfl
    | cons x q =>
      have hpos : 0 < (x :: q).reverse.length := by simp
      have hz2 : ((x :: q).reverse).getD 0 0 ≠ 48 := fun h => hz ⟨by
        rw [List.getD_eq_getElem?_getD, List.getElem?_append_left hpos, ← List.getD_eq_getElem?_getD]
        exact h, by simp⟩
      cases hdp : decF (x :: q).reverse 0 with
      | none => rw [hdp] at hd; exact absurd hd (by simp)
      | some m =>
        rw [hdp] at hd
        obtain ⟨h1, h2⟩ := last m hd
        by_cases g : m ≤ 9007199254740992
        · rw [if_pos g] at h2
          have ih := dec_back_rev (x :: q) m (List.cons_ne_nil _ _) (fun h => hz2 h.1) hdp g
          have hm : m ≠ 0 := by
            intro h0
            rw [h0, decL, if_pos (by omega)] at ih
            rw [← ih] at hz2
            exact hz2 rfl
          rw [decL, if_neg (by omega), show n / 10 = m by omega, show n % 10 = c.toNat - 48 by omega, ih, dig8_self c h1.1]
        · rw [if_neg g] at h2
          omega
set_option maxRecDepth 100000 in
theorem decimal_back (s : List UInt8) (d : Nat) (h : decimalA s = (d, 0)) : decL d = s := by
  unfold decimalA at h
  split at h
  · exact absurd (congrArg Prod.snd h) (by simp)
  rename_i hc
  cases hd : decF s 0 with
  | none => rw [hd] at h; exact absurd (congrArg Prod.snd h) (show ¬ (150 : Nat) = 0 by decide)
  | some n =>
    rw [hd] at h
    have h : (if 9007199254740992 < n then ((0 : Nat), (3 : Nat)) else (n, 0)) = (d, 0) := h
    split at h
    · exact absurd (congrArg Prod.snd h) (by simp)
    rename_i hn
    obtain rfl : n = d := congrArg Prod.fst h
    have hr := dec_back_rev s.reverse n (by simp; exact fun x => hc (.inl x)) (by rw [List.reverse_reverse, List.length_reverse]; exact fun x => hc (.inr x)) (by rw [List.reverse_reverse]; exact hd) (by omega)
    rw [List.reverse_reverse] at hr
    exact hr
theorem cutZ_pad (k : Nat) : ∀ s : List UInt8, cutZ s = s → cutZ (s ++ List.replicate k 0) = s
  | [], _ => by
    cases k with
    | zero => rfl
    | succ k => rw [List.nil_append, List.replicate_succ, cutZ, if_pos rfl]
  | c :: s, h => by
    rw [cutZ] at h
    split at h
    · exact absurd h.symm (List.cons_ne_nil _ _)
    · rename_i g
      rw [List.cons_append, cutZ, if_neg g, cutZ_pad k s (List.cons.inj h).2]
set_option maxRecDepth 100000 in
theorem text_back (s : List UInt8) (width : Int) (X : List UInt8) (h : textA s width = (X, 0)) : cutZ X = s ∧ (X.length : Int) = width := by
  unfold textA at h
  split at h
  · exact absurd (congrArg Prod.snd h) (by simp)
  rename_i hw
  split at h
  · exact absurd (congrArg Prod.snd h) (by simp)
  rename_i hl
  have hX := congrArg Prod.fst h
  dsimp only at hX
  have hcz : cutZ s = s := Decidable.not_not.1 fun x => hl (.inr x)
  refine ⟨by rw [← hX]; exact cutZ_pad _ s hcz, ?_⟩
  have hls : ¬ width < (s.length : Int) := fun x => hl (.inl x)
  rw [← hX, List.length_append, List.length_replicate]
  omega
/-- The sum of a sector of which one byte is another. -/
theorem sumF_set (s : List UInt8) (a : Nat) (x : UInt8) (ha : a < s.length) : ∀ q, (q ≤ a → sumF (s.set a x) q = sumF s q) ∧
    (a < q → if a < 148 ∨ 155 < a then sumF (s.set a x) q + (s.getD a 0).toNat = sumF s q + x.toNat else sumF (s.set a x) q = sumF s q)
  | 0 => ⟨fun _ => rfl, fun h => absurd h (by omega)⟩
  | q + 1 => by
    have ih := sumF_set s a x ha q
    have hne : q ≠ a → (s.set a x).getD q 0 = s.getD q 0 := fun h => by
      rw [List.getD_eq_getElem?_getD, List.getElem?_set_ne (Ne.symm h), ← List.getD_eq_getElem?_getD]
    have heq : (s.set a x).getD a 0 = x := by
      rw [List.getD_eq_getElem?_getD, List.getElem?_set_self ha]
      rfl
    constructor
    · intro h
      rw [sumF_next, sumF_next, ih.1 (by omega), hne (by omega)]
    · intro h
      rw [sumF_next, sumF_next]
      by_cases e : q = a
      · subst e
        rw [heq, ih.1 (Nat.le_refl _)]
        by_cases g : q < 148 ∨ 155 < q
        · rw [if_pos g, if_pos g, if_pos g]
          omega
        · rw [if_neg g, if_neg g, if_neg g]
      · have i2 := ih.2 (by omega)
        rw [hne e]
        by_cases g : a < 148 ∨ 155 < a
        · rw [if_pos g] at i2 ⊢
          omega
        · rw [if_neg g] at i2 ⊢
          rw [i2]
theorem sum_turned (s : List UInt8) (a : Nat) (x : UInt8) (hs : s.length = 512) (ha : a < 512) (hx : x ≠ s.getD a 0) : sumA s = (256 + sumF s 512, 0) ∧ sumA (s.set a x) = (256 + sumF (s.set a x) 512, 0) ∧ (256 + sumF s 512 = 256 + sumF (s.set a x) 512 ↔ 148 ≤ a ∧ a < 156) := by
  refine ⟨by unfold sumA; rw [if_neg (by omega)], by unfold sumA; rw [List.length_set, if_neg (by omega)], ?_⟩
  have h := (sumF_set s a x (by omega) 512).2 ha
  have hne : x.toNat ≠ (s.getD a 0).toNat := fun hh => hx (UInt8.toNat_inj.1 hh)
  by_cases g : a < 148 ∨ 155 < a
  · rw [if_pos g] at h
    omega
  · rw [if_neg g] at h
    omega
end Go.Proofs.YtccfjabmmecbkaaDoor
