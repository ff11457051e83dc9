/- Rotations of a text: plain: their periods. -/
import Derived.Test.YtglcideecelemaaS
namespace Go.Proofs.Ytglcideecelemaa

/-- The byte at place k, round and round. -/
def rat (s : List UInt8) (k : Nat) : UInt8 := s.getD (k % s.length) 0
def rotL (s : List UInt8) (i : Nat) : List UInt8 := s.drop i ++ s.take i
theorem rotL_length (s : List UInt8) (i : Nat) : (rotL s i).length = s.length := by
  rw [rotL, List.length_append, List.length_drop, List.length_take]
  omega
theorem rat_mod (s : List UInt8) (k : Nat) : rat s (k % s.length) = rat s k := by
  unfold rat
  rw [Nat.mod_mod]
theorem rat_add (s : List UInt8) (i k : Nat) : rat s (i + k % s.length) = rat s (i + k) := by
  unfold rat
  rw [Nat.add_mod_mod]
theorem rat_round (s : List UInt8) (k : Nat) : rat s (k + s.length) = rat s k := by
  unfold rat
  rw [Nat.add_mod_right]
theorem rat_some (s : List UInt8) (k : Nat) (h : k < s.length) : s[k]? = some (rat s k) := by
  unfold rat
  rw [Nat.mod_eq_of_lt h, List.getD_eq_getElem?_getD, List.getElem?_eq_getElem h]
  rfl
theorem rotL_get (s : List UInt8) (i k : Nat) (hi : i ≤ s.length) (hk : k < s.length) : (rotL s i)[k]? = some (rat s (i + k)) := by
  unfold rotL
  by_cases h : k < s.length - i
  · rw [List.getElem?_append_left (by rw [List.length_drop]; exact h), List.getElem?_drop, rat_some s (i + k) (by omega)]
  · rw [List.getElem?_append_right (by rw [List.length_drop]; omega), List.length_drop, List.getElem?_take_of_lt (by omega), rat_some s (k - (s.length - i)) (by omega)]
    have := rat_round s (k - (s.length - i))
    rw [← this, show k - (s.length - i) + s.length = i + k by omega]
theorem rotL_eq (s : List UInt8) (i j : Nat) (hi : i ≤ s.length) (hj : j ≤ s.length) : rotL s i = rotL s j ↔ ∀ k, rat s (i + k) = rat s (j + k) := by
  constructor
  · intro h k
    by_cases h0 : s.length = 0
    · have : s = [] := List.eq_nil_of_length_eq_zero h0
      subst this
      simp [rat]
    · have hk : k % s.length < s.length := Nat.mod_lt _ (by omega)
      have h1 := rotL_get s i (k % s.length) hi hk
      rw [h, rotL_get s j (k % s.length) hj hk, rat_add, rat_add] at h1
      exact (Option.some.inj h1).symm
  · intro h
    apply List.ext_getElem?
    intro k
    by_cases hk : k < s.length
    · rw [rotL_get s i k hi hk, rotL_get s j k hj hk, h k]
    · rw [List.getElem?_eq_none (by rw [rotL_length]; omega), List.getElem?_eq_none (by rw [rotL_length]; omega)]
theorem rotL_zero (s : List UInt8) : rotL s 0 = s := by simp [rotL]

/-- p leaves the round as it is. -/
def Per (s : List UInt8) (p : Nat) : Prop := ∀ k, rat s (k + p) = rat s k
theorem per_all (s : List UInt8) : Per s s.length := fun k => rat_round s k
theorem per_rot (s : List UInt8) (p : Nat) (h : p ≤ s.length) : rotL s p = s ↔ Per s p := by
  have := rotL_eq s p 0 h (Nat.zero_le _)
  rw [rotL_zero] at this
  rw [this]
  constructor
  · intro h k
    have := h k
    rw [Nat.zero_add] at this
    rw [Nat.add_comm]
    exact this
  · intro h k
    rw [Nat.zero_add, Nat.add_comm]
    exact h k
theorem Per.add {s : List UInt8} {p q : Nat} (hp : Per s p) (hq : Per s q) : Per s (p + q) := fun k => by
  rw [← Nat.add_assoc, hq, hp]
theorem Per.mul {s : List UInt8} {p : Nat} (hp : Per s p) : ∀ m, Per s (p * m)
  | 0 => fun k => by rw [Nat.mul_zero, Nat.add_zero]
  | m + 1 => by rw [Nat.mul_succ]; exact (hp.mul m).add hp
theorem Per.sub {s : List UInt8} {p q : Nat} (hp : Per s (p + q)) (hq : Per s q) : Per s p := fun k => by
  rw [← hq (k + p), Nat.add_assoc, hp]
theorem Per.mod {s : List UInt8} {p q : Nat} (hp : Per s p) (hq : Per s q) : Per s (q % p) := by
  have h1 : q % p + p * (q / p) = q := Nat.mod_add_div q p
  exact Per.sub (by rw [h1]; exact hq) (hp.mul (q / p))
/-- The period of a text that is not empty. -/
def IsPer (s : List UInt8) (p : Nat) : Prop := 0 < p ∧ Per s p ∧ ∀ q, 0 < q → Per s q → p ≤ q
theorem isPer_one {s : List UInt8} {p q : Nat} (hp : IsPer s p) (hq : IsPer s q) : p = q := Nat.le_antisymm (hp.2.2 q hq.1 hq.2.1) (hq.2.2 p hp.1 hp.2.1)
theorem isPer_dvd {s : List UInt8} {p q : Nat} (hp : IsPer s p) (hq : Per s q) : q % p = 0 := by
  by_cases h : q % p = 0
  · exact h
  · have h1 := hp.2.2 (q % p) (by omega) (hp.2.1.mod hq)
    have h2 := Nat.mod_lt q hp.1
    omega
theorem isPer_le {s : List UInt8} {p : Nat} (hp : IsPer s p) (h : 0 < s.length) : p ≤ s.length := hp.2.2 _ h (per_all s)
/-- It is found from below: p is the first for which the rotation is the text. -/
theorem isPer_of_first {s : List UInt8} {p : Nat} (h0 : 0 < p) (hn : p ≤ s.length) (hp : p = s.length ∨ rotL s p = s) (hlow : ∀ q, 0 < q → q < p → rotL s q ≠ s) : IsPer s p := by
  refine ⟨h0, ?_, fun q hq hper => ?_⟩
  · rcases hp with rfl | hp
    · exact per_all s
    · exact (per_rot s p hn).1 hp
  · rcases Nat.lt_or_ge q p with h | h
    · exact absurd ((per_rot s q (by omega)).2 hper) (hlow q hq h)
    · exact h
/-- Of a text twice it is the text's. -/
theorem rat_twice (s : List UInt8) (k : Nat) : rat (s ++ s) k = rat s k := by
  by_cases h0 : s.length = 0
  · have : s = [] := List.eq_nil_of_length_eq_zero h0
    subst this
    rfl
  · unfold rat
    rw [List.length_append]
    have h1 : k % (s.length + s.length) % s.length = k % s.length := Nat.mod_mod_of_dvd k ⟨2, by omega⟩
    have h2 : k % (s.length + s.length) < s.length + s.length := Nat.mod_lt _ (by omega)
    rw [← h1]
    generalize k % (s.length + s.length) = j at *
    by_cases h : j < s.length
    · rw [Nat.mod_eq_of_lt h, List.getD_eq_getElem?_getD, List.getD_eq_getElem?_getD, List.getElem?_append_left h]
    · rw [List.getD_eq_getElem?_getD, List.getD_eq_getElem?_getD, List.getElem?_append_right (by omega), Nat.mod_eq_sub_mod (by omega), Nat.mod_eq_of_lt (by omega)]
theorem per_twice (s : List UInt8) (p : Nat) : Per (s ++ s) p ↔ Per s p := by
  constructor
  · intro h k
    have := h k
    rwa [rat_twice, rat_twice] at this
  · intro h k
    rw [rat_twice, rat_twice]
    exact h k
theorem isPer_twice {s : List UInt8} {p : Nat} (h : IsPer s p) : IsPer (s ++ s) p := ⟨h.1, (per_twice s p).2 h.2.1, fun q hq hper => h.2.2 q hq ((per_twice s q).1 hper)⟩
/-- Rotations that far apart are one text. -/
theorem rot_apart {s : List UInt8} {p : Nat} (h : Per s p) (i : Nat) (hi : i < s.length) : rotL s i = rotL s ((i + p) % s.length) := by
  have hm := Nat.mod_lt (i + p) (show 0 < s.length by omega)
  refine (rotL_eq s i _ (by omega) (by omega)).2 fun k => ?_
  have h1 : rat s ((i + p) % s.length + k) = rat s (i + p + k) := by
    unfold rat
    rw [Nat.mod_add_mod]
  rw [h1, show i + p + k = (i + k) + p by omega]
  exact (h _).symm
/-- Two that are one text are a period apart. -/
theorem per_of_rot {s : List UInt8} {i p : Nat} (hi : i < s.length) (h : rotL s i = rotL s ((i + p) % s.length)) : Per s p := by
  have hm := Nat.mod_lt (i + p) (show 0 < s.length by omega)
  have h1 := (rotL_eq s i _ (by omega) (by omega)).1 h
  intro k
  have h2 := h1 (k + (s.length - i))
  have h3 : rat s ((i + p) % s.length + (k + (s.length - i))) = rat s (i + p + (k + (s.length - i))) := by
    unfold rat
    rw [Nat.mod_add_mod]
  rw [h3, show i + (k + (s.length - i)) = k + s.length by omega, show i + p + (k + (s.length - i)) = (k + p) + s.length by omega, rat_round, rat_round] at h2
  exact h2.symm
theorem rot_next {s : List UInt8} {p i : Nat} (hp : IsPer s p) (hi : i < s.length) : rotL s i = rotL s ((i + 1) % s.length) ↔ p = 1 := by
  constructor
  · intro h
    have h1 := hp.2.2 1 (by omega) (per_of_rot hi h)
    have := hp.1
    omega
  · intro h
    subst h
    exact rot_apart hp.2.1 i hi

end Go.Proofs.Ytglcideecelemaa
