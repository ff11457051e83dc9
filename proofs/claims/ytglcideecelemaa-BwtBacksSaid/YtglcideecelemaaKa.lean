/- The order of a text's rotations by their first bytes, plain: what t bytes say; twice as many. No conditions. -/
import Derived.Test.YtglcideecelemaaGb
namespace Go.Proofs.Ytglcideecelemaa

/-- The first t bytes of rotation i, round and round. -/
def pre (s : List UInt8) (t i : Nat) : List UInt8 := (List.range t).map fun k => rat s (i + k)
theorem pre_length (s : List UInt8) (t i : Nat) : (pre s t i).length = t := by simp [pre]
theorem pre_get (s : List UInt8) (t i k : Nat) (h : k < t) : (pre s t i)[k]? = some (rat s (i + k)) := by
  unfold pre
  rw [List.getElem?_map, List.getElem?_range h]
  rfl
theorem pre_add (s : List UInt8) (t u i : Nat) : pre s (t + u) i = pre s t i ++ pre s u (i + t) := by
  apply List.ext_getElem?
  intro k
  by_cases h : k < t
  · rw [List.getElem?_append_left (by rw [pre_length]; exact h), pre_get s _ _ _ (by omega), pre_get s _ _ _ h]
  · by_cases h2 : k < t + u
    · rw [List.getElem?_append_right (by rw [pre_length]; omega), pre_length, pre_get s _ _ _ h2, pre_get s _ _ _ (by omega), show i + t + (k - t) = i + k by omega]
    · rw [List.getElem?_eq_none (by rw [pre_length]; omega), List.getElem?_eq_none (by rw [List.length_append, pre_length, pre_length]; omega)]
theorem pre_mod (s : List UInt8) (t i : Nat) : pre s t (i % s.length) = pre s t i := by
  apply List.ext_getElem?
  intro k
  by_cases h : k < t
  · rw [pre_get s _ _ _ h, pre_get s _ _ _ h, ← rat_mod s (i % s.length + k), ← rat_mod s (i + k), Nat.mod_add_mod]
  · rw [List.getElem?_eq_none (by rw [pre_length]; omega), List.getElem?_eq_none (by rw [pre_length]; omega)]
theorem pre_rot (s : List UInt8) (i : Nat) (h : i ≤ s.length) : pre s s.length i = rotL s i := by
  apply List.ext_getElem?
  intro k
  by_cases hk : k < s.length
  · rw [pre_get s _ _ _ hk, rotL_get s i k h hk]
  · rw [List.getElem?_eq_none (by rw [pre_length]; omega), List.getElem?_eq_none (by rw [rotL_length]; omega)]
theorem pre_one (s : List UInt8) (i : Nat) : pre s 1 i = [rat s i] := by
  simp [pre]

/-- Two texts in two parts each, the first ones of one length. -/
theorem lex_app : ∀ (a b c d : List UInt8), a.length = b.length → (a ++ c < b ++ d ↔ a < b ∨ (a = b ∧ c < d))
  | [], [], c, d, _ => by simp
  | x :: a, [], c, d, h => by simp at h
  | [], y :: b, c, d, h => by simp at h
  | x :: a, y :: b, c, d, h => by
    have ih := lex_app a b c d (by simpa using h)
    rw [List.cons_append, List.cons_append, List.cons_lt_cons_iff, List.cons_lt_cons_iff, ih]
    constructor
    · rintro (h1 | ⟨h1, h2 | ⟨h2, h3⟩⟩)
      · exact .inl (.inl h1)
      · exact .inl (.inr ⟨h1, h2⟩)
      · exact .inr ⟨by rw [h1, h2], h3⟩
    · rintro ((h1 | ⟨h1, h2⟩) | ⟨h1, h2⟩)
      · exact .inl h1
      · exact .inr ⟨h1, .inl h2⟩
      · injection h1 with h3 h4
        exact .inr ⟨h3, .inr ⟨h4, h2⟩⟩
theorem pre_lt_add (s : List UInt8) (t u i j : Nat) : pre s (t + u) i < pre s (t + u) j ↔ pre s t i < pre s t j ∨ (pre s t i = pre s t j ∧ pre s u (i + t) < pre s u (j + t)) := by
  rw [pre_add, pre_add]
  exact lex_app _ _ _ _ (by rw [pre_length, pre_length])
theorem pre_eq_add (s : List UInt8) (t u i j : Nat) : pre s (t + u) i = pre s (t + u) j ↔ pre s t i = pre s t j ∧ pre s u (i + t) = pre s u (j + t) := by
  rw [pre_add, pre_add]
  constructor
  · intro h
    exact List.append_inj h (by rw [pre_length, pre_length])
  · rintro ⟨h1, h2⟩
    rw [h1, h2]
/-- As many bytes as there are, or more, say all. -/
theorem pre_all_eq (s : List UInt8) (u i j : Nat) (hi : i ≤ s.length) (hj : j ≤ s.length) : pre s (s.length + u) i = pre s (s.length + u) j ↔ rotL s i = rotL s j := by
  rw [pre_eq_add, pre_rot s i hi, pre_rot s j hj]
  constructor
  · exact fun h => h.1
  · intro h
    refine ⟨h, ?_⟩
    have hk := (rotL_eq s i j hi hj).1 h
    apply List.ext_getElem?
    intro k
    by_cases h1 : k < u
    · rw [pre_get s _ _ _ h1, pre_get s _ _ _ h1, show i + s.length + k = i + (s.length + k) by omega, show j + s.length + k = j + (s.length + k) by omega, hk]
    · rw [List.getElem?_eq_none (by rw [pre_length]; omega), List.getElem?_eq_none (by rw [pre_length]; omega)]
theorem pre_all_lt (s : List UInt8) (u i j : Nat) (hi : i ≤ s.length) (hj : j ≤ s.length) (h : pre s (s.length + u) i < pre s (s.length + u) j) : rotL s i < rotL s j := by
  rw [pre_lt_add, pre_rot s i hi, pre_rot s j hj] at h
  rcases h with h | ⟨h, h2⟩
  · exact h
  · have h3 := ((pre_all_eq s u i j hi hj).2 h)
    rw [pre_eq_add] at h3
    rw [h3.2] at h2
    exact absurd h2 (List.lt_irrefl _)
/-- Fewer bytes that say which one stands ahead say it of the whole. -/
theorem pre_few_lt (s : List UInt8) (t i j : Nat) (ht : t ≤ s.length) (hi : i ≤ s.length) (hj : j ≤ s.length) (h : pre s t i < pre s t j) : rotL s i < rotL s j := by
  have h1 : pre s (t + (s.length - t)) i < pre s (t + (s.length - t)) j := (pre_lt_add s t (s.length - t) i j).2 (.inl h)
  rw [show t + (s.length - t) = s.length by omega, pre_rot s i hi, pre_rot s j hj] at h1
  exact h1
theorem pre_lt_rot (s : List UInt8) (t i j : Nat) (hi : i ≤ s.length) (hj : j ≤ s.length) (h : pre s t i < pre s t j) : rotL s i < rotL s j := by
  rcases Nat.le_total t s.length with h1 | h1
  · exact pre_few_lt s t i j h1 hi hj h
  · exact pre_all_lt s (t - s.length) i j hi hj (by rw [show s.length + (t - s.length) = t by omega]; exact h)
theorem pre_eq_rot (s : List UInt8) (t i j : Nat) (ht : s.length ≤ t) (hi : i ≤ s.length) (hj : j ≤ s.length) (h : pre s t i = pre s t j) : rotL s i = rotL s j :=
  (pre_all_eq s (t - s.length) i j hi hj).1 (by rw [show s.length + (t - s.length) = t by omega]; exact h)

/-- R ranks the rotations by their first t bytes. -/
def Sem (s : List UInt8) (t : Nat) (R : Nat → Nat) : Prop := ∀ i j, i < s.length → j < s.length → ((R i < R j ↔ pre s t i < pre s t j) ∧ (R i = R j ↔ pre s t i = pre s t j))
/-- The key of a rotation in a round that knows t bytes. -/
def keyAt (n t : Nat) (R : Nat → Nat) (i : Nat) : Nat := R (if n ≤ i + t then i + t - n else i + t)
/-- What a round makes of ranks. -/
def Finer (n : Nat) (q key q' : Nat → Nat) : Prop := ∀ i j, i < n → j < n → ((q' i < q' j ↔ q i < q j ∨ (q i = q j ∧ key i < key j)) ∧ (q' i = q' j ↔ q i = q j ∧ key i = key j))
theorem sem_next (s : List UInt8) (t : Nat) (R q' : Nat → Nat) (ht : t < s.length) (h : Sem s t R) (hf : Finer s.length R (keyAt s.length t R) q') : Sem s (t + t) q' := by
  have hm : ∀ i, i < s.length → (if s.length ≤ i + t then i + t - s.length else i + t) < s.length ∧ (if s.length ≤ i + t then i + t - s.length else i + t) = (i + t) % s.length := by
    intro i hi
    split
    · rename_i h1
      rw [Nat.mod_eq_sub_mod h1, Nat.mod_eq_of_lt (by omega)]
      exact ⟨by omega, rfl⟩
    · rw [Nat.mod_eq_of_lt (by omega)]
      exact ⟨by omega, rfl⟩
  intro i j hi hj
  have h1 := hf i j hi hj
  have h2 := h i j hi hj
  obtain ⟨a1, a2⟩ := hm i hi
  obtain ⟨b1, b2⟩ := hm j hj
  have h3 := h _ _ a1 b1
  rw [show R (if s.length ≤ i + t then i + t - s.length else i + t) = keyAt s.length t R i from rfl, show R (if s.length ≤ j + t then j + t - s.length else j + t) = keyAt s.length t R j from rfl, a2, b2, pre_mod, pre_mod] at h3
  rw [h1.1, h1.2, h2.1, h2.2, h3.1, h3.2, pre_lt_add, pre_eq_add]
  exact ⟨Iff.rfl, Iff.rfl⟩
theorem sem_first (s : List UInt8) (R q' : Nat → Nat) (hR : ∀ i, i < s.length → R i = (rat s i).toNat) (hf : Finer s.length (fun _ => 0) (keyAt s.length 0 R) q') : Sem s 1 q' := by
  intro i j hi hj
  have h1 := hf i j hi hj
  have e : ∀ i, i < s.length → keyAt s.length 0 R i = (rat s i).toNat := fun i hi => by
    unfold keyAt
    rw [Nat.add_zero, if_neg (by omega), hR i hi]
  rw [e i hi, e j hj] at h1
  rw [h1.1, h1.2, pre_one, pre_one]
  constructor
  · rw [List.cons_lt_cons_iff]
    simp [UInt8.lt_iff_toNat_lt]
  · constructor
    · rintro ⟨_, h⟩
      rw [UInt8.toNat_inj.1 h]
    · intro h
      injection h with h
      exact ⟨rfl, by rw [h]⟩

end Go.Proofs.Ytglcideecelemaa
