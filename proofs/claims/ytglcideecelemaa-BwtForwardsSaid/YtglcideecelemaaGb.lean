/- Rotations of a text: plain: their order. -/
import Derived.Test.YtglcideecelemaaGa
namespace Go.Proofs.Ytglcideecelemaa

/-- Rotation i stands ahead of rotation j, or is the same text with a lesser number. -/
def RLt (s : List UInt8) (i j : Nat) : Prop := rotL s i < rotL s j ∨ (rotL s i = rotL s j ∧ i < j)
instance (s : List UInt8) (i j : Nat) : Decidable (RLt s i j) := inferInstanceAs (Decidable (_ ∨ _))
theorem RLt.irrefl (s : List UInt8) (i : Nat) : ¬ RLt s i i := by
  rintro (h | ⟨_, h⟩)
  · exact List.lt_irrefl _ h
  · exact Nat.lt_irrefl _ h
theorem RLt.trans {s : List UInt8} {i j k : Nat} (h1 : RLt s i j) (h2 : RLt s j k) : RLt s i k := by
  rcases h1 with h1 | ⟨e1, h1⟩ <;> rcases h2 with h2 | ⟨e2, h2⟩
  · exact .inl (List.lt_trans h1 h2)
  · exact .inl (e2 ▸ h1)
  · exact .inl (e1 ▸ h2)
  · exact .inr ⟨e1.trans e2, Nat.lt_trans h1 h2⟩
theorem RLt.total (s : List UInt8) (i j : Nat) (h : i ≠ j) : RLt s i j ∨ RLt s j i := by
  by_cases h1 : rotL s i < rotL s j
  · exact .inl (.inl h1)
  · by_cases h2 : rotL s j < rotL s i
    · exact .inr (.inl h2)
    · have e : rotL s i = rotL s j := List.le_antisymm (List.not_lt.1 h2) (List.not_lt.1 h1)
      rcases Nat.lt_or_gt_of_ne h with h3 | h3
      · exact .inl (.inr ⟨e, h3⟩)
      · exact .inr (.inr ⟨e.symm, h3⟩)
/-- The numbers of all rotations in order. -/
def IsOrd (s : List UInt8) (L : List Nat) : Prop := L.Pairwise (RLt s) ∧ ∀ i, i ∈ L ↔ i < s.length
theorem sorted_one {s : List UInt8} : ∀ {L M : List Nat}, L.Pairwise (RLt s) → M.Pairwise (RLt s) → (∀ i, i ∈ L ↔ i ∈ M) → L = M
  | [], M, _, _, h => by
    cases M with
    | nil => rfl
    | cons b M => exact absurd ((h b).2 List.mem_cons_self) List.not_mem_nil
  | a :: L, M, hL, hM, h => by
    cases M with
    | nil => exact absurd ((h a).1 List.mem_cons_self) List.not_mem_nil
    | cons b M =>
      rw [List.pairwise_cons] at hL hM
      have hab : a = b := by
        by_cases e : a = b
        · exact e
        · have h1 : a ∈ M := by
            rcases List.mem_cons.1 ((h a).1 List.mem_cons_self) with h1 | h1
            · exact absurd h1 e
            · exact h1
          have h2 : b ∈ L := by
            rcases List.mem_cons.1 ((h b).2 List.mem_cons_self) with h2 | h2
            · exact absurd h2.symm e
            · exact h2
          exact absurd ((hM.1 a h1).trans (hL.1 b h2)) (RLt.irrefl s b)
      subst hab
      congr 1
      refine sorted_one hL.2 hM.2 fun i => ?_
      constructor
      · intro hi
        rcases List.mem_cons.1 ((h i).1 (List.mem_cons_of_mem _ hi)) with e | h1
        · exact absurd (e ▸ hL.1 i hi) (RLt.irrefl s a)
        · exact h1
      · intro hi
        rcases List.mem_cons.1 ((h i).2 (List.mem_cons_of_mem _ hi)) with e | h1
        · exact absurd (e ▸ hM.1 i hi) (RLt.irrefl s a)
        · exact h1
theorem isOrd_one {s : List UInt8} {L M : List Nat} (h : IsOrd s L) (k : IsOrd s M) : L = M := sorted_one h.1 k.1 fun i => (h.2 i).trans (k.2 i).symm
theorem isOrd_nodup {s : List UInt8} {L : List Nat} (h : IsOrd s L) : L.Nodup := h.1.imp fun {a b} hab e => by
  subst e
  exact RLt.irrefl s a hab
theorem isOrd_length {s : List UInt8} {L : List Nat} (h : IsOrd s L) : L.length = s.length := by
  have hp : L.Perm (List.range s.length) := (List.perm_ext_iff_of_nodup (isOrd_nodup h) List.nodup_range).2 fun i => by rw [h.2 i, List.mem_range]
  rw [hp.length_eq, List.length_range]
/-- Two lists in order, as one. -/
theorem sorted_perm {s : List UInt8} {L : List Nat} (h : L.Pairwise (RLt s)) (hm : L.Perm (List.range s.length)) : IsOrd s L := ⟨h, fun i => by rw [hm.mem_iff, List.mem_range]⟩
/-- Whether one of two rotations stands ahead: byte by byte. -/
theorem rotL_lt_first (s : List UInt8) (i j m : Nat) (hi : i < s.length) (hj : j < s.length) (hm : m < s.length) (heq : ∀ k, k < m → rat s (i + k) = rat s (j + k)) (hlt : rat s (i + m) < rat s (j + m)) : rotL s i < rotL s j := by
  refine List.lt_iff_exists.2 (.inr ⟨m, by rw [rotL_length]; exact hm, by rw [rotL_length]; exact hm, ?_, ?_⟩)
  · intro k hk
    have h1 := rotL_get s i k (by omega) (by omega)
    have h2 := rotL_get s j k (by omega) (by omega)
    rw [List.getElem?_eq_getElem (by rw [rotL_length]; omega)] at h1 h2
    rw [Option.some.inj h1, Option.some.inj h2, heq k hk]
  · have h1 := rotL_get s i m (by omega) hm
    have h2 := rotL_get s j m (by omega) hm
    rw [List.getElem?_eq_getElem (by rw [rotL_length]; omega)] at h1 h2
    rw [Option.some.inj h1, Option.some.inj h2]
    exact hlt

end Go.Proofs.Ytglcideecelemaa
