/- Out of a last column: plain: the places of its bytes, sorted; the way back; rotations have one last column. -/
import Derived.Test.YtglcideecelemaaGb
namespace Go.Proofs.Ytglcideecelemaa

/-- The bytes' places, byte by byte. -/
def posL (s : List UInt8) (b : Nat) : List Nat := (List.range s.length).filter fun i => (s.getD i 0).toNat == b
def placesL (s : List UInt8) : List Nat := (List.range 256).flatMap (posL s)
/-- How often a byte stands in a text, and how many bytes are less. -/
def cntL (s : List UInt8) (b : Nat) : Nat := s.countP fun x => x.toNat == b
def firstL (s : List UInt8) : Nat → Nat
  | 0 => 0
  | b + 1 => firstL s b + cntL s b
/-- Where place i stands among the sorted ones. -/
def rankL (s : List UInt8) (i : Nat) : Nat := firstL s (s.getD i 0).toNat + cntL (s.take i) (s.getD i 0).toNat

theorem pos_len (s : List UInt8) (b : Nat) : ∀ n, n ≤ s.length → ((List.range n).filter fun i => (s.getD i 0).toNat == b).length = cntL (s.take n) b := by
  intro n
  induction n with
  | zero => intro _; simp [cntL]
  | succ n ih =>
    intro h
    rw [List.range_succ, List.filter_append, List.length_append, ih (by omega), List.take_add_one, cntL, cntL, List.countP_append, List.getElem?_eq_getElem (by omega)]
    have e : s.getD n 0 = s[n] := by rw [List.getD_eq_getElem?_getD, List.getElem?_eq_getElem (by omega)]; rfl
    simp only [Option.toList_some, List.countP_singleton, List.filter_cons, List.filter_nil, e]
    split <;> simp
theorem posL_length (s : List UInt8) (b : Nat) : (posL s b).length = cntL s b := by
  have := pos_len s b s.length (Nat.le_refl _)
  rwa [List.take_length] at this
theorem posL_get (s : List UInt8) (i : Nat) (h : i < s.length) : (posL s (s.getD i 0).toNat)[cntL (s.take i) (s.getD i 0).toNat]? = some i := by
  unfold posL
  have e : List.range s.length = List.range i ++ i :: (List.range (s.length - i - 1)).map (i + 1 + ·) := by
    conv => lhs; rw [show s.length = i + ((s.length - i - 1) + 1) by omega, List.range_add, List.range_succ_eq_map]
    simp only [List.map_cons, List.map_map, Nat.add_zero]
    congr 2
    apply List.map_congr_left
    intro j _
    simp only [Function.comp]
    omega
  rw [e, List.filter_append, List.getElem?_append_right (by rw [pos_len s _ i (by omega)]; exact Nat.le_refl _), pos_len s _ i (by omega), Nat.sub_self, List.filter_cons_of_pos (by simp)]
  rfl
theorem flat_length (s : List UInt8) : ∀ b, ((List.range b).flatMap (posL s)).length = firstL s b
  | 0 => rfl
  | b + 1 => by
    rw [List.range_succ, List.flatMap_append, List.length_append, flat_length s b, firstL]
    simp [posL_length]
theorem places_get (s : List UInt8) (i : Nat) (h : i < s.length) : (placesL s)[rankL s i]? = some i := by
  unfold placesL rankL
  have hb : (s.getD i 0).toNat < 256 := UInt8.toNat_lt _
  have hg := posL_get s i h
  generalize (s.getD i 0).toNat = b at *
  have e : List.range 256 = List.range b ++ b :: (List.range (256 - b - 1)).map (b + 1 + ·) := by
    conv => lhs; rw [show 256 = b + ((256 - b - 1) + 1) by omega, List.range_add, List.range_succ_eq_map]
    simp only [List.map_cons, List.map_map, Nat.add_zero]
    congr 2
    apply List.map_congr_left
    intro j _
    simp only [Function.comp]
    omega
  rw [e, List.flatMap_append, List.flatMap_cons, List.getElem?_append_right (by rw [flat_length]; omega), flat_length, Nat.add_sub_cancel_left, List.getElem?_append_left]
  · exact hg
  · exact (List.getElem?_eq_some_iff.1 hg).1
theorem places_mem (s : List UInt8) (i : Nat) : i ∈ placesL s ↔ i < s.length := by
  constructor
  · intro h
    obtain ⟨b, _, hb⟩ := List.mem_flatMap.1 h
    exact List.mem_range.1 (List.mem_filter.1 hb).1
  · intro h
    exact List.mem_of_getElem? (places_get s i h)
/-- Ahead: by the byte, then by the place. -/
def PLt (s : List UInt8) (i j : Nat) : Prop := s.getD i 0 < s.getD j 0 ∨ (s.getD i 0 = s.getD j 0 ∧ i < j)
theorem PLt.ne {s : List UInt8} {i j : Nat} (h : PLt s i j) : i ≠ j := by
  rintro rfl
  rcases h with h | ⟨_, h⟩
  · exact UInt8.lt_irrefl _ h
  · omega
theorem places_sorted (s : List UInt8) : (placesL s).Pairwise (PLt s) := by
  unfold placesL
  rw [List.pairwise_flatMap]
  refine ⟨fun b _ => ?_, ?_⟩
  · refine List.Pairwise.imp_of_mem ?_ (List.pairwise_lt_range.filter _)
    intro i j hi hj hij
    have h1 := (List.mem_filter.1 hi).2
    have h2 := (List.mem_filter.1 hj).2
    simp only [beq_iff_eq] at h1 h2
    exact .inr ⟨UInt8.toNat_inj.1 (h1.trans h2.symm), hij⟩
  · refine List.pairwise_lt_range.imp fun {a b} hab i hi j hj => ?_
    have h1 := (List.mem_filter.1 hi).2
    have h2 := (List.mem_filter.1 hj).2
    simp only [beq_iff_eq] at h1 h2
    exact .inl (UInt8.lt_iff_toNat_lt.2 (by omega))
theorem places_perm (s : List UInt8) : (placesL s).Perm (List.range s.length) :=
  (List.perm_ext_iff_of_nodup ((places_sorted s).imp PLt.ne) List.nodup_range).2 fun i => by rw [places_mem, List.mem_range]
theorem places_length (s : List UInt8) : (placesL s).length = s.length := by
  rw [(places_perm s).length_eq, List.length_range]
theorem rank_lt (s : List UInt8) (i : Nat) (h : i < s.length) : rankL s i < s.length := by
  rw [← places_length s]
  exact (List.getElem?_eq_some_iff.1 (places_get s i h)).1
theorem rank_inj (s : List UInt8) (i j : Nat) (h : i < s.length) (k : j < s.length) (e : rankL s i = rankL s j) : i = j := by
  have h1 := places_get s i h
  rw [e, places_get s j k] at h1
  exact (Option.some.inj h1).symm
/-- A row of numbers in which each place stands at its rank is the places. -/
theorem places_of_ranks (s : List UInt8) (P : List Nat) (hl : P.length = s.length) (h : ∀ i, i < s.length → P[rankL s i]? = some i) : P = placesL s := by
  refine List.ext_getElem? fun k => ?_
  by_cases hk : k < s.length
  · have hk2 : k < (placesL s).length := by rw [places_length]; exact hk
    obtain ⟨j, hj⟩ : ∃ j, (placesL s)[k]? = some j := ⟨_, List.getElem?_eq_getElem hk2⟩
    have hjl : j < s.length := (places_mem s j).1 (List.mem_of_getElem? hj)
    have hr : rankL s j = k := by
      have h1 := places_get s j hjl
      have hlt : rankL s j < (placesL s).length := by rw [places_length]; exact rank_lt s j hjl
      have hp := List.pairwise_iff_getElem.1 (places_sorted s)
      rw [List.getElem?_eq_getElem hlt] at h1
      rw [List.getElem?_eq_getElem hk2] at hj
      have h1 := Option.some.inj h1
      have hj := Option.some.inj hj
      rcases Nat.lt_trichotomy (rankL s j) k with h3 | h3 | h3
      · have := PLt.ne (hp _ _ hlt hk2 h3)
        exact absurd (h1.trans hj.symm) this
      · exact h3
      · have := PLt.ne (hp _ _ hk2 hlt h3)
        exact absurd (hj.trans h1.symm) this
    rw [hj, ← hr, h j hjl]
  · rw [List.getElem?_eq_none (by omega), List.getElem?_eq_none (by rw [places_length]; omega)]

/-- The last column of the rotations in an order. -/
def lastCol (s : List UInt8) (L : List Nat) : List UInt8 := L.map fun i => rat s (i + (s.length - 1))
theorem lastCol_length (s : List UInt8) (L : List Nat) : (lastCol s L).length = L.length := List.length_map _
theorem lastCol_getD (s : List UInt8) (L : List Nat) (k : Nat) (h : k < L.length) : (lastCol s L).getD k 0 = rat s (L.getD k 0 + (s.length - 1)) := by
  rw [lastCol, List.getD_eq_getElem?_getD, List.getElem?_map, List.getD_eq_getElem?_getD, List.getElem?_eq_getElem h]
  rfl
/-- The row that a way meets behind k steps. -/
def itr (Q : List Nat) (row : Nat) : Nat → Nat
  | 0 => row
  | k + 1 => Q.getD (itr Q row k) 0
/-- The text that is read from a row on. -/
def backL (last : List UInt8) (row : Nat) : List UInt8 := (List.range last.length).map fun k => last.getD (itr (placesL last) row (k + 1)) 0

def prevN (n i : Nat) : Nat := (i + (n - 1)) % n
theorem prev_lt (n i : Nat) (h : 0 < n) : prevN n i < n := Nat.mod_lt _ h
theorem prev_cases (n i : Nat) (h : i < n) : prevN n i = if i = 0 then n - 1 else i - 1 := by
  unfold prevN
  split
  · rename_i e
    subst e
    rw [Nat.zero_add, Nat.mod_eq_of_lt (by omega)]
  · rw [show i + (n - 1) = (i - 1) + n by omega, Nat.add_mod_right, Nat.mod_eq_of_lt (by omega)]
theorem prev_perm (n : Nat) : ((List.range n).map (prevN n)).Perm (List.range n) := by
  refine (List.perm_ext_iff_of_nodup ?_ List.nodup_range).2 fun i => ?_
  · rw [List.nodup_iff_pairwise_ne, List.pairwise_map]
    refine List.Pairwise.imp_of_mem ?_ List.nodup_range
    intro a b ha hb hab e
    have ha := List.mem_range.1 ha
    have hb := List.mem_range.1 hb
    rw [prev_cases n a ha, prev_cases n b hb] at e
    split at e <;> split at e <;> omega
  · rw [List.mem_map, List.mem_range]
    constructor
    · rintro ⟨a, ha, rfl⟩
      exact prev_lt n a (by have := List.mem_range.1 ha; omega)
    · intro h
      refine ⟨if i = n - 1 then 0 else i + 1, List.mem_range.2 (by split <;> omega), ?_⟩
      rw [prev_cases n _ (by split <;> omega)]
      split <;> split <;> omega
theorem rotL_prev_get (s : List UInt8) (i : Nat) (_ : i < s.length) (k : Nat) : (rotL s (prevN s.length i))[k]? = if k < s.length then some (rat s (i + (s.length - 1) + k)) else none := by
  split
  · rename_i h
    rw [rotL_get s _ k (Nat.le_of_lt (prev_lt _ _ (by omega))) h]
    congr 1
    unfold prevN rat
    rw [Nat.mod_add_mod]
  · rw [List.getElem?_eq_none (by rw [rotL_length]; omega)]
theorem rotL_prev (s : List UInt8) (i : Nat) (hi : i < s.length) : rotL s (prevN s.length i) = rat s (i + (s.length - 1)) :: (rotL s i).take (s.length - 1) := by
  refine List.ext_getElem? fun k => ?_
  rw [rotL_prev_get s i hi]
  cases k with
  | zero => rw [if_pos (by omega)]; rfl
  | succ k =>
    rw [List.getElem?_cons_succ, List.getElem?_take]
    by_cases h : k < s.length - 1
    · rw [if_pos (by omega), if_pos h, rotL_get s i k (by omega) (by omega)]
      have := rat_round s (i + k)
      rw [← this, show i + (s.length - 1) + (k + 1) = i + k + s.length by omega]
    · rw [if_neg (by omega), if_neg h]
theorem take_le {a b : List UInt8} (m : Nat) (hl : a.length = b.length) (h : a ≤ b) : a.take m ≤ b.take m := by
  refine List.not_lt.1 fun hlt => ?_
  rcases List.lt_iff_exists.1 hlt with ⟨_, h1⟩ | ⟨i, h1, h2, h3, h4⟩
  · simp only [List.length_take] at h1
    omega
  · simp only [List.length_take] at h1 h2
    refine absurd (List.lt_iff_exists.2 (.inr ⟨i, by omega, by omega, fun j hj => ?_, ?_⟩)) (List.not_lt.2 h)
    · have := h3 j hj
      rwa [List.getElem_take, List.getElem_take] at this
    · rwa [List.getElem_take, List.getElem_take] at h4
theorem RLt.le {s : List UInt8} {i j : Nat} (h : RLt s i j) : rotL s i ≤ rotL s j := by
  rcases h with h | ⟨h, _⟩
  · exact List.le_of_lt h
  · rw [h]
    exact List.le_refl _
theorem isOrd_perm {s : List UInt8} {L : List Nat} (h : IsOrd s L) : L.Perm (List.range s.length) :=
  (List.perm_ext_iff_of_nodup (isOrd_nodup h) List.nodup_range).2 fun i => by rw [h.2 i, List.mem_range]
theorem isOrd_lt {s : List UInt8} {L : List Nat} (h : IsOrd s L) (k : Nat) (hk : k < s.length) : L.getD k 0 < s.length := by
  have hk2 : k < L.length := by rw [isOrd_length h]; exact hk
  rw [List.getD_eq_getElem?_getD, List.getElem?_eq_getElem hk2]
  exact (h.2 _).1 (List.getElem_mem hk2)
theorem map_getD_range {α : Type} (L : List Nat) (f : Nat → α) : (List.range L.length).map (fun k => f (L.getD k 0)) = L.map f := by
  refine List.ext_getElem? fun k => ?_
  rw [List.getElem?_map, List.getElem?_map]
  by_cases h : k < L.length
  · rw [List.getElem?_range h, List.getElem?_eq_getElem h, Option.map_some, Option.map_some, List.getD_eq_getElem?_getD, List.getElem?_eq_getElem h]
    rfl
  · rw [List.getElem?_eq_none (by rw [List.length_range]; omega), List.getElem?_eq_none (by omega)]
    rfl
/-- The first step of the way back: the rotation at a row is that at the next row, turned by one. -/
theorem rows_step {s : List UInt8} {L : List Nat} (h : IsOrd s L) : L.map (rotL s) = (placesL (lastCol s L)).map fun k => rotL s (prevN s.length (L.getD k 0)) := by
  have hl := isOrd_length h
  have hp := isOrd_perm h
  refine List.Perm.eq_of_pairwise (le := (· ≤ ·)) (fun a b _ _ h1 h2 => List.le_antisymm h1 h2) ?_ ?_ ?_
  · rw [List.pairwise_map]
    exact h.1.imp RLt.le
  · rw [List.pairwise_map]
    refine List.Pairwise.imp_of_mem ?_ (places_sorted (lastCol s L))
    intro a b ha hb hab
    have ha : a < L.length := by have := (places_mem _ a).1 ha; rwa [lastCol_length] at this
    have hb : b < L.length := by have := (places_mem _ b).1 hb; rwa [lastCol_length] at this
    unfold PLt at hab
    rw [lastCol_getD s L a ha, lastCol_getD s L b hb] at hab
    rw [rotL_prev s _ (isOrd_lt h a (by omega)), rotL_prev s _ (isOrd_lt h b (by omega)), List.cons_le_cons_iff]
    rcases hab with h1 | ⟨h1, h2⟩
    · exact .inl h1
    · refine .inr ⟨h1, take_le _ (by rw [rotL_length, rotL_length]) ?_⟩
      have := List.pairwise_iff_getElem.1 h.1 a b ha hb h2
      rw [List.getD_eq_getElem?_getD, List.getElem?_eq_getElem ha, List.getD_eq_getElem?_getD, List.getElem?_eq_getElem hb]
      exact this.le
  · refine (hp.map (rotL s)).trans (List.Perm.symm ?_)
    refine ((places_perm (lastCol s L)).map _).trans ?_
    rw [lastCol_length, map_getD_range L fun i => rotL s (prevN s.length i)]
    refine (hp.map _).trans ?_
    have := (prev_perm s.length).map (rotL s)
    rwa [List.map_map] at this
theorem place_lt {s : List UInt8} {L : List Nat} (h : IsOrd s L) (r : Nat) (hr : r < s.length) : (placesL (lastCol s L)).getD r 0 < s.length := by
  have hl := isOrd_length h
  have hk : r < (placesL (lastCol s L)).length := by rw [places_length, lastCol_length]; omega
  rw [List.getD_eq_getElem?_getD, List.getElem?_eq_getElem hk]
  have := (places_mem (lastCol s L) _).1 (List.getElem_mem hk)
  rwa [lastCol_length, hl] at this
theorem row_step {s : List UInt8} {L : List Nat} (h : IsOrd s L) (r : Nat) (hr : r < s.length) (j : Nat) : rat s (L.getD r 0 + j) = rat s (L.getD ((placesL (lastCol s L)).getD r 0) 0 + (s.length - 1) + j) := by
  have hl := isOrd_length h
  have e := congrArg (fun l => l[r]?) (rows_step h)
  simp only [List.getElem?_map] at e
  have hk : r < (placesL (lastCol s L)).length := by rw [places_length, lastCol_length]; omega
  have hq := place_lt h r hr
  rw [List.getElem?_eq_getElem (by omega), List.getElem?_eq_getElem hk, Option.map_some, Option.map_some] at e
  have e := Option.some.inj e
  have hrl : L[r] = L.getD r 0 := by rw [List.getD_eq_getElem?_getD, List.getElem?_eq_getElem (by omega)]; rfl
  have hql : (placesL (lastCol s L))[r] = (placesL (lastCol s L)).getD r 0 := by rw [List.getD_eq_getElem?_getD, List.getElem?_eq_getElem hk]; rfl
  rw [hrl, hql] at e
  have := (rotL_eq s _ _ (Nat.le_of_lt (isOrd_lt h r hr)) (Nat.le_of_lt (prev_lt _ _ (by omega)))).1 e j
  rw [this]
  unfold prevN rat
  rw [Nat.mod_add_mod]
theorem itr_lt {s : List UInt8} {L : List Nat} (h : IsOrd s L) (r : Nat) (hr : r < s.length) : ∀ k, itr (placesL (lastCol s L)) r k < s.length
  | 0 => hr
  | k + 1 => place_lt h _ (itr_lt h r hr k)
theorem itr_row {s : List UInt8} {L : List Nat} (h : IsOrd s L) (r : Nat) (hr : r < s.length) : ∀ k j, rat s (L.getD (itr (placesL (lastCol s L)) r k) 0 + j) = rat s (L.getD r 0 + k + j) := by
  intro k
  induction k with
  | zero => intro j; rfl
  | succ k ih =>
    intro j
    have h1 := row_step h _ (itr_lt h r hr k) (j + 1)
    rw [ih (j + 1)] at h1
    rw [show L.getD r 0 + (k + 1) + j = L.getD r 0 + k + (j + 1) by omega, h1]
    have h2 := rat_round s (L.getD (itr (placesL (lastCol s L)) r (k + 1)) 0 + j)
    rw [← h2]
    congr 1
    show _ = L.getD (itr (placesL (lastCol s L)) r (k + 1)) 0 + (s.length - 1) + (j + 1)
    omega
/-- From any row on the rotation is read that stands there. -/
theorem back_rot {s : List UInt8} {L : List Nat} (h : IsOrd s L) (r : Nat) (hr : r < s.length) : backL (lastCol s L) r = rotL s (L.getD r 0) := by
  have hl := isOrd_length h
  refine List.ext_getElem? fun k => ?_
  unfold backL
  rw [List.getElem?_map, lastCol_length, hl]
  by_cases hk : k < s.length
  · rw [List.getElem?_range hk, Option.map_some, rotL_get s _ k (Nat.le_of_lt (isOrd_lt h r hr)) hk]
    have h1 := itr_lt h r hr (k + 1)
    rw [lastCol_getD s L _ (by omega)]
    have h2 := itr_row h r hr (k + 1) (s.length - 1)
    rw [h2, show L.getD r 0 + (k + 1) + (s.length - 1) = L.getD r 0 + k + s.length by omega, rat_round]
  · rw [List.getElem?_eq_none (by rw [List.length_range]; omega), List.getElem?_eq_none (by rw [rotL_length]; omega)]
    rfl

/-- Of rotations: those of a rotation are the text's. -/
theorem rotL_rotL (s : List UInt8) (i j : Nat) (hi : i < s.length) (hj : j < s.length) : rotL (rotL s i) j = rotL s ((i + j) % s.length) := by
  have hm := Nat.mod_lt (i + j) (show 0 < s.length by omega)
  refine List.ext_getElem? fun k => ?_
  by_cases hk : k < s.length
  · rw [rotL_get _ j k (by rw [rotL_length]; omega) (by rw [rotL_length]; exact hk), rotL_get s _ k (by omega) hk]
    congr 1
    unfold rat
    have h1 := rotL_get s i ((j + k) % s.length) (by omega) (Nat.mod_lt _ (by omega))
    rw [rotL_length, List.getD_eq_getElem?_getD, h1, Nat.mod_add_mod]
    unfold rat
    rw [Nat.add_mod_mod, Nat.add_assoc]
    rfl
  · rw [List.getElem?_eq_none (by rw [rotL_length, rotL_length]; omega), List.getElem?_eq_none (by rw [rotL_length]; omega)]
theorem turn_perm (n i : Nat) (hi : i < n) : ((List.range n).map fun j => (i + j) % n).Perm (List.range n) := by
  have e : ∀ j, j < n → (i + j) % n = if i + j < n then i + j else i + j - n := by
    intro j hj
    split
    · exact Nat.mod_eq_of_lt ‹_›
    · rw [Nat.mod_eq_sub_mod (by omega), Nat.mod_eq_of_lt (by omega)]
  refine (List.perm_ext_iff_of_nodup ?_ List.nodup_range).2 fun k => ?_
  · rw [List.nodup_iff_pairwise_ne, List.pairwise_map]
    refine List.Pairwise.imp_of_mem ?_ List.nodup_range
    intro a b ha hb hab h
    have ha := List.mem_range.1 ha
    have hb := List.mem_range.1 hb
    rw [e a ha, e b hb] at h
    split at h <;> split at h <;> omega
  · rw [List.mem_map, List.mem_range]
    constructor
    · rintro ⟨a, ha, rfl⟩
      exact Nat.mod_lt _ (by omega)
    · intro h
      refine ⟨if i ≤ k then k - i else k + n - i, List.mem_range.2 (by split <;> omega), ?_⟩
      rw [e _ (by split <;> omega)]
      split <;> split <;> omega
theorem rows_turn {s : List UInt8} {L M : List Nat} {i : Nat} (hi : i < s.length) (h : IsOrd s L) (k : IsOrd (rotL s i) M) : M.map (rotL (rotL s i)) = L.map (rotL s) := by
  have hp := isOrd_perm h
  have hq := isOrd_perm k
  rw [rotL_length] at hq
  refine List.Perm.eq_of_pairwise (le := (· ≤ ·)) (fun a b _ _ h1 h2 => List.le_antisymm h1 h2) ?_ ?_ ?_
  · rw [List.pairwise_map]
    exact k.1.imp RLt.le
  · rw [List.pairwise_map]
    exact h.1.imp RLt.le
  · refine (hq.map _).trans (List.Perm.trans ?_ (hp.map (rotL s)).symm)
    have e : (List.range s.length).map (rotL (rotL s i)) = ((List.range s.length).map fun j => (i + j) % s.length).map (rotL s) := by
      rw [List.map_map]
      refine List.map_congr_left fun j hj => ?_
      exact rotL_rotL s i j hi (List.mem_range.1 hj)
    rw [e]
    exact (turn_perm s.length i hi).map _
theorem lastCol_rows {s : List UInt8} {L : List Nat} (h : IsOrd s L) (n : Nat) (hn : n = s.length) : lastCol s L = (L.map (rotL s)).map fun t => t.getD (n - 1) 0 := by
  subst hn
  rw [List.map_map]
  refine List.map_congr_left fun i hi => ?_
  have hi := (h.2 i).1 hi
  show _ = (rotL s i).getD (s.length - 1) 0
  rw [List.getD_eq_getElem?_getD, rotL_get s i _ (by omega) (by omega)]
  rfl
/-- All rotations have one last column. -/
theorem lastCol_turn {s : List UInt8} {L M : List Nat} {i : Nat} (hi : i < s.length) (h : IsOrd s L) (k : IsOrd (rotL s i) M) : lastCol (rotL s i) M = lastCol s L := by
  rw [lastCol_rows h s.length rfl, lastCol_rows k s.length (rotL_length s i).symm, rows_turn hi h k]
/-- It has the text's bytes, each as often. -/
theorem lastCol_perm {s : List UInt8} {L : List Nat} (h : IsOrd s L) : (lastCol s L).Perm s := by
  refine ((isOrd_perm h).map _).trans ?_
  rcases Nat.eq_zero_or_pos s.length with h0 | h0
  · have : s = [] := List.eq_nil_of_length_eq_zero h0
    subst this
    exact List.Perm.refl _
  · have e : ((List.range s.length).map fun i => rat s (i + (s.length - 1))) = rotL s (s.length - 1) := by
      refine List.ext_getElem? fun k => ?_
      by_cases hk : k < s.length
      · rw [List.getElem?_map, List.getElem?_range hk, Option.map_some, rotL_get s _ k (by omega) hk, Nat.add_comm]
      · rw [List.getElem?_eq_none (by rw [List.length_map, List.length_range]; omega), List.getElem?_eq_none (by rw [rotL_length]; omega)]
    rw [e, rotL]
    refine List.perm_append_comm.trans ?_
    rw [List.take_append_drop]
/-- The row of a rotation that is the text's own stands ahead of all rows with that text. -/
theorem own_first {s : List UInt8} {L M : List Nat} {i m p : Nat} (hi : i < s.length) (h : IsOrd s L) (k : IsOrd (rotL s i) M) (hm : m < M.length) (em : M.getD m 0 = 0) (hp : p < L.length) (ep : L.getD p 0 = i) : m ≤ p := by
  rcases Nat.lt_or_ge p m with hlt | hge
  · exfalso
    have hl := isOrd_length h
    have hk := isOrd_length k
    rw [rotL_length] at hk
    have hgt := List.pairwise_iff_getElem.1 k.1 p m (by omega) hm hlt
    have e1 : M[m] = 0 := by rw [← em, List.getD_eq_getElem?_getD, List.getElem?_eq_getElem hm]; rfl
    have e2 := congrArg (fun l => l[p]?) (rows_turn hi h k)
    simp only [List.getElem?_map] at e2
    rw [List.getElem?_eq_getElem (by omega), List.getElem?_eq_getElem hp, Option.map_some, Option.map_some] at e2
    have e2 := Option.some.inj e2
    have e3 : L[p] = i := by rw [← ep, List.getD_eq_getElem?_getD, List.getElem?_eq_getElem hp]; rfl
    rw [e1] at hgt
    rw [e3] at e2
    rcases hgt with h1 | ⟨_, h1⟩
    · rw [e2, rotL_zero] at h1
      exact List.lt_irrefl _ h1
    · omega
  · exact hge

end Go.Proofs.Ytglcideecelemaa
