/- Numbers that are put in order class by class, plain: a group is parted, a class is given its place. No conditions. -/
import Derived.Test.YtglcideecelemaaKa
namespace Go.Proofs.Ytglcideecelemaa

/-- The numbers O p stand in the order of their classes q, then of themselves. The classes 'done' have their place M; those in the places from a up to b and the classes 'rest' have not. -/
structure Sta (n : Nat) (q O M : Nat → Nat) (done : List (Nat × Nat)) (a b : Nat) (rest : List (Nat × Nat)) : Prop where
  low : ∀ p, p < n → O p < n
  all : ∀ i, i < n → ∃ p, p < n ∧ O p = i
  sorted : ∀ p r, p < r → r < n → q (O p) < q (O r) ∨ (q (O p) = q (O r) ∧ O p < O r)
  grp : ∀ g, (g ∈ done ∨ g ∈ rest) → g.1 < g.2 ∧ g.2 ≤ n ∧ ∀ p r, g.1 ≤ p → p < g.2 → r < n → (q (O p) = q (O r) ↔ g.1 ≤ r ∧ r < g.2)
  made : ∀ g, g ∈ done → ∀ p, g.1 ≤ p → p < g.2 → M (O p) = g.1
  ones : ∀ p, p < n → (p < a ∨ b ≤ p) → (∀ g, (g ∈ done ∨ g ∈ rest) → p < g.1 ∨ g.2 ≤ p) → M (O p) = p ∧ ∀ r, r < n → q (O p) = q (O r) → r = p
  apart : (done ++ (a, b) :: rest).Pairwise (fun g h => g.2 ≤ h.1)
  ab : a ≤ b ∧ b ≤ n
  edge : ∀ p r, a ≤ p → p < b → r < n → q (O p) = q (O r) → a ≤ r ∧ r < b

section
variable {n : Nat} {q O M : Nat → Nat} {done rest : List (Nat × Nat)} {a b : Nat}
theorem Sta.le (h : Sta n q O M done a b rest) {p r : Nat} (hp : p ≤ r) (hr : r < n) : q (O p) ≤ q (O r) := by
  rcases Nat.lt_or_ge p r with h1 | h1
  · rcases h.sorted p r h1 hr with h2 | ⟨h2, _⟩ <;> omega
  · have e : p = r := by omega
    rw [e]
    exact Nat.le_refl _
theorem Sta.inj (h : Sta n q O M done a b rest) {p r : Nat} (hp : p < n) (hr : r < n) (e : O p = O r) : p = r := by
  rcases Nat.lt_trichotomy p r with h1 | h1 | h1
  · rcases h.sorted p r h1 hr with h2 | ⟨_, h2⟩ <;> rw [e] at h2 <;> omega
  · exact h1
  · rcases h.sorted r p h1 hp with h2 | ⟨_, h2⟩ <;> rw [e] at h2 <;> omega
theorem Sta.left (h : Sta n q O M done a b rest) : ∀ g ∈ done, g.2 ≤ a := fun g hg => (List.pairwise_append.1 h.apart).2.2 g hg (a, b) List.mem_cons_self
theorem Sta.right (h : Sta n q O M done a b rest) : ∀ g ∈ rest, b ≤ g.1 := fun g hg => (List.pairwise_cons.1 (List.pairwise_append.1 h.apart).2.1).1 g hg
theorem Sta.across (h : Sta n q O M done a b rest) : ∀ g ∈ done, ∀ k ∈ rest, g.2 ≤ k.1 := fun g hg k hk => (List.pairwise_append.1 h.apart).2.2 g hg k (List.mem_cons_of_mem _ hk)

/-- The numbers from a on, up to c, are one class: it is given its place. -/
theorem Sta.give (h : Sta n q O M done a b rest) (c : Nat) (hac : a < c) (hcb : c ≤ b) (heq : ∀ p, a ≤ p → p < c → q (O p) = q (O a)) (hne : c < b → q (O c) ≠ q (O a))
    (M' : Nat → Nat) (hM1 : ∀ p, a ≤ p → p < c → M' (O p) = a) (hM2 : ∀ p, p < n → (p < a ∨ c ≤ p) → M' (O p) = M (O p)) :
    Sta n q O M' (if 1 < c - a then done ++ [(a, c)] else done) c b rest := by
  have hbn := h.ab.2
  have hmem : ∀ g, g ∈ (if 1 < c - a then done ++ [(a, c)] else done) → g ∈ done ∨ g = (a, c) := by
    intro g hg
    split at hg
    · rcases List.mem_append.1 hg with h1 | h1
      · exact .inl h1
      · exact .inr (List.mem_singleton.1 h1)
    · exact .inl hg
  have hcls : ∀ r, r < n → q (O a) = q (O r) → a ≤ r ∧ r < c := by
    intro r hr e
    obtain ⟨h1, h2⟩ := h.edge a r (Nat.le_refl _) (by omega) hr e
    refine ⟨h1, ?_⟩
    rcases Nat.lt_or_ge r c with h3 | h3
    · exact h3
    · have h4 := h.le (p := a) (r := c) (by omega) (by omega)
      have h5 := h.le h3 hr
      exact absurd (by omega) (hne (by omega))
  refine ⟨h.low, h.all, h.sorted, ?_, ?_, ?_, ?_, ⟨hcb, hbn⟩, ?_⟩
  · rintro g (hg | hg)
    · rcases hmem g hg with h1 | rfl
      · exact h.grp g (.inl h1)
      · refine ⟨hac, by show c ≤ n; omega, fun p r hp1 hp2 hr => ?_⟩
        simp only at hp1 hp2 ⊢
        rw [heq p hp1 hp2]
        constructor
        · exact hcls r hr
        · intro ⟨h1, h2⟩
          exact (heq r h1 h2).symm
    · exact h.grp g (.inr hg)
  · intro g hg p hp1 hp2
    rcases hmem g hg with h1 | rfl
    · have h2 := h.left g h1
      have h3 := (h.grp g (.inl h1)).2.1
      rw [hM2 p (by omega) (.inl (by omega))]
      exact h.made g h1 p hp1 hp2
    · exact hM1 p hp1 hp2
  · intro p hp hout hg
    by_cases hin : a ≤ p ∧ p < c
    · have hc1 : ¬ 1 < c - a := by
        intro h1
        have := hg (a, c) (.inl (by rw [if_pos h1]; simp))
        simp only at this
        omega
      have : p = a := by omega
      subst this
      refine ⟨hM1 p (Nat.le_refl _) hac, fun r hr e => ?_⟩
      have := hcls r hr e
      omega
    · rw [hM2 p hp (by omega)]
      refine h.ones p hp (by omega) fun g hg2 => ?_
      rcases hg2 with h1 | h1
      · refine hg g (.inl ?_)
        split
        · exact List.mem_append_left _ h1
        · exact h1
      · exact hg g (.inr h1)
  · have h1 := List.pairwise_append.1 h.apart
    have h2 := List.pairwise_cons.1 h1.2.1
    split
    · rw [List.append_assoc]
      refine List.pairwise_append.2 ⟨h1.1, ?_, ?_⟩
      · refine List.pairwise_cons.2 ⟨?_, ?_⟩
        · intro g hg
          rcases List.mem_cons.1 hg with rfl | h3
          · exact Nat.le_refl _
          · have := h2.1 g h3
            simp only at this ⊢
            omega
        · exact List.pairwise_cons.2 ⟨fun g hg => h2.1 g hg, h2.2⟩
      · intro g hg k hk
        have h4 := h1.2.2 g hg (a, b) List.mem_cons_self
        rcases List.mem_append.1 hk with h3 | h3
        · rw [List.mem_singleton.1 h3]
          exact h4
        · rcases List.mem_cons.1 h3 with rfl | h5
          · simp only at h4 ⊢
            omega
          · exact h1.2.2 g hg k (List.mem_cons_of_mem _ h5)
    · refine List.pairwise_append.2 ⟨h1.1, List.pairwise_cons.2 ⟨fun g hg => h2.1 g hg, h2.2⟩, ?_⟩
      intro g hg k hk
      have h4 := h1.2.2 g hg (a, b) List.mem_cons_self
      rcases List.mem_cons.1 hk with rfl | h5
      · simp only at h4 ⊢
        omega
      · exact h1.2.2 g hg k (List.mem_cons_of_mem _ h5)
  · intro p r hp1 hp2 hr e
    obtain ⟨h1, h2⟩ := h.edge p r (by omega) hp2 hr e
    refine ⟨?_, h2⟩
    rcases Nat.lt_or_ge r c with h3 | h3
    · have h4 := h.le (p := r) (r := c) (by omega) (by omega)
      have h5 := h.le (p := c) (r := p) hp1 (by omega)
      have h6 := heq r h1 h3
      exact absurd (by omega) (hne (by omega))
    · exact h3

/-- A group is parted by a key: the numbers in it are put in the key's order. -/
theorem Sta.parted {x f t : Nat} (h : Sta n q O M done x x ((f, t) :: rest)) (key q' O' : Nat → Nat)
    (hq1 : ∀ i j, q' i < q' j ↔ q i < q j ∨ (q i = q j ∧ q i = q (O f) ∧ key i < key j)) (hq2 : ∀ i j, q' i = q' j ↔ q i = q j ∧ (q i = q (O f) → key i = key j))
    (hO1 : ∀ p, (p < f ∨ t ≤ p) → O' p = O p) (hO2 : ∀ p, f ≤ p → p < t → ∃ r, f ≤ r ∧ r < t ∧ O' p = O r) (hO3 : ∀ p, f ≤ p → p < t → ∃ r, f ≤ r ∧ r < t ∧ O' r = O p)
    (hS : ∀ p r, f ≤ p → p < r → r < t → key (O' p) < key (O' r) ∨ (key (O' p) = key (O' r) ∧ O' p < O' r)) :
    Sta n q' O' M done f t rest := by
  obtain ⟨hft, htn, hcls⟩ := h.grp (f, t) (.inr List.mem_cons_self)
  simp only at hft htn hcls
  have hq : ∀ p, p < n → q (O' p) = q (O p) := by
    intro p hp
    by_cases hin : f ≤ p ∧ p < t
    · obtain ⟨r, hr1, hr2, e⟩ := hO2 p hin.1 hin.2
      rw [e]
      exact (hcls r p hr1 hr2 hp).2 hin
    · rw [hO1 p (by omega)]
  have hin : ∀ p, p < n → (q (O' p) = q (O f) ↔ f ≤ p ∧ p < t) := by
    intro p hp
    rw [hq p hp]
    have := hcls f p (Nat.le_refl _) hft hp
    rw [← this]
    exact eq_comm
  have hxr := h.right
  have hxl := h.left
  refine ⟨?_, ?_, ?_, ?_, ?_, ?_, ?_, ⟨by omega, htn⟩, ?_⟩
  · intro p hp
    by_cases hi : f ≤ p ∧ p < t
    · obtain ⟨r, hr1, hr2, e⟩ := hO2 p hi.1 hi.2
      rw [e]
      exact h.low r (by omega)
    · rw [hO1 p (by omega)]
      exact h.low p hp
  · intro i hi
    obtain ⟨p, hp, rfl⟩ := h.all i hi
    by_cases hi : f ≤ p ∧ p < t
    · obtain ⟨r, hr1, hr2, e⟩ := hO3 p hi.1 hi.2
      exact ⟨r, by omega, e⟩
    · exact ⟨p, hp, hO1 p (by omega)⟩
  · intro p r hpr hr
    have hqp := hq p (by omega)
    have hqr := hq r hr
    have h1 := h.le (p := p) (r := r) (by omega) hr
    by_cases h2 : q (O p) < q (O r)
    · exact .inl ((hq1 _ _).2 (.inl (by omega)))
    · have h3 : q (O' p) = q (O' r) := by omega
      by_cases h4 : q (O' p) = q (O f)
      · have ip := (hin p (by omega)).1 h4
        have ir := (hin r hr).1 (by omega)
        rcases hS p r ip.1 hpr ir.2 with h5 | ⟨h5, h6⟩
        · exact .inl ((hq1 _ _).2 (.inr ⟨h3, h4, h5⟩))
        · exact .inr ⟨(hq2 _ _).2 ⟨h3, fun _ => h5⟩, h6⟩
      · have ip : ¬ (f ≤ p ∧ p < t) := fun h5 => h4 ((hin p (by omega)).2 h5)
        have ir : ¬ (f ≤ r ∧ r < t) := fun h5 => h4 (by rw [h3]; exact (hin r hr).2 h5)
        refine .inr ⟨(hq2 _ _).2 ⟨h3, fun h5 => absurd h5 h4⟩, ?_⟩
        rw [hO1 p (by omega), hO1 r (by omega)]
        rcases h.sorted p r hpr hr with h5 | ⟨_, h5⟩
        · omega
        · exact h5
  · intro g hg
    have hg' : g ∈ done ∨ g ∈ (f, t) :: rest := hg.imp id (List.mem_cons_of_mem _)
    have hap : g.2 ≤ f ∨ t ≤ g.1 := by
      rcases hg with h1 | h1
      · exact .inl (h.across g h1 (f, t) List.mem_cons_self)
      · have h2 := List.pairwise_append.1 h.apart
        have h3 := List.pairwise_cons.1 (List.pairwise_cons.1 h2.2.1).2
        exact .inr (h3.1 g h1)
    obtain ⟨g1, g2, g3⟩ := h.grp g hg'
    refine ⟨g1, g2, fun p r hp1 hp2 hr => ?_⟩
    have h1 : ¬ (f ≤ p ∧ p < t) := by omega
    have h2 : q (O' p) ≠ q (O f) := fun e => h1 ((hin p (by omega)).1 e)
    rw [hq2, hq p (by omega), hq r hr, ← g3 p r hp1 hp2 hr]
    constructor
    · exact fun e => e.1
    · intro e
      refine ⟨e, fun e2 => absurd ?_ h2⟩
      rw [hq p (by omega)]
      exact e2
  · intro g hg p hp1 hp2
    have h1 : g.2 ≤ f := h.across g hg (f, t) List.mem_cons_self
    rw [hO1 p (by omega)]
    exact h.made g hg p hp1 hp2
  · intro p hp hout hg
    have h1 : ¬ (f ≤ p ∧ p < t) := by omega
    have h2 : q (O' p) ≠ q (O f) := fun e => h1 ((hin p (by omega)).1 e)
    have h3 := h.ones p hp (by omega) fun g hg2 => by
      rcases hg2 with h4 | h4
      · exact hg g (.inl h4)
      · rcases List.mem_cons.1 h4 with rfl | h5
        · exact hout
        · exact hg g (.inr h5)
    rw [hO1 p (by omega)]
    refine ⟨h3.1, fun r hr e => ?_⟩
    have h4 := ((hq2 _ _).1 e).1
    rw [hq r hr] at h4
    exact h3.2 r hr h4
  · have h1 := List.pairwise_append.1 h.apart
    refine List.pairwise_append.2 ⟨h1.1, (List.pairwise_cons.1 h1.2.1).2, fun g hg k hk => h1.2.2 g hg k (List.mem_cons_of_mem _ hk)⟩
  · intro p r hp1 hp2 hr e
    have h4 := ((hq2 _ _).1 e).1
    have h5 := (hin p (by omega)).2 ⟨hp1, hp2⟩
    exact (hin r hr).1 (by omega)

/-- When all classes have their places, these rank the numbers as the classes do. -/
theorem Sta.rank {x : Nat} (h : Sta n q O M done x x []) : ∀ i j, i < n → j < n → ((M i < M j ↔ q i < q j) ∧ (M i = M j ↔ q i = q j)) := by
  have key : ∀ p r, p < n → r < n → (q (O p) < q (O r) → M (O p) < M (O r)) ∧ (q (O p) = q (O r) → M (O p) = M (O r)) := by
    have st : ∀ p, p < n → M (O p) ≤ p ∧ q (O (M (O p))) = q (O p) ∧ ∀ r, r < n → q (O p) = q (O r) → M (O r) = M (O p) := by
      intro p hp
      by_cases hg : ∃ g, g ∈ done ∧ g.1 ≤ p ∧ p < g.2
      · obtain ⟨g, hg1, hg2, hg3⟩ := hg
        obtain ⟨g1, g2, g3⟩ := h.grp g (.inl hg1)
        have hm := h.made g hg1 p hg2 hg3
        rw [hm]
        refine ⟨hg2, ?_, fun r hr e => ?_⟩
        · exact (g3 g.1 p (Nat.le_refl _) g1 hp).2 ⟨hg2, hg3⟩
        · have := (g3 p r hg2 hg3 hr).1 e
          exact h.made g hg1 r this.1 this.2
      · have h1 := h.ones p hp (by omega) fun g hg2 => by
          rcases hg2 with h4 | h4
          · have : ¬ (g.1 ≤ p ∧ p < g.2) := fun h5 => hg ⟨g, h4, h5⟩
            omega
          · exact absurd h4 List.not_mem_nil
        rw [h1.1]
        refine ⟨Nat.le_refl _, rfl, fun r hr e => ?_⟩
        rw [h1.2 r hr e]
        exact h1.1
    intro p r hp hr
    obtain ⟨p1, p2, p3⟩ := st p hp
    obtain ⟨r1, r2, r3⟩ := st r hr
    refine ⟨fun hlt => ?_, fun e => (p3 r hr e).symm⟩
    rcases Nat.lt_or_ge (M (O p)) (M (O r)) with h1 | h1
    · exact h1
    · have := h.le h1 (by omega)
      omega
  intro i j hi hj
  obtain ⟨p, hp, rfl⟩ := h.all i hi
  obtain ⟨r, hr, rfl⟩ := h.all j hj
  have h1 := key p r hp hr
  have h2 := key r p hr hp
  constructor
  · constructor
    · intro hlt
      rcases Nat.lt_trichotomy (q (O p)) (q (O r)) with h3 | h3 | h3
      · exact h3
      · have := h1.2 h3; omega
      · have := h2.1 h3; omega
    · exact h1.1
  · constructor
    · intro e
      rcases Nat.lt_trichotomy (q (O p)) (q (O r)) with h3 | h3 | h3
      · have := h1.1 h3; omega
      · exact h3
      · have := h2.1 h3; omega
    · exact h1.2
/-- .. and they are where the next round begins. -/
theorem Sta.again {x : Nat} (h : Sta n q O M done x x []) : Sta n M O M [] 0 0 done := by
  have hr := h.rank
  have hl := h.low
  refine ⟨hl, h.all, ?_, ?_, ?_, ?_, ?_, ⟨Nat.le_refl _, Nat.zero_le _⟩, ?_⟩
  · intro p r hpr hn
    have h1 := hr (O p) (O r) (hl p (by omega)) (hl r hn)
    rw [h1.1, h1.2]
    exact h.sorted p r hpr hn
  · rintro g (hg | hg)
    · exact absurd hg List.not_mem_nil
    · obtain ⟨g1, g2, g3⟩ := h.grp g (.inl hg)
      refine ⟨g1, g2, fun p r hp1 hp2 hn => ?_⟩
      rw [(hr (O p) (O r) (hl p (by omega)) (hl r hn)).2]
      exact g3 p r hp1 hp2 hn
  · intro g hg
    exact absurd hg List.not_mem_nil
  · intro p hp _ hg
    have h1 := h.ones p hp (by omega) fun g hg2 => by
      rcases hg2 with h4 | h4
      · exact hg g (.inr h4)
      · exact absurd h4 List.not_mem_nil
    refine ⟨h1.1, fun r hn e => h1.2 r hn ?_⟩
    exact ((hr (O p) (O r) (hl p hp) (hl r hn)).2).1 e
  · have h1 := List.pairwise_append.1 h.apart
    refine List.pairwise_cons.2 ⟨fun g _ => Nat.zero_le _, h1.1⟩
  · intro p r h1 h2
    omega

/-- The classes of a round, half way: they part those of its beginning by the key, where they were gone through. -/
structure Rnd (n : Nat) (q0 key q O : Nat → Nat) (rest : List (Nat × Nat)) : Prop where
  coarse : ∀ i j, q0 i < q0 j → q i < q j
  same : ∀ i j, q0 i = q0 j → key i = key j → q i = q j
  le : ∀ i j, q0 i = q0 j → key i < key j → q i ≤ q j
  fine : ∀ p r, p < n → r < n → (∀ g, g ∈ rest → p < g.1 ∨ g.2 ≤ p) → q (O p) = q (O r) → key (O p) = key (O r)
theorem rnd_start (h : Sta n q O M [] 0 0 rest) (key : Nat → Nat) : Rnd n q key q O rest := by
  refine ⟨fun i j h => h, fun i j h _ => h, fun i j h _ => Nat.le_of_eq h, fun p r hp hr hg e => ?_⟩
  have h1 := h.ones p hp (by omega) fun g hg2 => by
    rcases hg2 with h4 | h4
    · exact absurd h4 List.not_mem_nil
    · exact hg g h4
  rw [h1.2 r hr e]
theorem Rnd.parted {x f t : Nat} {q0 key : Nat → Nat} (k : Rnd n q0 key q O ((f, t) :: rest)) (h : Sta n q O M done x x ((f, t) :: rest)) (q' O' : Nat → Nat)
    (hq1 : ∀ i j, q' i < q' j ↔ q i < q j ∨ (q i = q j ∧ q i = q (O f) ∧ key i < key j)) (hq2 : ∀ i j, q' i = q' j ↔ q i = q j ∧ (q i = q (O f) → key i = key j))
    (hO1 : ∀ p, (p < f ∨ t ≤ p) → O' p = O p) (hO2 : ∀ p, f ≤ p → p < t → ∃ r, f ≤ r ∧ r < t ∧ O' p = O r) : Rnd n q0 key q' O' rest := by
  obtain ⟨hft, htn, hcls⟩ := h.grp (f, t) (.inr List.mem_cons_self)
  simp only at hft htn hcls
  refine ⟨fun i j h => (hq1 i j).2 (.inl (k.coarse i j h)), fun i j h1 h2 => (hq2 i j).2 ⟨k.same i j h1 h2, fun _ => h2⟩, fun i j h1 h2 => ?_, fun p r hp hr hg e => ?_⟩
  · have h3 := k.le i j h1 h2
    rcases Nat.lt_or_ge (q i) (q j) with h4 | h4
    · exact Nat.le_of_lt ((hq1 i j).2 (.inl h4))
    · have h5 : q i = q j := by omega
      by_cases h6 : q i = q (O f)
      · exact Nat.le_of_lt ((hq1 i j).2 (.inr ⟨h5, h6, h2⟩))
      · exact Nat.le_of_eq ((hq2 i j).2 ⟨h5, fun h7 => absurd h7 h6⟩)
  · obtain ⟨e1, e2⟩ := (hq2 _ _).1 e
    by_cases hi : f ≤ p ∧ p < t
    · obtain ⟨s, hs1, hs2, e3⟩ := hO2 p hi.1 hi.2
      refine e2 ?_
      rw [e3]
      exact (hcls s f hs1 hs2 (by omega)).2 ⟨Nat.le_refl _, hft⟩
    · have hpo := hO1 p (by omega)
      have hir : ¬ (f ≤ r ∧ r < t) := by
        intro hir
        obtain ⟨s, hs1, hs2, e3⟩ := hO2 r hir.1 hir.2
        rw [hpo, e3] at e1
        exact hi ((hcls s p hs1 hs2 hp).1 e1.symm)
      have hro := hO1 r (by omega)
      rw [hpo, hro] at e1 ⊢
      refine k.fine p r hp hr (fun g hg2 => ?_) e1
      rcases List.mem_cons.1 hg2 with rfl | h5
      · show p < f ∨ t ≤ p
        omega
      · exact hg g h5
theorem Rnd.finer {x : Nat} {q0 key : Nat → Nat} (k : Rnd n q0 key q O []) (h : Sta n q O M done x x []) : Finer n q0 key M := by
  intro i j hi hj
  have hr := h.rank i j hi hj
  obtain ⟨p, hp, rfl⟩ := h.all i hi
  obtain ⟨r, hrn, rfl⟩ := h.all j hj
  have f1 := k.fine p r hp hrn (fun g hg => absurd hg List.not_mem_nil)
  have c1 := k.coarse (O p) (O r)
  have c2 := k.coarse (O r) (O p)
  have s1 := k.same (O p) (O r)
  have l1 := k.le (O p) (O r)
  have l2 := k.le (O r) (O p)
  rw [hr.1, hr.2]
  generalize O p = i at *
  generalize O r = j at *
  constructor
  · constructor
    · intro h1
      rcases Nat.lt_trichotomy (q0 i) (q0 j) with h2 | h2 | h2
      · exact .inl h2
      · rcases Nat.lt_trichotomy (key i) (key j) with h3 | h3 | h3
        · exact .inr ⟨h2, h3⟩
        · have := s1 h2 h3; omega
        · have := l2 h2.symm h3; omega
      · have := c2 h2; omega
    · rintro (h1 | ⟨h1, h2⟩)
      · exact c1 h1
      · have h3 := l1 h1 h2
        rcases Nat.lt_or_ge (q i) (q j) with h4 | h4
        · exact h4
        · have := f1 (by omega); omega
  · constructor
    · intro h1
      refine ⟨?_, f1 h1⟩
      rcases Nat.lt_trichotomy (q0 i) (q0 j) with h2 | h2 | h2
      · have := c1 h2; omega
      · exact h2
      · have := c2 h2; omega
    · rintro ⟨h1, h2⟩
      exact s1 h1 h2
end

/-- Classes of numbers, parted by a key in one of them. -/
theorem parted_exists (q key : Nat → Nat) (c B : Nat) (hB : ∀ i, key i < B) : ∃ q' : Nat → Nat, (∀ i j, q' i < q' j ↔ q i < q j ∨ (q i = q j ∧ q i = c ∧ key i < key j)) ∧ (∀ i j, q' i = q' j ↔ q i = q j ∧ (q i = c → key i = key j)) := by
  have lt : ∀ x y k l : Nat, k < B → x < y → x * B + k < y * B + l := by
    intro x y k l hk h
    have : (x + 1) * B ≤ y * B := Nat.mul_le_mul_right B h
    rw [Nat.add_mul, Nat.one_mul] at this
    omega
  have hk : ∀ i, (if q i = c then key i else 0) < B := by
    intro i
    split
    · exact hB i
    · have := hB 0; omega
  refine ⟨fun i => q i * B + (if q i = c then key i else 0), fun i j => ?_, fun i j => ?_⟩
  · show q i * B + (if q i = c then key i else 0) < q j * B + (if q j = c then key j else 0) ↔ _
    rcases Nat.lt_trichotomy (q i) (q j) with h | h | h
    · exact ⟨fun _ => .inl h, fun _ => lt _ _ _ _ (hk i) h⟩
    · rw [h]
      by_cases hc : q j = c
      · rw [if_pos hc, if_pos hc]
        constructor
        · intro h1
          exact .inr ⟨rfl, hc, by omega⟩
        · rintro (h1 | ⟨_, _, h1⟩) <;> omega
      · rw [if_neg hc, if_neg hc]
        constructor
        · intro h1; omega
        · rintro (h1 | ⟨_, h1, _⟩)
          · omega
          · exact absurd h1 hc
    · have := lt (q j) (q i) (if q j = c then key j else 0) (if q i = c then key i else 0) (hk j) h
      constructor
      · intro h1; omega
      · rintro (h1 | ⟨h1, _⟩) <;> omega
  · show q i * B + (if q i = c then key i else 0) = q j * B + (if q j = c then key j else 0) ↔ _
    rcases Nat.lt_trichotomy (q i) (q j) with h | h | h
    · have := lt (q i) (q j) (if q i = c then key i else 0) (if q j = c then key j else 0) (hk i) h
      constructor
      · intro h1; omega
      · rintro ⟨h1, _⟩; omega
    · rw [h]
      by_cases hc : q j = c
      · rw [if_pos hc, if_pos hc]
        constructor
        · intro h1
          exact ⟨rfl, fun _ => by omega⟩
        · rintro ⟨_, h1⟩
          have := h1 hc
          omega
      · rw [if_neg hc, if_neg hc]
        exact ⟨fun _ => ⟨rfl, fun h1 => absurd h1 hc⟩, fun _ => rfl⟩
    · have := lt (q j) (q i) (if q j = c then key j else 0) (if q i = c then key i else 0) (hk j) h
      constructor
      · intro h1; omega
      · rintro ⟨h1, _⟩; omega

/-- Where a round that knows nothing begins: all numbers are one class. -/
theorem sta_first (n : Nat) (M : Nat → Nat) (h : 0 < n) : Sta n (fun _ => 0) (fun p => p) M [] 0 0 [(0, n)] := by
  refine ⟨fun p hp => hp, fun i hi => ⟨i, hi, rfl⟩, fun p r h1 h2 => .inr ⟨rfl, h1⟩, ?_, fun g hg => absurd hg List.not_mem_nil, ?_, ?_, ⟨Nat.le_refl _, Nat.zero_le _⟩, fun p r h1 h2 => by omega⟩
  · rintro g (hg | hg)
    · exact absurd hg List.not_mem_nil
    · rw [List.mem_singleton.1 hg]
      exact ⟨h, Nat.le_refl _, fun p r h1 h2 h3 => ⟨fun _ => ⟨Nat.zero_le _, h3⟩, fun _ => rfl⟩⟩
  · intro p hp _ hg
    have := hg (0, n) (.inr List.mem_cons_self)
    simp only at this
    omega
  · simp

/-- No more groups than numbers. -/
theorem groups_le (n : Nat) : ∀ (gs : List (Nat × Nat)) (lo : Nat), lo ≤ n → (∀ g ∈ gs, lo ≤ g.1 ∧ g.1 < g.2 ∧ g.2 ≤ n) → gs.Pairwise (fun g h => g.2 ≤ h.1) → gs.length ≤ n - lo
  | [], lo, _, _, _ => Nat.zero_le _
  | g :: gs, lo, hlo, h, hp => by
    obtain ⟨h1, h2, h3⟩ := h g List.mem_cons_self
    have hp' := List.pairwise_cons.1 hp
    have := groups_le n gs g.2 h3 (fun k hk => ⟨hp'.1 k hk, (h k (List.mem_cons_of_mem _ hk)).2⟩) hp'.2
    rw [List.length_cons]
    omega
theorem Sta.few {n : Nat} {q O M : Nat → Nat} {done rest : List (Nat × Nat)} {a b : Nat} (h : Sta n q O M done a b rest) : done.length ≤ n ∧ rest.length ≤ n := by
  have h1 := List.pairwise_append.1 h.apart
  have h2 := List.pairwise_cons.1 h1.2.1
  have := groups_le n done 0 (Nat.zero_le _) (fun g hg => ⟨Nat.zero_le _, (h.grp g (.inl hg)).1, (h.grp g (.inl hg)).2.1⟩) h1.1
  have := groups_le n rest 0 (Nat.zero_le _) (fun g hg => ⟨Nat.zero_le _, (h.grp g (.inr hg)).1, (h.grp g (.inr hg)).2.1⟩) h2.2
  omega

/-- Where no group is left, or as many bytes are known as there are, the order is the text's. -/
theorem sta_ord (s : List UInt8) (L : List Nat) (M : Nat → Nat) (gs : List (Nat × Nat)) (t : Nat) (hl : L.length = s.length) (h : Sta s.length M (fun p => L.getD p 0) M [] 0 0 gs) (hs : Sem s t M) (he : gs = [] ∨ s.length ≤ t) : IsOrd s L := by
  have hgd : ∀ p, (hp : p < L.length) → L.getD p 0 = L[p] := fun p hp => by rw [List.getD_eq_getElem?_getD, List.getElem?_eq_getElem hp]; rfl
  constructor
  · refine List.pairwise_iff_getElem.2 fun p r hp hr hpr => ?_
    rw [← hgd p hp, ← hgd r hr]
    have hlp := h.low p (by omega)
    have hlr := h.low r (by omega)
    have hse := hs _ _ hlp hlr
    rcases h.sorted p r hpr (by omega) with h1 | ⟨h1, h2⟩
    · exact .inl (pre_lt_rot s t _ _ (by omega) (by omega) (hse.1.1 h1))
    · rcases he with rfl | he
      · have := (h.ones p (by omega) (by omega) (fun g hg => by rcases hg with h4 | h4 <;> exact absurd h4 List.not_mem_nil)).2 r (by omega) h1
        omega
      · exact .inr ⟨pre_eq_rot s t _ _ he (by omega) (by omega) (hse.2.1 h1), h2⟩
  · intro i
    constructor
    · intro hi
      obtain ⟨p, hp, rfl⟩ := List.getElem_of_mem hi
      have := h.low p (by omega)
      simp only [hgd p hp] at this
      exact this
    · intro hi
      obtain ⟨p, hp, e⟩ := h.all i hi
      have hp' : p < L.length := by omega
      rw [← e]
      show L.getD p 0 ∈ L
      rw [hgd p hp']
      exact List.getElem_mem hp'

end Go.Proofs.Ytglcideecelemaa
