/- Trees in two lists: weights, and the number of the tree that each is in (0: none): plain. -/
import Derived.Test.YthpfmkknebnppaaHa
namespace Go.Proofs.Ythpfmkknebnppaa

/-- From a tree up: d times the tree that it is in. -/
inductive Up (ov : Nat → Nat) : Nat → Nat → Nat → Prop
  | here (i : Nat) : Up ov i i 0
  | next {i j d : Nat} (h : Up ov i j d) (h0 : ov j ≠ 0) : Up ov i (ov j) (d + 1)
theorem Up.keep {ov ov2 : Nat → Nat} {i j d : Nat} (h : Up ov i j d) (hk : ∀ x, ov x ≠ 0 → ov2 x = ov x) : Up ov2 i j d := by
  induction h with
  | here => exact .here _
  | next h h0 ih =>
    rename_i j0 d0
    have := hk j0 h0
    rw [← this]
    exact .next ih (by rw [this]; exact h0)
theorem Up.of_eq {ov : Nat → Nat} {i j p d : Nat} (h : Up ov i j d) (hp : ov j = p) (h0 : p ≠ 0) : Up ov i p (d + 1) := by
  subst hp
  exact .next h h0
/-- The way up is one: whoever is d times up. -/
theorem Up.one {ov : Nat → Nat} {i j d : Nat} (h : Up ov i j d) : ∀ {j2 : Nat}, Up ov i j2 d → j = j2 := by
  induction h with
  | here =>
    intro j2 k
    cases k
    rfl
  | next h h0 ih =>
    intro j2 k
    cases k with
    | next k k0 => rw [ih k]
/-- Two roots above one tree are one, equally far up. -/
theorem Up.root {ov : Nat → Nat} {i j d : Nat} (h : Up ov i j d) (hj : ov j = 0) : ∀ {j2 d2 : Nat}, Up ov i j2 d2 → d2 ≤ d := by
  intro j2 d2 k
  induction k with
  | here => exact Nat.zero_le _
  | next k k0 ih =>
    rename_i j3 d3
    rcases Nat.lt_or_ge d3 d with h1 | h1
    · exact h1
    · exfalso
      have e : d3 = d := by omega
      subst e
      rw [h.one k] at hj
      exact k0 hj
theorem Up.ends {ov : Nat → Nat} {i j d j2 d2 : Nat} (h : Up ov i j d) (hj : ov j = 0) (k : Up ov i j2 d2) (hj2 : ov j2 = 0) : d = d2 :=
  Nat.le_antisymm (k.root hj2 h) (h.root hj k)

/-- n leaves; k trees, of weights ws, each in the tree ov; those that are in none: act; so far the lengths len. -/
structure Grown (n : Nat) (w : List Nat) (k : Nat) (ws ov : Nat → Nat) (act : List Tr) (len : Nat → Nat) : Prop where
  ge : n ≤ k
  pos : 0 < n
  nodup : (act.map Tr.n).Nodup
  root : ∀ t ∈ act, t.n < k ∧ ov t.n = 0 ∧ t.w = ws t.n ∧ ∀ i ∈ t.ms, Up ov i t.n (len i)
  all : ∀ j, j < k → ov j = 0 → ∃ t ∈ act, t.n = j
  par : ∀ j, ov j ≠ 0 → j < ov j ∧ ov j < k
  ms : (act.flatMap Tr.ms).Perm (List.range n)
  count : act.length + k = 2 * n
  run : ∀ L, HRun act k len L → HLen w L
  sum : wsum act = w.sum

theorem grown_start (w : List Nat) (h : 0 < w.length) : Grown w.length w w.length (fun j => w.getD j 0) (fun _ => 0) (leaves w) (fun _ => 0) where
  ge := Nat.le_refl _
  pos := h
  nodup := by
    unfold leaves
    rw [List.map_map]
    have : (Tr.n ∘ fun i => (⟨w.getD i 0, i, [i]⟩ : Tr)) = id := rfl
    rw [this, List.map_id]
    exact List.nodup_range
  root := by
    intro t ht
    obtain ⟨i, hi, rfl⟩ := List.mem_map.1 ht
    refine ⟨List.mem_range.1 hi, rfl, rfl, fun j hj => ?_⟩
    have : j = i := List.mem_singleton.1 hj
    subst this
    exact .here _
  all := by
    intro j hj _
    exact ⟨⟨w.getD j 0, j, [j]⟩, List.mem_map.2 ⟨j, List.mem_range.2 hj, rfl⟩, rfl⟩
  par := fun j h0 => absurd rfl h0
  ms := by rw [leaves_ms]
  count := by
    unfold leaves
    rw [List.length_map, List.length_range]
    omega
  run := fun L h => h
  sum := by
    unfold wsum
    rw [leaves_w]

/-- The tree that stands first among those that are in none. -/
def Least (k : Nat) (ws ov : Nat → Nat) (a : Nat) : Prop := a < k ∧ ov a = 0 ∧ ∀ j, j < k → ov j = 0 → j ≠ a → ws a < ws j ∨ (ws a = ws j ∧ a < j)

/-- Two trees are joined. -/
theorem grown_next {n k : Nat} {w : List Nat} {ws ov ov1 ov2 : Nat → Nat} {act : List Tr} {len : Nat → Nat} (h : Grown n w k ws ov act len) {a b : Nat}
    (ha : Least k ws ov a) (h1 : ov1 = fun j => if j = a then k else ov j) (hb : Least k ws ov1 b) (h2 : ov2 = fun j => if j = b then k else if j = a then k else ov j) :
    ∃ act2 len2, Grown n w (k + 1) (fun j => if j = k then ws a + ws b else ws j) ov2 act2 len2 := by
  have hk : k ≠ 0 := by have := h.pos; have := h.ge; omega
  obtain ⟨ta, hta, hna⟩ := h.all a ha.1 ha.2.1
  have hba : b ≠ a := by
    intro e
    have := hb.2.1
    rw [h1] at this
    simp [e] at this
    exact hk this
  have hob : ov b = 0 := by
    have := hb.2.1
    rw [h1] at this
    simpa [hba] using this
  obtain ⟨tb, htb, hnb⟩ := h.all b hb.1 hob
  have hok : ov k = 0 := by
    by_cases e : ov k = 0
    · exact e
    · have := h.par k e
      omega
  have split : ∀ {l : List Tr} {x : Tr}, x ∈ l → ∃ r, l.Perm (x :: r) := by
    intro l x hx
    obtain ⟨s, u, rfl⟩ := List.append_of_mem hx
    exact ⟨s ++ u, List.perm_middle⟩
  obtain ⟨r1, hr1⟩ := split hta
  have htb1 : tb ∈ r1 := by
    rcases List.mem_cons.1 (hr1.mem_iff.1 htb) with e | e
    · exfalso
      rw [e, hna] at hnb
      exact hba hnb.symm
    · exact e
  obtain ⟨r, hr⟩ := split htb1
  have hp : act.Perm (ta :: tb :: r) := hr1.trans (hr.cons ta)
  have hnd := (hp.map Tr.n).nodup_iff.1 h.nodup
  rw [List.map_cons, List.map_cons, List.nodup_cons, List.nodup_cons] at hnd
  obtain ⟨hnd1, hnd2, hnd3⟩ := hnd
  have hra : ∀ t ∈ r, t ∈ act ∧ t.n ≠ a ∧ t.n ≠ b := by
    intro t ht
    refine ⟨hp.mem_iff.2 (List.mem_cons_of_mem _ (List.mem_cons_of_mem _ ht)), fun e => ?_, fun e => ?_⟩
    · exact hnd1 (by rw [hna, ← e]; exact List.mem_cons_of_mem _ (List.mem_map_of_mem ht))
    · exact hnd2 (by rw [hnb, ← e]; exact List.mem_map_of_mem ht)
  have hta2 := h.root ta hta
  have htb2 := h.root tb htb
  rw [hna] at hta2
  rw [hnb] at htb2
  have hA : ∀ t ∈ tb :: r, Ahead ta t := by
    intro t ht
    have h3 : t ∈ act ∧ t.n ≠ a := by
      rcases List.mem_cons.1 ht with rfl | ht
      · exact ⟨htb, by rw [hnb]; exact hba⟩
      · exact ⟨(hra t ht).1, (hra t ht).2.1⟩
    have h4 := h.root t h3.1
    have h5 := ha.2.2 t.n h4.1 h4.2.1 h3.2
    unfold Ahead
    rw [hta2.2.2.1, h4.2.2.1, hna]
    exact h5
  have hB : ∀ t ∈ r, Ahead tb t := by
    intro t ht
    have h3 := hra t ht
    have h4 := h.root t h3.1
    have h5 := hb.2.2 t.n h4.1 (by rw [h1]; simp [h3.2.1, h4.2.1]) h3.2.2
    unfold Ahead
    rw [htb2.2.2.1, h4.2.2.1, hnb]
    exact h5
  have hov2 : ∀ x, ov x ≠ 0 → ov2 x = ov x := by
    intro x hx
    have e1 : x ≠ a := fun e => hx (by rw [e]; exact ha.2.1)
    have e2 : x ≠ b := fun e => hx (by rw [e]; exact hob)
    rw [h2]
    simp [e1, e2]
  have hms := hp.flatMap_right Tr.ms
  have hnodup : ((ta :: tb :: r).flatMap Tr.ms).Nodup := hms.nodup_iff.1 (h.ms.nodup_iff.2 List.nodup_range)
  rw [List.flatMap_cons, List.flatMap_cons, ← List.append_assoc, List.nodup_append] at hnodup
  refine ⟨joined ta tb k :: r, more (ta.ms ++ tb.ms) len, ?_⟩
  constructor
  case ge => have := h.ge; omega
  case pos => exact h.pos
  case nodup =>
    rw [List.map_cons, List.nodup_cons]
    refine ⟨fun hk2 => ?_, hnd3⟩
    obtain ⟨t, ht, e⟩ := List.mem_map.1 hk2
    have h4 := (h.root t (hra t ht).1).1
    rw [e] at h4
    exact absurd h4 (Nat.lt_irrefl _)
  case root =>
    intro t ht
    rcases List.mem_cons.1 ht with rfl | ht
    · refine ⟨Nat.lt_succ_self k, ?_, ?_, ?_⟩
      · show ov2 k = 0
        have e1 : k ≠ a := fun e => by have := ha.1; omega
        have e2 : k ≠ b := fun e => by have := hb.1; omega
        rw [h2]
        simp [e1, e2, hok]
      · show ta.w + tb.w = if k = k then ws a + ws b else ws k
        rw [if_pos rfl, hta2.2.2.1, htb2.2.2.1]
      · intro i hi
        have hi2 : i ∈ ta.ms ++ tb.ms := hi
        show Up ov2 i k (more (ta.ms ++ tb.ms) len i)
        unfold more
        rw [if_pos hi2]
        rcases List.mem_append.1 hi2 with hi | hi
        · exact ((hta2.2.2.2 i hi).keep hov2).of_eq (by rw [h2]; simp [hba.symm]) hk
        · exact ((htb2.2.2.2 i hi).keep hov2).of_eq (by rw [h2]; simp) hk
    · have h3 := hra t ht
      have h4 := h.root t h3.1
      refine ⟨by omega, ?_, ?_, ?_⟩
      · rw [h2]
        simp [h3.2.1, h3.2.2, h4.2.1]
      · show t.w = if t.n = k then ws a + ws b else ws t.n
        rw [if_neg (by omega)]
        exact h4.2.2.1
      · intro i hi
        have hni : i ∉ ta.ms ++ tb.ms := fun hm => hnodup.2.2 i hm i (List.mem_flatMap.2 ⟨t, ht, hi⟩) rfl
        unfold more
        rw [if_neg hni]
        exact (h4.2.2.2 i hi).keep hov2
  case all =>
    intro j hj h0
    by_cases e : j = k
    · exact ⟨_, List.mem_cons_self, e.symm⟩
    · have hja : j ≠ a := fun e2 => hk (by rw [h2, e2] at h0; simpa [hba.symm] using h0)
      have hjb : j ≠ b := fun e2 => hk (by rw [h2, e2] at h0; simpa using h0)
      have h0' : ov j = 0 := by
        rw [h2] at h0
        simpa [hja, hjb] using h0
      obtain ⟨t, ht, e3⟩ := h.all j (by omega) h0'
      rcases List.mem_cons.1 (hp.mem_iff.1 ht) with e4 | e4
      · exfalso
        rw [e4, hna] at e3
        exact hja e3.symm
      · rcases List.mem_cons.1 e4 with e5 | e5
        · exfalso
          rw [e5, hnb] at e3
          exact hjb e3.symm
        · exact ⟨t, List.mem_cons_of_mem _ e5, e3⟩
  case par =>
    intro j h0
    by_cases hja : j = a
    · have : ov2 j = k := by rw [h2, hja]; simp [hba.symm]
      rw [this, hja]
      exact ⟨ha.1, Nat.lt_succ_self k⟩
    · by_cases hjb : j = b
      · have : ov2 j = k := by rw [h2, hjb]; simp
        rw [this, hjb]
        exact ⟨hb.1, Nat.lt_succ_self k⟩
      · have : ov2 j = ov j := by rw [h2]; simp [hja, hjb]
        rw [this] at h0 ⊢
        have := h.par j h0
        omega
  case ms =>
    rw [List.flatMap_cons]
    have h3 := hms.symm.trans h.ms
    rw [List.flatMap_cons, List.flatMap_cons, ← List.append_assoc] at h3
    exact h3
  case count =>
    have h3 := hp.length_eq
    have h4 := h.count
    rw [List.length_cons, List.length_cons] at h3
    rw [List.length_cons]
    omega
  case run =>
    intro L hL
    exact h.run L (.step hp hA hB hL)
  case sum =>
    have h3 := wsum_perm hp
    rw [h.sum] at h3
    rw [h3]
    unfold wsum
    rw [List.map_cons, List.map_cons, List.map_cons, List.sum_cons, List.sum_cons, List.sum_cons]
    show ta.w + tb.w + _ = _
    omega

/-- When every tree but one is in one, the way up tells the lengths. -/
theorem grown_end {n k : Nat} {w : List Nat} {ws ov : Nat → Nat} {act : List Tr} {len : Nat → Nat} (h : Grown n w k ws ov act len) (hk : k + 1 = 2 * n) :
    HLen w len ∧ ∀ i, i < n → ∃ r, Up ov i r (len i) ∧ ov r = 0 := by
  have hc := h.count
  match act, hc, h with
  | [], hc, h =>
    simp at hc
    omega
  | [t], _, h =>
    refine ⟨h.run len (.one t k len), fun i hi => ?_⟩
    have hm : i ∈ [t].flatMap Tr.ms := h.ms.mem_iff.2 (List.mem_range.2 hi)
    have hi2 : i ∈ t.ms := by simpa using hm
    have h4 := h.root t List.mem_cons_self
    exact ⟨t.n, h4.2.2.2 i hi2, h4.2.1⟩
  | t :: u :: r, hc, h =>
    simp at hc
    omega
/-- There are two trees still that are in none. -/
theorem grown_two {n k : Nat} {w : List Nat} {ws ov : Nat → Nat} {act : List Tr} {len : Nat → Nat} (h : Grown n w k ws ov act len) (hk : k + 1 < 2 * n) :
    ∃ a b, a < k ∧ b < k ∧ a ≠ b ∧ ov a = 0 ∧ ov b = 0 := by
  have hc := h.count
  match act, hc, h with
  | [], hc, h =>
    simp at hc
    omega
  | [t], hc, h =>
    simp at hc
    omega
  | t :: u :: r, hc, h =>
    have h1 := h.root t List.mem_cons_self
    have h2 := h.root u (List.mem_cons_of_mem _ List.mem_cons_self)
    have hnd := h.nodup
    rw [List.map_cons, List.nodup_cons] at hnd
    refine ⟨t.n, u.n, h1.1, h2.1, fun e => hnd.1 ?_, h1.2.1, h2.2.1⟩
    rw [e]
    exact List.mem_cons_self

/-- Two trees that are in none weigh no more than all. -/
theorem grown_weigh {n k : Nat} {w : List Nat} {ws ov : Nat → Nat} {act : List Tr} {len : Nat → Nat} (h : Grown n w k ws ov act len) {a b : Nat} (ha : a < k) (hb : b < k) (hab : a ≠ b) (ha0 : ov a = 0) (hb0 : ov b = 0) : ws a + ws b ≤ w.sum := by
  obtain ⟨ta, hta, hna⟩ := h.all a ha ha0
  obtain ⟨tb, htb, hnb⟩ := h.all b hb hb0
  obtain ⟨s, u, hsu⟩ := List.append_of_mem hta
  have hp : act.Perm (ta :: (s ++ u)) := by rw [hsu]; exact List.perm_middle
  have htb1 : tb ∈ s ++ u := by
    rcases List.mem_cons.1 (hp.mem_iff.1 htb) with e | e
    · exfalso
      rw [e, hna] at hnb
      exact hab hnb
    · exact e
  obtain ⟨s2, u2, hsu2⟩ := List.append_of_mem htb1
  have hp2 : (s ++ u).Perm (tb :: (s2 ++ u2)) := by rw [hsu2]; exact List.perm_middle
  have h3 := wsum_perm (hp.trans (hp2.cons ta))
  rw [h.sum] at h3
  rw [h3]
  unfold wsum
  rw [List.map_cons, List.map_cons, List.sum_cons, List.sum_cons, (h.root ta hta).2.2.1, (h.root tb htb).2.2.1, hna, hnb]
  omega

end Go.Proofs.Ythpfmkknebnppaa
