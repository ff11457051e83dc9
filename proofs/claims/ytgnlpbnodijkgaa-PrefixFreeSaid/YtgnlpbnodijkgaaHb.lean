/- Lengths of codes by weights: plain: trees joined two by two (one way alone; lengths leave no room; below 610 none above 12; none cost less), halved weights, flat lengths. Written ahead of stage 8. -/
import Derived.Test.YtgnlpbnodijkgaaS
namespace Go.Proofs.Ytgnlpbnodijkgaa

/-- A tree: its weight, its number, its symbols. -/
structure Tr where
  w : Nat
  n : Nat
  ms : List Nat
/-- It stands ahead: by the weight, then by the number. -/
def Ahead (s t : Tr) : Prop := s.w < t.w ∨ (s.w = t.w ∧ s.n < t.n)
theorem Ahead.asymm {s t : Tr} (h : Ahead s t) (k : Ahead t s) : False := by
  unfold Ahead at h k
  omega
theorem Ahead.le {s t : Tr} (h : Ahead s t) : s.w ≤ t.w := by
  unfold Ahead at h
  omega
/-- One more for each symbol of a list. -/
def more (ms : List Nat) (len : Nat → Nat) : Nat → Nat := fun i => if i ∈ ms then len i + 1 else len i
def joined (a b : Tr) (k : Nat) : Tr := ⟨a.w + b.w, k, a.ms ++ b.ms⟩
/-- From trees and lengths so far, k the next number, to the lengths when one tree is left. -/
inductive HRun : List Tr → Nat → (Nat → Nat) → (Nat → Nat) → Prop
  | one (t : Tr) (k : Nat) (len : Nat → Nat) : HRun [t] k len len
  | step {act : List Tr} {a b : Tr} {r : List Tr} {k : Nat} {len L : Nat → Nat} (hp : act.Perm (a :: b :: r)) (ha : ∀ t ∈ b :: r, Ahead a t) (hb : ∀ t ∈ r, Ahead b t)
      (h : HRun (joined a b k :: r) (k + 1) (more (a.ms ++ b.ms) len) L) : HRun act k len L

/-- It is one, whichever way it is gone. -/
theorem hrun_one {act : List Tr} {k : Nat} {len L : Nat → Nat} (h : HRun act k len L) : ∀ {act2 : List Tr} {L2 : Nat → Nat}, act.Perm act2 → HRun act2 k len L2 → L = L2 := by
  induction h with
  | one t k len =>
    intro act2 L2 hp h2
    have := List.singleton_perm.1 hp
    subst this
    cases h2 with
    | one => rfl
    | step hp2 _ _ _ =>
      have := hp2.length_eq
      simp at this
  | @step act a b r k len L hp ha hb h ih =>
    intro act2 L2 hp2 h2
    cases h2 with
    | one t =>
      have := (hp.symm.trans hp2).length_eq
      simp at this
    | @step _ a2 b2 r2 _ _ _ hp3 ha2 hb2 h3 =>
      have hq : (a :: b :: r).Perm (a2 :: b2 :: r2) := (hp.symm.trans hp2).trans hp3
      have haa : a = a2 := by
        have h1 : a ∈ a2 :: b2 :: r2 := hq.mem_iff.1 List.mem_cons_self
        have h2 : a2 ∈ a :: b :: r := hq.mem_iff.2 List.mem_cons_self
        rcases List.mem_cons.1 h1 with e | e
        · exact e
        · rcases List.mem_cons.1 h2 with e2 | e2
          · exact e2.symm
          · exact absurd (ha a2 e2) (fun h => h.asymm (ha2 a e))
      subst haa
      have hq2 := (List.perm_cons a).1 hq
      have hbb : b = b2 := by
        have h1 : b ∈ b2 :: r2 := hq2.mem_iff.1 List.mem_cons_self
        have h2 : b2 ∈ b :: r := hq2.mem_iff.2 List.mem_cons_self
        rcases List.mem_cons.1 h1 with e | e
        · exact e
        · rcases List.mem_cons.1 h2 with e2 | e2
          · exact e2.symm
          · exact absurd (hb b2 e2) (fun h => h.asymm (hb2 b e))
      subst hbb
      have hq3 := (List.perm_cons b).1 hq2
      exact ih ((List.perm_cons _).2 hq3) h3

/-- What all symbols have in common. -/
def Apart (act : List Tr) : Prop := (act.flatMap Tr.ms).Nodup
theorem apart_perm {act act2 : List Tr} (h : act.Perm act2) (k : Apart act) : Apart act2 := (h.flatMap_right Tr.ms).nodup_iff.1 k
theorem apart_joined {a b : Tr} {r : List Tr} {k : Nat} (h : Apart (a :: b :: r)) : Apart (joined a b k :: r) := by
  unfold Apart at *
  simp only [List.flatMap_cons, joined, ← List.append_assoc] at *
  exact h
theorem apart_not {a b t : Tr} {r : List Tr} (h : Apart (a :: b :: r)) (ht : t ∈ r) {i : Nat} (hi : i ∈ t.ms) : i ∉ a.ms ++ b.ms := by
  unfold Apart at h
  simp only [List.flatMap_cons, ← List.append_assoc] at h
  have h2 := (List.nodup_append.1 h).2.2
  intro hc
  exact h2 i hc i (List.mem_flatMap.2 ⟨t, ht, hi⟩) rfl

/-- What lengths take, of 2^M. -/
def kraft (M : Nat) (ms : List Nat) (len : Nat → Nat) : Nat := (ms.map fun i => 2 ^ (M - len i)).sum
def Whole (len : Nat → Nat) (t : Tr) : Prop := t.ms ≠ [] ∧ ∀ M, (∀ i ∈ t.ms, len i ≤ M) → kraft M t.ms len = 2 ^ M
theorem kraft_same (M : Nat) (ms : List Nat) (len len2 : Nat → Nat) (h : ∀ i ∈ ms, len i = len2 i) : kraft M ms len = kraft M ms len2 := by
  unfold kraft
  congr 1
  exact List.map_congr_left fun i hi => by rw [h i hi]
theorem kraft_more (M : Nat) (ms : List Nat) (len : Nat → Nat) : kraft (M + 1) ms (fun i => len i + 1) = kraft M ms len := by
  unfold kraft
  congr 1
  exact List.map_congr_left fun i _ => by rw [Nat.add_sub_add_right]
theorem kraft_append (M : Nat) (a b : List Nat) (len : Nat → Nat) : kraft M (a ++ b) len = kraft M a len + kraft M b len := by
  unfold kraft
  rw [List.map_append, List.sum_append_nat]
theorem whole_joined {a b : Tr} {k : Nat} {len : Nat → Nat} (ha : Whole len a) (hb : Whole len b) : Whole (more (a.ms ++ b.ms) len) (joined a b k) := by
  refine ⟨fun h => ha.1 (List.append_eq_nil_iff.1 h).1, fun M hM => ?_⟩
  have hM2 : ∀ i ∈ a.ms ++ b.ms, len i + 1 ≤ M := fun i hi => by
    have := hM i hi
    unfold more at this
    rwa [if_pos hi] at this
  obtain ⟨x, hx⟩ := List.exists_mem_of_ne_nil _ ha.1
  obtain ⟨N, rfl⟩ : ∃ N, M = N + 1 := ⟨M - 1, by have := hM2 x (List.mem_append_left _ hx); omega⟩
  show kraft (N + 1) (a.ms ++ b.ms) _ = _
  rw [kraft_same (N + 1) (a.ms ++ b.ms) (more (a.ms ++ b.ms) len) (fun i => len i + 1) (fun i hi => by unfold more; rw [if_pos hi]), kraft_more, kraft_append,
    ha.2 N (fun i hi => by have := hM2 i (List.mem_append_left _ hi); omega), hb.2 N (fun i hi => by have := hM2 i (List.mem_append_right _ hi); omega), Nat.pow_succ]
  omega
theorem whole_other {a b t : Tr} {r : List Tr} {len : Nat → Nat} (h : Apart (a :: b :: r)) (ht : t ∈ r) (hw : Whole len t) : Whole (more (a.ms ++ b.ms) len) t := by
  have he : ∀ i ∈ t.ms, more (a.ms ++ b.ms) len i = len i := fun i hi => by
    unfold more
    rw [if_neg (apart_not h ht hi)]
  refine ⟨hw.1, fun M hM => ?_⟩
  rw [kraft_same M t.ms _ len he]
  exact hw.2 M fun i hi => by rw [← he i hi]; exact hM i hi
/-- Lengths that are made leave no room. -/
theorem hrun_whole {act : List Tr} {k : Nat} {len L : Nat → Nat} (h : HRun act k len L) : Apart act → (∀ t ∈ act, Whole len t) → ∀ M, (∀ i ∈ act.flatMap Tr.ms, L i ≤ M) → kraft M (act.flatMap Tr.ms) L = 2 ^ M := by
  induction h with
  | one t k len =>
    intro _ hw M hM
    have e : [t].flatMap Tr.ms = t.ms := by simp
    rw [e] at hM ⊢
    exact (hw t List.mem_cons_self).2 M hM
  | @step act a b r k len L hp ha hb h ih =>
    intro hap hw M hM
    have hpm : (act.flatMap Tr.ms).Perm ((joined a b k :: r).flatMap Tr.ms) := by
      refine (hp.flatMap_right Tr.ms).trans ?_
      simp only [List.flatMap_cons, joined, List.append_assoc]
      exact List.Perm.refl _
    have hap2 := apart_perm hp hap
    have hk : kraft M (act.flatMap Tr.ms) L = kraft M ((joined a b k :: r).flatMap Tr.ms) L := (hpm.map _).sum_nat
    rw [hk]
    refine ih (apart_joined hap2) ?_ M fun i hi => hM i (hpm.mem_iff.2 hi)
    intro t ht
    rcases List.mem_cons.1 ht with rfl | ht
    · exact whole_joined (hw a (hp.mem_iff.2 List.mem_cons_self)) (hw b (hp.mem_iff.2 (List.mem_cons_of_mem _ List.mem_cons_self)))
    · exact whole_other hap2 ht (hw t (hp.mem_iff.2 (List.mem_cons_of_mem _ (List.mem_cons_of_mem _ ht))))

/-- Fibonacci's numbers. -/
def fib : Nat → Nat
  | 0 => 0
  | 1 => 1
  | n + 2 => fib n + fib (n + 1)
def wsum (act : List Tr) : Nat := (act.map Tr.w).sum
theorem wsum_perm {act act2 : List Tr} (h : act.Perm act2) : wsum act = wsum act2 := (h.map _).sum_nat
structure Grow (act : List Tr) (len : Nat → Nat) (m : Nat) : Prop where
  own : ∀ t ∈ act, ∀ i ∈ t.ms, fib (len i + 2) ≤ t.w
  top : ∀ t ∈ act, ∀ i ∈ t.ms, 1 ≤ len i → fib (len i + 1) ≤ m
  low : ∀ t ∈ act, m ≤ t.w ∧ 1 ≤ t.w
/-- A tree that is high is heavy. -/
theorem hrun_fib {act : List Tr} {k : Nat} {len L : Nat → Nat} (h : HRun act k len L) : Apart act → ∀ m, Grow act len m → ∀ i ∈ act.flatMap Tr.ms, fib (L i + 2) ≤ wsum act := by
  induction h with
  | one t k len =>
    intro _ m hg i hi
    have e : [t].flatMap Tr.ms = t.ms := by simp
    rw [e] at hi
    have e2 : wsum [t] = t.w := by simp [wsum]
    rw [e2]
    exact hg.own t List.mem_cons_self i hi
  | @step act a b r k len L hp ha hb h ih =>
    intro hap m hg i hi
    have hap2 := apart_perm hp hap
    have hma : a ∈ act := hp.mem_iff.2 List.mem_cons_self
    have hmb : b ∈ act := hp.mem_iff.2 (List.mem_cons_of_mem _ List.mem_cons_self)
    have hmr : ∀ t ∈ r, t ∈ act := fun t ht => hp.mem_iff.2 (List.mem_cons_of_mem _ (List.mem_cons_of_mem _ ht))
    have hab := (ha b List.mem_cons_self).le
    have hpm : (act.flatMap Tr.ms).Perm ((joined a b k :: r).flatMap Tr.ms) := by
      refine (hp.flatMap_right Tr.ms).trans ?_
      simp only [List.flatMap_cons, joined, List.append_assoc]
      exact List.Perm.refl _
    have hws : wsum act = wsum (joined a b k :: r) := by
      rw [wsum_perm hp]
      simp only [wsum, List.map_cons, List.sum_cons, joined]
      omega
    rw [hws]
    refine ih (apart_joined hap2) b.w ⟨?_, ?_, ?_⟩ i (hpm.mem_iff.1 hi)
    · intro t ht j hj
      rcases List.mem_cons.1 ht with rfl | ht
      · have hj2 : j ∈ a.ms ++ b.ms := hj
        have e : more (a.ms ++ b.ms) len j = len j + 1 := by unfold more; rw [if_pos hj2]
        rw [e]
        show fib (len j + 1) + fib (len j + 2) ≤ a.w + b.w
        rcases List.mem_append.1 hj2 with hj3 | hj3
        · have h1 := hg.own a hma j hj3
          have h2 : fib (len j + 1) ≤ b.w := by
            rcases Nat.eq_zero_or_pos (len j) with h0 | h0
            · rw [h0]
              exact (hg.low b hmb).2
            · exact Nat.le_trans (hg.top a hma j hj3 h0) (hg.low b hmb).1
          omega
        · have h1 := hg.own b hmb j hj3
          have h2 : fib (len j + 1) ≤ a.w := by
            rcases Nat.eq_zero_or_pos (len j) with h0 | h0
            · rw [h0]
              exact (hg.low a hma).2
            · exact Nat.le_trans (hg.top b hmb j hj3 h0) (hg.low a hma).1
          omega
      · have e : more (a.ms ++ b.ms) len j = len j := by unfold more; rw [if_neg (apart_not hap2 ht hj)]
        rw [e]
        exact hg.own t (hmr t ht) j hj
    · intro t ht j hj h1
      rcases List.mem_cons.1 ht with rfl | ht
      · have hj2 : j ∈ a.ms ++ b.ms := hj
        have e : more (a.ms ++ b.ms) len j = len j + 1 := by unfold more; rw [if_pos hj2]
        rw [e]
        rcases List.mem_append.1 hj2 with hj3 | hj3
        · exact Nat.le_trans (hg.own a hma j hj3) hab
        · exact hg.own b hmb j hj3
      · have e : more (a.ms ++ b.ms) len j = len j := by unfold more; rw [if_neg (apart_not hap2 ht hj)]
        rw [e] at h1 ⊢
        exact Nat.le_trans (hg.top t (hmr t ht) j hj h1) (hg.low b hmb).1
    · intro t ht
      rcases List.mem_cons.1 ht with rfl | ht
      · show b.w ≤ a.w + b.w ∧ 1 ≤ a.w + b.w
        have := (hg.low b hmb).2
        omega
      · exact ⟨(hb t ht).le, (hg.low t (hmr t ht)).2⟩

/-- What weights (first) times lengths (second) cost; what the lengths take, of 2^M. -/
def co (ps : List (Nat × Nat)) : Nat := (ps.map fun p => p.1 * p.2).sum
def kr (M : Nat) (ps : List (Nat × Nat)) : Nat := (ps.map fun p => 2 ^ (M - p.2)).sum
theorem co_cons (p : Nat × Nat) (ps : List (Nat × Nat)) : co (p :: ps) = p.1 * p.2 + co ps := rfl
theorem kr_cons (M : Nat) (p : Nat × Nat) (ps : List (Nat × Nat)) : kr M (p :: ps) = 2 ^ (M - p.2) + kr M ps := rfl
theorem co_perm {ps qs : List (Nat × Nat)} (h : ps.Perm qs) : co ps = co qs := (h.map _).sum_nat
theorem kr_perm (M : Nat) {ps qs : List (Nat × Nat)} (h : ps.Perm qs) : kr M ps = kr M qs := (h.map _).sum_nat
theorem swap_cost (wa wp la lp : Nat) (hw : wa ≤ wp) (hl : la ≤ lp) : wa * lp + wp * la ≤ wa * la + wp * lp := by
  obtain ⟨d, rfl⟩ := Nat.exists_eq_add_of_le hw
  obtain ⟨e, rfl⟩ := Nat.exists_eq_add_of_le hl
  simp only [Nat.mul_add, Nat.add_mul]
  have : 0 ≤ d * e := Nat.zero_le _
  omega
/-- The least weight may have the greatest length. -/
theorem to_top (M wa : Nat) : ∀ (r : List (Nat × Nat)) (la : Nat), la ≤ M → (∀ p ∈ r, wa ≤ p.1 ∧ p.2 ≤ M) →
    ∃ (la2 : Nat) (r2 : List (Nat × Nat)), la2 ∈ la :: r.map Prod.snd ∧ la2 ≤ M ∧ r2.map Prod.fst = r.map Prod.fst ∧ (∀ p ∈ r2, p.2 ≤ la2) ∧ kr M ((wa, la2) :: r2) = kr M ((wa, la) :: r) ∧ co ((wa, la2) :: r2) ≤ co ((wa, la) :: r)
  | [], la, h, _ => ⟨la, [], List.mem_cons_self, h, rfl, fun p hp => absurd hp List.not_mem_nil, rfl, Nat.le_refl _⟩
  | p :: r, la, h, hr => by
    obtain ⟨l1, r1, h0, h1, h2, h3, h4, h5⟩ := to_top M wa r la h (fun q hq => hr q (List.mem_cons_of_mem _ hq))
    simp only [kr_cons, co_cons] at h4 h5 ⊢
    by_cases e : p.2 ≤ l1
    · refine ⟨l1, p :: r1, ?_, h1, by rw [List.map_cons, List.map_cons, h2], fun q hq => ?_, ?_, ?_⟩
      · rcases List.mem_cons.1 h0 with e0 | e0
        · rw [e0]; exact List.mem_cons_self
        · exact List.mem_cons_of_mem _ (List.mem_cons_of_mem _ e0)
      · rcases List.mem_cons.1 hq with rfl | hq
        · exact e
        · exact h3 q hq
      · simp only [kr_cons]
        omega
      · simp only [co_cons]
        omega
    · have hp := hr p List.mem_cons_self
      refine ⟨p.2, (p.1, l1) :: r1, List.mem_cons_of_mem _ List.mem_cons_self, hp.2, by rw [List.map_cons, List.map_cons, h2], fun q hq => ?_, ?_, ?_⟩
      · rcases List.mem_cons.1 hq with rfl | hq
        · show l1 ≤ p.2
          omega
        · have := h3 q hq
          omega
      · simp only [kr_cons]
        omega
      · simp only [co_cons]
        have := swap_cost wa p.1 l1 p.2 hp.1 (by omega)
        omega
theorem kr_dvd (M l : Nat) (hl : l ≤ M) : ∀ ps : List (Nat × Nat), (∀ p ∈ ps, p.2 ≤ l) → ∃ c, kr M ps = c * 2 ^ (M - l)
  | [], _ => ⟨0, by simp [kr]⟩
  | p :: ps, h => by
    obtain ⟨c, hc⟩ := kr_dvd M l hl ps (fun q hq => h q (List.mem_cons_of_mem _ hq))
    have hp := h p List.mem_cons_self
    refine ⟨2 ^ (l - p.2) + c, ?_⟩
    rw [kr_cons, hc, Nat.add_mul, ← Nat.pow_add, show l - p.2 + (M - l) = M - p.2 by omega]
/-- One that is longest alone may be as short as the next. -/
theorem cut_top (M la lb wa wb : Nat) (r : List (Nat × Nat)) (hla : la ≤ M) (hba : lb ≤ la) (hr : ∀ p ∈ r, p.2 ≤ lb) (hk : kr M ((wa, la) :: (wb, lb) :: r) ≤ 2 ^ M) : kr M ((wa, lb) :: (wb, lb) :: r) ≤ 2 ^ M := by
  by_cases e : la = lb
  · subst e
    exact hk
  · obtain ⟨c, hc⟩ := kr_dvd M lb (by omega) ((wb, lb) :: r) (fun p hp => by
      rcases List.mem_cons.1 hp with rfl | hp
      · exact Nat.le_refl _
      · exact hr p hp)
    rw [kr_cons] at hk ⊢
    rw [hc] at hk ⊢
    have hpos : 0 < 2 ^ (M - la) := Nat.pow_pos (by omega)
    have h2 : (2 : Nat) ^ M = 2 ^ lb * 2 ^ (M - lb) := by rw [← Nat.pow_add, show lb + (M - lb) = M by omega]
    show 2 ^ (M - lb) + c * 2 ^ (M - lb) ≤ _
    rw [h2] at hk ⊢
    have h3 : c < 2 ^ lb := by
      apply Nat.lt_of_mul_lt_mul_right (a := 2 ^ (M - lb))
      show c * 2 ^ (M - lb) < _
      have hk' : 2 ^ (M - la) + c * 2 ^ (M - lb) ≤ 2 ^ lb * 2 ^ (M - lb) := hk
      omega
    have h4 : (c + 1) * 2 ^ (M - lb) ≤ 2 ^ lb * 2 ^ (M - lb) := Nat.mul_le_mul_right _ h3
    rw [Nat.add_mul, Nat.one_mul] at h4
    omega
/-- Lengths of the trees before a joining give lengths behind it that cost less by both weights. -/
theorem join_lengths (M wa wb la lb : Nat) (r : List (Nat × Nat)) (hab : wa ≤ wb) (hbr : ∀ p ∈ r, wb ≤ p.1) (hla : la ≤ M) (hlb : lb ≤ M) (hr : ∀ p ∈ r, p.2 ≤ M) (hk : kr M ((wa, la) :: (wb, lb) :: r) ≤ 2 ^ M) :
    ∃ (l : Nat) (r2 : List (Nat × Nat)), l ≤ M ∧ r2.map Prod.fst = r.map Prod.fst ∧ (∀ p ∈ r2, p.2 ≤ M) ∧ kr M ((wa + wb, l) :: r2) ≤ 2 ^ M ∧ co ((wa + wb, l) :: r2) + (wa + wb) ≤ co ((wa, la) :: (wb, lb) :: r) := by
  obtain ⟨la2, s, _, h1, h2, h3, h4, h5⟩ := to_top M wa ((wb, lb) :: r) la hla (fun p hp => by
    rcases List.mem_cons.1 hp with rfl | hp
    · exact ⟨hab, hlb⟩
    · exact ⟨Nat.le_trans hab (hbr p hp), hr p hp⟩)
  obtain ⟨q, s2, rfl⟩ : ∃ q s2, s = q :: s2 := by
    cases s with
    | nil => simp at h2
    | cons q s2 => exact ⟨q, s2, rfl⟩
  simp only [List.map_cons, List.cons.injEq] at h2
  obtain ⟨hq1, hs2⟩ := h2
  have hq : q = (wb, q.2) := by rw [← hq1]
  have hq2 := h3 q List.mem_cons_self
  have hws : ∀ p ∈ s2, wb ≤ p.1 := by
    intro p hp
    have : p.1 ∈ r.map Prod.fst := by rw [← hs2]; exact List.mem_map.2 ⟨p, hp, rfl⟩
    obtain ⟨p2, hp2, e⟩ := List.mem_map.1 this
    rw [← e]
    exact hbr p2 hp2
  obtain ⟨lb2, r2, g0, g1, g2, g3, g4, g5⟩ := to_top M wb s2 q.2 (by omega) (fun p hp => ⟨hws p hp, by have := h3 p (List.mem_cons_of_mem _ hp); omega⟩)
  rw [hq] at h4 h5
  -- the second one is not above the first
  have hb2 : lb2 ≤ la2 := by
    rcases List.mem_cons.1 g0 with e | e
    · rw [e]
      exact hq2
    · obtain ⟨p, hp, e⟩ := List.mem_map.1 e
      rw [← e]
      exact h3 p (List.mem_cons_of_mem _ hp)
  have hk2 : kr M ((wa, la2) :: (wb, lb2) :: r2) ≤ 2 ^ M := by
    have e : kr M ((wa, la2) :: (wb, lb2) :: r2) = kr M ((wa, la2) :: (wb, q.2) :: s2) := by
      rw [kr_cons M (wa, la2) ((wb, lb2) :: r2), g4, ← kr_cons M (wa, la2)]
    rw [e, h4]
    exact hk
  have hk3 := cut_top M la2 lb2 wa wb r2 h1 hb2 g3 hk2
  have hl1 : 1 ≤ lb2 := by
    rcases Nat.eq_zero_or_pos lb2 with e | e
    · exfalso
      subst e
      simp only [kr_cons, Nat.sub_zero] at hk3
      have : 0 < 2 ^ M := Nat.pow_pos (by omega)
      omega
    · exact e
  refine ⟨lb2 - 1, r2, by omega, g2.trans hs2, fun p hp => by have := g3 p hp; omega, ?_, ?_⟩
  · rw [kr_cons] at hk3 ⊢
    rw [kr_cons] at hk3
    have e : (2 : Nat) ^ (M - (lb2 - 1)) = 2 ^ (M - lb2) + 2 ^ (M - lb2) := by
      rw [show M - (lb2 - 1) = (M - lb2) + 1 by omega, Nat.pow_succ]
      omega
    show 2 ^ (M - (lb2 - 1)) + kr M r2 ≤ 2 ^ M
    rw [e]
    simp only at hk3
    omega
  · simp only [co_cons] at h5 g5 ⊢
    have e : (wa + wb) * (lb2 - 1) + (wa + wb) = (wa + wb) * lb2 := by
      rw [← Nat.mul_succ, Nat.succ_eq_add_one, show lb2 - 1 + 1 = lb2 by omega]
    have e2 : (wa + wb) * lb2 = wa * lb2 + wb * lb2 := Nat.add_mul _ _ _
    have e3 : wa * lb2 ≤ wa * la2 := Nat.mul_le_mul_left _ hb2
    omega

def cs (wt : Nat → Nat) (ms : List Nat) (len : Nat → Nat) : Nat := (ms.map fun i => wt i * len i).sum
theorem cs_append (wt : Nat → Nat) (a b : List Nat) (len : Nat → Nat) : cs wt (a ++ b) len = cs wt a len + cs wt b len := by
  unfold cs
  rw [List.map_append, List.sum_append_nat]
theorem cs_perm (wt : Nat → Nat) {a b : List Nat} (h : a.Perm b) (len : Nat → Nat) : cs wt a len = cs wt b len := (h.map _).sum_nat
theorem cs_same (wt : Nat → Nat) (ms : List Nat) (len len2 : Nat → Nat) (h : ∀ i ∈ ms, len i = len2 i) : cs wt ms len = cs wt ms len2 := by
  unfold cs
  congr 1
  exact List.map_congr_left fun i hi => by rw [h i hi]
theorem cs_one (wt : Nat → Nat) (len : Nat → Nat) : ∀ ms : List Nat, cs wt ms (fun i => len i + 1) = cs wt ms len + (ms.map wt).sum
  | [] => rfl
  | i :: ms => by
    have := cs_one wt len ms
    unfold cs at this ⊢
    simp only [List.map_cons, List.sum_cons, Nat.mul_add, Nat.mul_one] at this ⊢
    omega
theorem pick {x : Nat} {ys : List Nat} : ∀ {ps : List (Nat × Nat)}, (ps.map Prod.fst).Perm (x :: ys) → ∃ l ps2, ps.Perm ((x, l) :: ps2) ∧ (ps2.map Prod.fst).Perm ys := by
  intro ps h
  have hx : x ∈ ps.map Prod.fst := h.mem_iff.2 List.mem_cons_self
  obtain ⟨p, hp, rfl⟩ := List.mem_map.1 hx
  have h1 := List.perm_cons_erase hp
  refine ⟨p.2, ps.erase p, h1, ?_⟩
  have h2 := (h1.map Prod.fst).symm.trans h
  exact (List.perm_cons _).1 h2
/-- What is made costs no more than any lengths that may be. -/
theorem hrun_best (M : Nat) (wt : Nat → Nat) {act : List Tr} {k : Nat} {len L : Nat → Nat} (h : HRun act k len L) : Apart act → (∀ t ∈ act, t.w = (t.ms.map wt).sum) →
    ∀ ps : List (Nat × Nat), (ps.map Prod.fst).Perm (act.map Tr.w) → (∀ p ∈ ps, p.2 ≤ M) → kr M ps ≤ 2 ^ M → cs wt (act.flatMap Tr.ms) L ≤ cs wt (act.flatMap Tr.ms) len + co ps := by
  induction h with
  | one t k len =>
    intro _ _ ps _ _ _
    exact Nat.le_add_right _ _
  | @step act a b r k len L hp ha hb h ih =>
    intro hap hw ps hps hpm hpk
    have hap2 := apart_perm hp hap
    have hab := (ha b List.mem_cons_self).le
    have hall : (act.flatMap Tr.ms).Perm ((a.ms ++ b.ms) ++ r.flatMap Tr.ms) := by
      refine (hp.flatMap_right Tr.ms).trans ?_
      simp only [List.flatMap_cons, List.append_assoc]
      exact List.Perm.refl _
    have hj : (joined a b k :: r).flatMap Tr.ms = (a.ms ++ b.ms) ++ r.flatMap Tr.ms := by simp only [List.flatMap_cons, joined]
    have h1 : (ps.map Prod.fst).Perm (a.w :: (b :: r).map Tr.w) := hps.trans (hp.map Tr.w)
    obtain ⟨la, p1, e1, e2⟩ := pick h1
    obtain ⟨lb, p2, e3, e4⟩ := pick (x := b.w) (ys := r.map Tr.w) e2
    have hq : ps.Perm ((a.w, la) :: (b.w, lb) :: p2) := e1.trans ((List.perm_cons _).2 e3)
    have hbr : ∀ p ∈ p2, b.w ≤ p.1 := by
      intro p hp2
      have : p.1 ∈ r.map Tr.w := e4.mem_iff.1 (List.mem_map.2 ⟨p, hp2, rfl⟩)
      obtain ⟨t, ht, e⟩ := List.mem_map.1 this
      rw [← e]
      exact (hb t ht).le
    obtain ⟨l, r2, g1, g2, g3, g4, g5⟩ := join_lengths M a.w b.w la lb p2 hab hbr (hpm _ (hq.mem_iff.2 List.mem_cons_self)) (hpm _ (hq.mem_iff.2 (List.mem_cons_of_mem _ List.mem_cons_self)))
      (fun p hp2 => hpm p (hq.mem_iff.2 (List.mem_cons_of_mem _ (List.mem_cons_of_mem _ hp2)))) (by rw [← kr_perm M hq]; exact hpk)
    rw [← co_perm hq] at g5
    have hwa := hw a (hp.mem_iff.2 List.mem_cons_self)
    have hwb := hw b (hp.mem_iff.2 (List.mem_cons_of_mem _ List.mem_cons_self))
    have hI := ih (apart_joined hap2) (fun t ht => by
      rcases List.mem_cons.1 ht with rfl | ht
      · show a.w + b.w = ((a.ms ++ b.ms).map wt).sum
        rw [List.map_append, List.sum_append_nat, ← hwa, ← hwb]
      · exact hw t (hp.mem_iff.2 (List.mem_cons_of_mem _ (List.mem_cons_of_mem _ ht)))) ((a.w + b.w, l) :: r2)
      (by
        simp only [List.map_cons, joined]
        exact (List.perm_cons _).2 (by rw [g2]; exact e4)) (fun p hp2 => by
        rcases List.mem_cons.1 hp2 with rfl | hp2
        · exact g1
        · exact g3 p hp2) g4
    rw [hj] at hI
    rw [cs_perm wt hall L, cs_perm wt hall len]
    have hm : cs wt ((a.ms ++ b.ms) ++ r.flatMap Tr.ms) (more (a.ms ++ b.ms) len) = cs wt ((a.ms ++ b.ms) ++ r.flatMap Tr.ms) len + (a.w + b.w) := by
      rw [cs_append wt (a.ms ++ b.ms) _ (more (a.ms ++ b.ms) len), cs_append wt (a.ms ++ b.ms) _ len, cs_same wt (a.ms ++ b.ms) (more (a.ms ++ b.ms) len) (fun i => len i + 1) (fun i hi => by unfold more; rw [if_pos hi]), cs_one,
        cs_same wt (r.flatMap Tr.ms) (more (a.ms ++ b.ms) len) len (fun i hi => by
          obtain ⟨t, ht, hi2⟩ := List.mem_flatMap.1 hi
          unfold more
          rw [if_neg (apart_not hap2 ht hi2)]), List.map_append, List.sum_append_nat, ← hwa, ← hwb]
      omega
    rw [hm] at hI
    omega

/-- Each symbol a tree by itself. -/
def leaves (w : List Nat) : List Tr := (List.range w.length).map fun i => ⟨w.getD i 0, i, [i]⟩
theorem leaves_ms (w : List Nat) : (leaves w).flatMap Tr.ms = List.range w.length := by
  unfold leaves
  rw [List.flatMap_map]
  simp
theorem leaves_apart (w : List Nat) : Apart (leaves w) := by
  unfold Apart
  rw [leaves_ms]
  exact List.nodup_range
theorem leaves_w (w : List Nat) : (leaves w).map Tr.w = w := by
  unfold leaves
  rw [List.map_map]
  apply List.ext_getElem?
  intro k
  by_cases h : k < w.length
  · rw [List.getElem?_map, List.getElem?_range h, List.getElem?_eq_getElem h, Option.map_some]
    simp [List.getElem?_eq_getElem h]
  · rw [List.getElem?_eq_none (by rw [List.length_map, List.length_range]; omega), List.getElem?_eq_none (by omega)]
/-- The lengths that are made of weights. -/
def HLen (w : List Nat) (L : Nat → Nat) : Prop := HRun (leaves w) w.length (fun _ => 0) L
theorem hlen_one {w : List Nat} {L L2 : Nat → Nat} (h : HLen w L) (k : HLen w L2) : L = L2 := hrun_one h (List.Perm.refl _) k
theorem hlen_whole {w : List Nat} {L : Nat → Nat} (h : HLen w L) (M : Nat) (hM : ∀ i, i < w.length → L i ≤ M) : ((List.range w.length).map fun i => 2 ^ (M - L i)).sum = 2 ^ M := by
  have := hrun_whole h (leaves_apart w) (fun t ht => by
    obtain ⟨i, _, rfl⟩ := List.mem_map.1 ht
    exact ⟨by simp, fun N _ => by simp [kraft]⟩) M (fun i hi => by
      rw [leaves_ms] at hi
      exact hM i (List.mem_range.1 hi))
  rw [leaves_ms] at this
  exact this
theorem hlen_fib {w : List Nat} {L : Nat → Nat} (h : HLen w L) (h1 : ∀ x ∈ w, 1 ≤ x) (i : Nat) (hi : i < w.length) : fib (L i + 2) ≤ w.sum := by
  have hget : ∀ j, j < w.length → 1 ≤ w.getD j 0 := fun j hj => by
    rw [List.getD_eq_getElem?_getD, List.getElem?_eq_getElem hj]
    exact h1 _ (List.getElem_mem hj)
  have := hrun_fib h (leaves_apart w) 0 ⟨fun t ht j _ => by
      obtain ⟨q, hq, rfl⟩ := List.mem_map.1 ht
      exact hget q (List.mem_range.1 hq), fun t ht j _ h0 => by omega, fun t ht => by
      obtain ⟨q, hq, rfl⟩ := List.mem_map.1 ht
      exact ⟨Nat.zero_le _, hget q (List.mem_range.1 hq)⟩⟩ i (by rw [leaves_ms]; exact List.mem_range.2 hi)
  rw [wsum, leaves_w] at this
  exact this
theorem fib_mono : ∀ n, fib n ≤ fib (n + 1)
  | 0 => by decide
  | 1 => by decide
  | n + 2 => by
    have := fib_mono (n + 1)
    show fib (n + 2) ≤ fib (n + 1) + fib (n + 2)
    omega
theorem fib_le {m n : Nat} (h : m ≤ n) : fib m ≤ fib n := by
  induction h with
  | refl => exact Nat.le_refl _
  | step _ ih => exact Nat.le_trans ih (fib_mono _)
/-- Weights that are together below 610 have no length above 12. -/
theorem hlen_small {w : List Nat} {L : Nat → Nat} (h : HLen w L) (h1 : ∀ x ∈ w, 1 ≤ x) (hs : w.sum < 610) (i : Nat) (hi : i < w.length) : L i ≤ 12 := by
  rcases Nat.lt_or_ge 12 (L i) with h2 | h2
  · exfalso
    have h3 := hlen_fib h h1 i hi
    have h4 : fib 15 ≤ fib (L i + 2) := fib_le (by omega)
    have h5 : fib 15 = 610 := by decide
    omega
  · exact h2
theorem sum_noughts : ∀ l : List Nat, (l.map fun _ => 0).sum = 0
  | [] => rfl
  | _ :: l => by rw [List.map_cons, List.sum_cons, sum_noughts l]
/-- No lengths that may be cost less. -/
theorem hlen_best {w : List Nat} {L : Nat → Nat} (h : HLen w L) (M : Nat) (l : List Nat) (hl : l.length = w.length) (hM : ∀ x ∈ l, x ≤ M) (hk : (l.map fun x => 2 ^ (M - x)).sum ≤ 2 ^ M) :
    ((List.range w.length).map fun i => w.getD i 0 * L i).sum ≤ (List.zipWith (· * ·) w l).sum := by
  have hz1 : (w.zip l).map Prod.fst = w := by
    rw [List.map_fst_zip]
    omega
  have hz2 : (w.zip l).map Prod.snd = l := by
    rw [List.map_snd_zip]
    omega
  have := hrun_best M (fun i => w.getD i 0) h (leaves_apart w) (fun t ht => by
    obtain ⟨q, hq, rfl⟩ := List.mem_map.1 ht
    simp) (w.zip l) (by rw [hz1, leaves_w]) (fun p hp => hM p.2 (by rw [← hz2]; exact List.mem_map.2 ⟨p, hp, rfl⟩)) (by
      have e : kr M (w.zip l) = (l.map fun x => 2 ^ (M - x)).sum := by
        unfold kr
        conv => rhs; rw [← hz2]
        rw [List.map_map]
        rfl
      rw [e]
      exact hk)
  rw [leaves_ms] at this
  have e0 : cs (fun i => w.getD i 0) (List.range w.length) (fun _ => 0) = 0 := by
    unfold cs
    simp only [Nat.mul_zero]
    exact sum_noughts _
  have e1 : co (w.zip l) = (List.zipWith (· * ·) w l).sum := by
    unfold co
    rw [List.zip, List.map_zipWith]
  rw [e0, e1, Nat.zero_add] at this
  exact this

/-- Each weight becomes its half and one. -/
def half (w : List Nat) : List Nat := w.map fun x => x / 2 + 1
def halves (w : List Nat) : Nat → List Nat
  | 0 => w
  | t + 1 => half (halves w t)
theorem half_length (w : List Nat) : (half w).length = w.length := List.length_map _
theorem halves_length (w : List Nat) : ∀ t, (halves w t).length = w.length
  | 0 => rfl
  | t + 1 => by rw [halves, half_length, halves_length w t]
theorem half_pos (w : List Nat) : ∀ x ∈ half w, 1 ≤ x := fun x hx => by
  obtain ⟨y, _, rfl⟩ := List.mem_map.1 hx
  omega
theorem halves_pos (w : List Nat) (h : ∀ x ∈ w, 1 ≤ x) : ∀ t, ∀ x ∈ halves w t, 1 ≤ x
  | 0 => h
  | _ + 1 => half_pos _
theorem halves_le (w : List Nat) (h : ∀ x ∈ w, x ≤ 2 ^ 30) : ∀ t, t ≤ 30 → ∀ x ∈ halves w t, x ≤ 2 ^ (30 - t) + 2
  | 0, _ => fun x hx => Nat.le_trans (h x hx) (Nat.le_add_right _ _)
  | t + 1, ht => fun x hx => by
    obtain ⟨y, hy, rfl⟩ := List.mem_map.1 hx
    have := halves_le w h t (by omega) y hy
    rw [show 30 - t = (30 - (t + 1)) + 1 by omega, Nat.pow_succ] at this
    omega
theorem halves_two (w : List Nat) (h : ∀ x ∈ w, x ≤ 2 ^ 30) : ∀ t, ∀ x ∈ halves w (t + 31), x ≤ 2
  | 0 => fun x hx => by
    obtain ⟨y, hy, rfl⟩ := List.mem_map.1 hx
    have := halves_le w h 30 (Nat.le_refl _) y hy
    simp at this
    omega
  | t + 1 => fun x hx => by
    have hx2 : x ∈ half (halves w (t + 31)) := by
      rw [show t + 1 + 31 = (t + 31) + 1 by omega] at hx
      exact hx
    obtain ⟨y, hy, rfl⟩ := List.mem_map.1 hx2
    have := halves_two w h t y hy
    omega
theorem sum_le (b : Nat) : ∀ l : List Nat, (∀ x ∈ l, x ≤ b) → l.sum ≤ b * l.length
  | [], _ => by simp
  | x :: l, h => by
    have h1 := sum_le b l (fun y hy => h y (List.mem_cons_of_mem _ hy))
    have h2 := h x List.mem_cons_self
    rw [List.sum_cons, List.length_cons, Nat.mul_succ]
    omega
/-- Behind 31 tries none is above 12. -/
theorem halves_done {w : List Nat} (h : ∀ x ∈ w, x ≤ 2 ^ 30) (hl : w.length ≤ 258) (t : Nat) (ht : 31 ≤ t) {L : Nat → Nat} (hL : HLen (halves w t) L) (i : Nat) (hi : i < w.length) : L i ≤ 12 := by
  obtain ⟨q, rfl⟩ : ∃ q, t = q + 31 := ⟨t - 31, by omega⟩
  have h2 := halves_two w h q
  have h3 := sum_le 2 (halves w (q + 31)) h2
  rw [halves_length] at h3
  refine hlen_small hL ?_ (by omega) i (by rw [halves_length]; exact hi)
  rw [show q + 31 = (q + 30) + 1 by omega]
  exact half_pos _

/-- The lengths that Make tells, of weights that have no nought. -/
inductive MakeR : List Nat → Nat → (Nat → Nat) → Prop
  | done {w : List Nat} {most : Nat} {L : Nat → Nat} (h : HLen w L) (hm : ∀ i, i < w.length → L i ≤ most) : MakeR w most L
  | again {w : List Nat} {most : Nat} {L L2 : Nat → Nat} (h : HLen w L) (hm : ∃ i, i < w.length ∧ most < L i) (k : MakeR (half w) most L2) : MakeR w most L2
theorem makeR_one {w : List Nat} {most : Nat} {L : Nat → Nat} (h : MakeR w most L) : ∀ {L2 : Nat → Nat}, MakeR w most L2 → L = L2 := by
  induction h with
  | done h hm =>
    intro L2 h2
    cases h2 with
    | done k _ => exact hlen_one h k
    | again k hk _ =>
      obtain ⟨i, hi, hlt⟩ := hk
      have := hlen_one h k
      subst this
      have := hm i hi
      omega
  | again h hm k ih =>
    intro L2 h2
    cases h2 with
    | done k2 hk =>
      obtain ⟨i, hi, hlt⟩ := hm
      have := hlen_one h k2
      subst this
      have := hk i hi
      omega
    | again k2 _ k3 => exact ih k3
theorem makeR_good {w : List Nat} {most : Nat} {L : Nat → Nat} (h : MakeR w most L) : (∀ i, i < w.length → L i ≤ most) ∧ ∀ M, most ≤ M → ((List.range w.length).map fun i => 2 ^ (M - L i)).sum = 2 ^ M := by
  induction h with
  | done h hm => exact ⟨hm, fun M hM => hlen_whole h M fun i hi => Nat.le_trans (hm i hi) hM⟩
  | again h hm k ih =>
    rw [half_length] at ih
    exact ih
theorem makeR_back {w : List Nat} {most : Nat} {L : Nat → Nat} : ∀ t, (∀ q, q < t → ∃ L1, HLen (halves w q) L1 ∧ ∃ i, i < w.length ∧ most < L1 i) → MakeR (halves w t) most L → MakeR w most L
  | 0, _, h => h
  | t + 1, hq, h => by
    obtain ⟨L1, h1, i, hi, h2⟩ := hq t (Nat.lt_succ_self t)
    exact makeR_back t (fun q h3 => hq q (by omega)) (.again h1 ⟨i, by rw [halves_length]; exact hi, h2⟩ h)

/-- How many stand ahead of i: by the greater weight, then by the lesser number. -/
def front (w : List Nat) (i : Nat) : Nat := (List.range w.length).countP fun j => decide (w.getD i 0 < w.getD j 0 ∨ (w.getD j 0 = w.getD i 0 ∧ j < i))
theorem countP_lt {l : List Nat} {p q : Nat → Bool} (h : ∀ x ∈ l, p x = true → q x = true) {y : Nat} (hy : y ∈ l) (hq : q y = true) (hp : p y = false) : l.countP p < l.countP q := by
  induction l with
  | nil => exact absurd hy List.not_mem_nil
  | cons x l ih =>
    rw [List.countP_cons, List.countP_cons]
    rcases List.mem_cons.1 hy with rfl | hy
    · rw [hq, hp]
      have := List.countP_mono_left (l := l) (p := p) (q := q) fun x hx => h x (List.mem_cons_of_mem _ hx)
      simp
      omega
    · have h1 := ih (fun x hx => h x (List.mem_cons_of_mem _ hx)) hy
      have h2 := h x List.mem_cons_self
      by_cases e : p x = true
      · rw [e, h2 e]
        simp
        omega
      · have e2 : p x = false := by simpa using e
        rw [e2]
        have h4 : (if false = true then 1 else 0) = 0 := if_neg (by simp)
        rw [h4]
        split <;> omega
theorem front_lt (w : List Nat) {i j : Nat} (hi : i < w.length) (h : w.getD j 0 < w.getD i 0 ∨ (w.getD i 0 = w.getD j 0 ∧ i < j)) : front w i < front w j := by
  unfold front
  refine countP_lt (fun x _ hx => ?_) (List.mem_range.2 hi) (y := i) ?_ ?_
  · have hx := of_decide_eq_true hx
    exact decide_eq_true (by omega)
  · exact decide_eq_true (by omega)
  · exact decide_eq_false (by omega)
theorem front_in (w : List Nat) {i : Nat} (hi : i < w.length) : front w i < w.length := by
  have h := countP_lt (l := List.range w.length) (p := fun j => decide (w.getD i 0 < w.getD j 0 ∨ (w.getD j 0 = w.getD i 0 ∧ j < i))) (q := fun _ => true) (fun _ _ _ => rfl) (List.mem_range.2 hi) rfl (decide_eq_false (by omega))
  have e : (List.range w.length).countP (fun _ => true) = w.length := by
    rw [List.countP_eq_length.2 (fun _ _ => rfl), List.length_range]
  rw [e] at h
  exact h
theorem nodup_le : ∀ (l m : List Nat), l.Nodup → (∀ x ∈ l, x ∈ m) → l.length ≤ m.length
  | [], _, _, _ => Nat.zero_le _
  | x :: l, m, h, hm => by
    have hx := hm x List.mem_cons_self
    rw [List.nodup_cons] at h
    have h1 := nodup_le l (m.erase x) h.2 fun y hy => (List.mem_erase_of_ne (fun e => by subst e; exact h.1 hy)).2 (hm y (List.mem_cons_of_mem _ hy))
    rw [List.length_erase_of_mem hx] at h1
    have h2 := List.length_pos_of_mem hx
    rw [List.length_cons]
    omega
theorem perm_of_nodup (l : List Nat) (n : Nat) (h : l.Nodup) (hlt : ∀ x ∈ l, x < n) (hlen : l.length = n) : l.Perm (List.range n) := by
  refine (List.perm_ext_iff_of_nodup h List.nodup_range).2 fun x => ?_
  rw [List.mem_range]
  constructor
  · exact hlt x
  · intro hx
    by_cases e : x ∈ l
    · exact e
    · exfalso
      have h1 := nodup_le l ((List.range n).erase x) h fun y hy => (List.mem_erase_of_ne (fun e2 => by subst e2; exact e hy)).2 (List.mem_range.2 (hlt y hy))
      rw [List.length_erase_of_mem (List.mem_range.2 hx), List.length_range] at h1
      omega
theorem front_perm (w : List Nat) : ((List.range w.length).map (front w)).Perm (List.range w.length) := by
  have hnd : ((List.range w.length).map (front w)).Nodup := by
    rw [List.nodup_iff_pairwise_ne, List.pairwise_map]
    refine List.Pairwise.imp_of_mem ?_ List.nodup_range
    intro a b ha hb hab e
    have ha := List.mem_range.1 ha
    have hb := List.mem_range.1 hb
    rcases Nat.lt_trichotomy (w.getD a 0) (w.getD b 0) with h | h | h
    · have := front_lt w (i := b) (j := a) hb (.inl h)
      omega
    · rcases Nat.lt_or_gt_of_ne hab with h2 | h2
      · have := front_lt w (i := a) (j := b) ha (.inr ⟨h, h2⟩)
        omega
      · have := front_lt w (i := b) (j := a) hb (.inr ⟨h.symm, h2⟩)
        omega
    · have := front_lt w (i := a) (j := b) ha (.inl h)
      omega
  exact perm_of_nodup _ _ hnd (fun x hx => by
    obtain ⟨i, hi, rfl⟩ := List.mem_map.1 hx
    exact front_in w (List.mem_range.1 hi)) (by rw [List.length_map, List.length_range])
/-- Flat lengths: k for those with few in front, k + 1 for the others. -/
def flatLen (k c : Nat) (w : List Nat) (i : Nat) : Nat := if c ≤ front w i then k + 1 else k
theorem sum_cut (x y c : Nat) : ∀ n, c ≤ n → ((List.range n).map fun i => if c ≤ i then y else x).sum = c * x + (n - c) * y := by
  intro n
  induction n with
  | zero =>
    intro h
    have : c = 0 := by omega
    subst this
    simp
  | succ n ih =>
    intro h
    rw [List.range_succ, List.map_append, List.sum_append_nat]
    by_cases e : c ≤ n
    · rw [ih e]
      simp only [List.map_cons, List.map_nil, List.sum_cons, List.sum_nil, if_pos e]
      rw [show n + 1 - c = (n - c) + 1 by omega, Nat.add_mul]
      omega
    · have ec : c = n + 1 := by omega
      have e2 : ((List.range n).map fun i => if c ≤ i then y else x) = (List.range n).map fun _ => x := by
        refine List.map_congr_left fun i hi => ?_
        have := List.mem_range.1 hi
        rw [if_neg (by omega)]
      rw [e2]
      simp only [List.map_cons, List.map_nil, List.sum_cons, List.sum_nil, if_neg e]
      rw [ec, Nat.sub_self, Nat.zero_mul, Nat.add_mul, Nat.one_mul]
      have : ((List.range n).map fun _ => x).sum = n * x := by
        rw [List.map_const', List.length_range, List.sum_replicate_nat]
      omega
theorem flat_whole (w : List Nat) (k : Nat) (h1 : 2 ^ k ≤ w.length) (h2 : w.length < 2 ^ (k + 1)) (M : Nat) (hM : k + 1 ≤ M) : ((List.range w.length).map fun i => 2 ^ (M - flatLen k (2 ^ (k + 1) - w.length) w i)).sum = 2 ^ M := by
  have hc : 2 ^ (k + 1) - w.length ≤ w.length := by
    rw [Nat.pow_succ]
    omega
  generalize hcc : 2 ^ (k + 1) - w.length = c at *
  have e1 : ((List.range w.length).map fun i => 2 ^ (M - flatLen k c w i)) = ((List.range w.length).map (front w)).map fun f => if c ≤ f then 2 ^ (M - (k + 1)) else 2 ^ (M - k) := by
    rw [List.map_map]
    refine List.map_congr_left fun i _ => ?_
    simp only [Function.comp, flatLen]
    split <;> rfl
  rw [e1, ((front_perm w).map _).sum_nat, sum_cut _ _ c _ hc]
  have e2 : (2 : Nat) ^ (M - k) = 2 * 2 ^ (M - (k + 1)) := by
    rw [show M - k = (M - (k + 1)) + 1 by omega, Nat.pow_succ]
    omega
  have e3 : (2 : Nat) ^ M = 2 ^ (k + 1) * 2 ^ (M - (k + 1)) := by rw [← Nat.pow_add, show k + 1 + (M - (k + 1)) = M by omega]
  rw [e2, e3, ← Nat.mul_assoc, ← Nat.add_mul]
  congr 1
  omega

end Go.Proofs.Ytgnlpbnodijkgaa
/- Trees in two lists: weights, and the number of the tree that each is in (0: none): plain. -/
namespace Go.Proofs.Ytgnlpbnodijkgaa

/-- From a tree up: d times the tree that it is in. -/
inductive Up (ov : Nat → Nat) : Nat → Nat → Nat → Prop
  | here (i : Nat) : Up ov i i 0
  | next {i j d : Nat} (h : Up ov i j d) (h0 : ov j ≠ 0) : Up ov i (ov j) (d + 1)
theorem Up.keep {ov ov2 : Nat → Nat} {i j d : Nat} (h : Up ov i j d) (hk : ∀ x, ov x ≠ 0 → ov2 x = ov x) : Up ov2 i j d := by
  induction h with
  | here => exact .here _
  | next h h0 ih =>
    rename_i j0 d0
    have := hk j0 h0
    rw [← this]
    exact .next ih (by rw [this]; exact h0)
theorem Up.of_eq {ov : Nat → Nat} {i j p d : Nat} (h : Up ov i j d) (hp : ov j = p) (h0 : p ≠ 0) : Up ov i p (d + 1) := by
  subst hp
  exact .next h h0
/-- The way up is one: whoever is d times up. -/
theorem Up.one {ov : Nat → Nat} {i j d : Nat} (h : Up ov i j d) : ∀ {j2 : Nat}, Up ov i j2 d → j = j2 := by
  induction h with
  | here =>
    intro j2 k
    cases k
    rfl
  | next h h0 ih =>
    intro j2 k
    cases k with
    | next k k0 => rw [ih k]
/-- Two roots above one tree are one, equally far up. -/
theorem Up.root {ov : Nat → Nat} {i j d : Nat} (h : Up ov i j d) (hj : ov j = 0) : ∀ {j2 d2 : Nat}, Up ov i j2 d2 → d2 ≤ d := by
  intro j2 d2 k
  induction k with
  | here => exact Nat.zero_le _
  | next k k0 ih =>
    rename_i j3 d3
    rcases Nat.lt_or_ge d3 d with h1 | h1
    · exact h1
    · exfalso
      have e : d3 = d := by omega
      subst e
      rw [h.one k] at hj
      exact k0 hj
theorem Up.ends {ov : Nat → Nat} {i j d j2 d2 : Nat} (h : Up ov i j d) (hj : ov j = 0) (k : Up ov i j2 d2) (hj2 : ov j2 = 0) : d = d2 :=
  Nat.le_antisymm (k.root hj2 h) (h.root hj k)

/-- n leaves; k trees, of weights ws, each in the tree ov; those that are in none: act; so far the lengths len. -/
structure Grown (n : Nat) (w : List Nat) (k : Nat) (ws ov : Nat → Nat) (act : List Tr) (len : Nat → Nat) : Prop where
  ge : n ≤ k
  pos : 0 < n
  nodup : (act.map Tr.n).Nodup
  root : ∀ t ∈ act, t.n < k ∧ ov t.n = 0 ∧ t.w = ws t.n ∧ ∀ i ∈ t.ms, Up ov i t.n (len i)
  all : ∀ j, j < k → ov j = 0 → ∃ t ∈ act, t.n = j
  par : ∀ j, ov j ≠ 0 → j < ov j ∧ ov j < k
  ms : (act.flatMap Tr.ms).Perm (List.range n)
  count : act.length + k = 2 * n
  run : ∀ L, HRun act k len L → HLen w L
  sum : wsum act = w.sum

theorem grown_start (w : List Nat) (h : 0 < w.length) : Grown w.length w w.length (fun j => w.getD j 0) (fun _ => 0) (leaves w) (fun _ => 0) where
  ge := Nat.le_refl _
  pos := h
  nodup := by
    unfold leaves
    rw [List.map_map]
    have : (Tr.n ∘ fun i => (⟨w.getD i 0, i, [i]⟩ : Tr)) = id := rfl
    rw [this, List.map_id]
    exact List.nodup_range
  root := by
    intro t ht
    obtain ⟨i, hi, rfl⟩ := List.mem_map.1 ht
    refine ⟨List.mem_range.1 hi, rfl, rfl, fun j hj => ?_⟩
    have : j = i := List.mem_singleton.1 hj
    subst this
    exact .here _
  all := by
    intro j hj _
    exact ⟨⟨w.getD j 0, j, [j]⟩, List.mem_map.2 ⟨j, List.mem_range.2 hj, rfl⟩, rfl⟩
  par := fun j h0 => absurd rfl h0
  ms := by rw [leaves_ms]
  count := by
    unfold leaves
    rw [List.length_map, List.length_range]
    omega
  run := fun L h => h
  sum := by
    unfold wsum
    rw [leaves_w]

/-- The tree that stands first among those that are in none. -/
def Least (k : Nat) (ws ov : Nat → Nat) (a : Nat) : Prop := a < k ∧ ov a = 0 ∧ ∀ j, j < k → ov j = 0 → j ≠ a → ws a < ws j ∨ (ws a = ws j ∧ a < j)

/-- Two trees are joined. -/
theorem grown_next {n k : Nat} {w : List Nat} {ws ov ov1 ov2 : Nat → Nat} {act : List Tr} {len : Nat → Nat} (h : Grown n w k ws ov act len) {a b : Nat}
    (ha : Least k ws ov a) (h1 : ov1 = fun j => if j = a then k else ov j) (hb : Least k ws ov1 b) (h2 : ov2 = fun j => if j = b then k else if j = a then k else ov j) :
    ∃ act2 len2, Grown n w (k + 1) (fun j => if j = k then ws a + ws b else ws j) ov2 act2 len2 := by
  have hk : k ≠ 0 := by have := h.pos; have := h.ge; omega
  obtain ⟨ta, hta, hna⟩ := h.all a ha.1 ha.2.1
  have hba : b ≠ a := by
    intro e
    have := hb.2.1
    rw [h1] at this
    simp [e] at this
    exact hk this
  have hob : ov b = 0 := by
    have := hb.2.1
    rw [h1] at this
    simpa [hba] using this
  obtain ⟨tb, htb, hnb⟩ := h.all b hb.1 hob
  have hok : ov k = 0 := by
    by_cases e : ov k = 0
    · exact e
    · have := h.par k e
      omega
  have split : ∀ {l : List Tr} {x : Tr}, x ∈ l → ∃ r, l.Perm (x :: r) := by
    intro l x hx
    obtain ⟨s, u, rfl⟩ := List.append_of_mem hx
    exact ⟨s ++ u, List.perm_middle⟩
  obtain ⟨r1, hr1⟩ := split hta
  have htb1 : tb ∈ r1 := by
    rcases List.mem_cons.1 (hr1.mem_iff.1 htb) with e | e
    · exfalso
      rw [e, hna] at hnb
      exact hba hnb.symm
    · exact e
  obtain ⟨r, hr⟩ := split htb1
  have hp : act.Perm (ta :: tb :: r) := hr1.trans (hr.cons ta)
  have hnd := (hp.map Tr.n).nodup_iff.1 h.nodup
  rw [List.map_cons, List.map_cons, List.nodup_cons, List.nodup_cons] at hnd
  obtain ⟨hnd1, hnd2, hnd3⟩ := hnd
  have hra : ∀ t ∈ r, t ∈ act ∧ t.n ≠ a ∧ t.n ≠ b := by
    intro t ht
    refine ⟨hp.mem_iff.2 (List.mem_cons_of_mem _ (List.mem_cons_of_mem _ ht)), fun e => ?_, fun e => ?_⟩
    · exact hnd1 (by rw [hna, ← e]; exact List.mem_cons_of_mem _ (List.mem_map_of_mem ht))
    · exact hnd2 (by rw [hnb, ← e]; exact List.mem_map_of_mem ht)
  have hta2 := h.root ta hta
  have htb2 := h.root tb htb
  rw [hna] at hta2
  rw [hnb] at htb2
  have hA : ∀ t ∈ tb :: r, Ahead ta t := by
    intro t ht
    have h3 : t ∈ act ∧ t.n ≠ a := by
      rcases List.mem_cons.1 ht with rfl | ht
      · exact ⟨htb, by rw [hnb]; exact hba⟩
      · exact ⟨(hra t ht).1, (hra t ht).2.1⟩
    have h4 := h.root t h3.1
    have h5 := ha.2.2 t.n h4.1 h4.2.1 h3.2
    unfold Ahead
    rw [hta2.2.2.1, h4.2.2.1, hna]
    exact h5
  have hB : ∀ t ∈ r, Ahead tb t := by
    intro t ht
    have h3 := hra t ht
    have h4 := h.root t h3.1
    have h5 := hb.2.2 t.n h4.1 (by rw [h1]; simp [h3.2.1, h4.2.1]) h3.2.2
    unfold Ahead
    rw [htb2.2.2.1, h4.2.2.1, hnb]
    exact h5
  have hov2 : ∀ x, ov x ≠ 0 → ov2 x = ov x := by
    intro x hx
    have e1 : x ≠ a := fun e => hx (by rw [e]; exact ha.2.1)
    have e2 : x ≠ b := fun e => hx (by rw [e]; exact hob)
    rw [h2]
    simp [e1, e2]
  have hms := hp.flatMap_right Tr.ms
  have hnodup : ((ta :: tb :: r).flatMap Tr.ms).Nodup := hms.nodup_iff.1 (h.ms.nodup_iff.2 List.nodup_range)
  rw [List.flatMap_cons, List.flatMap_cons, ← List.append_assoc, List.nodup_append] at hnodup
  refine ⟨joined ta tb k :: r, more (ta.ms ++ tb.ms) len, ?_⟩
  constructor
  case ge => have := h.ge; omega
  case pos => exact h.pos
  case nodup =>
    rw [List.map_cons, List.nodup_cons]
    refine ⟨fun hk2 => ?_, hnd3⟩
    obtain ⟨t, ht, e⟩ := List.mem_map.1 hk2
    have h4 := (h.root t (hra t ht).1).1
    rw [e] at h4
    exact absurd h4 (Nat.lt_irrefl _)
  case root =>
    intro t ht
    rcases List.mem_cons.1 ht with rfl | ht
    · refine ⟨Nat.lt_succ_self k, ?_, ?_, ?_⟩
      · show ov2 k = 0
        have e1 : k ≠ a := fun e => by have := ha.1; omega
        have e2 : k ≠ b := fun e => by have := hb.1; omega
        rw [h2]
        simp [e1, e2, hok]
      · show ta.w + tb.w = if k = k then ws a + ws b else ws k
        rw [if_pos rfl, hta2.2.2.1, htb2.2.2.1]
      · intro i hi
        have hi2 : i ∈ ta.ms ++ tb.ms := hi
        show Up ov2 i k (more (ta.ms ++ tb.ms) len i)
        unfold more
        rw [if_pos hi2]
        rcases List.mem_append.1 hi2 with hi | hi
        · exact ((hta2.2.2.2 i hi).keep hov2).of_eq (by rw [h2]; simp [hba.symm]) hk
        · exact ((htb2.2.2.2 i hi).keep hov2).of_eq (by rw [h2]; simp) hk
    · have h3 := hra t ht
      have h4 := h.root t h3.1
      refine ⟨by omega, ?_, ?_, ?_⟩
      · rw [h2]
        simp [h3.2.1, h3.2.2, h4.2.1]
      · show t.w = if t.n = k then ws a + ws b else ws t.n
        rw [if_neg (by omega)]
        exact h4.2.2.1
      · intro i hi
        have hni : i ∉ ta.ms ++ tb.ms := fun hm => hnodup.2.2 i hm i (List.mem_flatMap.2 ⟨t, ht, hi⟩) rfl
        unfold more
        rw [if_neg hni]
        exact (h4.2.2.2 i hi).keep hov2
  case all =>
    intro j hj h0
    by_cases e : j = k
    · exact ⟨_, List.mem_cons_self, e.symm⟩
    · have hja : j ≠ a := fun e2 => hk (by rw [h2, e2] at h0; simpa [hba.symm] using h0)
      have hjb : j ≠ b := fun e2 => hk (by rw [h2, e2] at h0; simpa using h0)
      have h0' : ov j = 0 := by
        rw [h2] at h0
        simpa [hja, hjb] using h0
      obtain ⟨t, ht, e3⟩ := h.all j (by omega) h0'
      rcases List.mem_cons.1 (hp.mem_iff.1 ht) with e4 | e4
      · exfalso
        rw [e4, hna] at e3
        exact hja e3.symm
      · rcases List.mem_cons.1 e4 with e5 | e5
        · exfalso
          rw [e5, hnb] at e3
          exact hjb e3.symm
        · exact ⟨t, List.mem_cons_of_mem _ e5, e3⟩
  case par =>
    intro j h0
    by_cases hja : j = a
    · have : ov2 j = k := by rw [h2, hja]; simp [hba.symm]
      rw [this, hja]
      exact ⟨ha.1, Nat.lt_succ_self k⟩
    · by_cases hjb : j = b
      · have : ov2 j = k := by rw [h2, hjb]; simp
        rw [this, hjb]
        exact ⟨hb.1, Nat.lt_succ_self k⟩
      · have : ov2 j = ov j := by rw [h2]; simp [hja, hjb]
        rw [this] at h0 ⊢
        have := h.par j h0
        omega
  case ms =>
    rw [List.flatMap_cons]
    have h3 := hms.symm.trans h.ms
    rw [List.flatMap_cons, List.flatMap_cons, ← List.append_assoc] at h3
    exact h3
  case count =>
    have h3 := hp.length_eq
    have h4 := h.count
    rw [List.length_cons, List.length_cons] at h3
    rw [List.length_cons]
    omega
  case run =>
    intro L hL
    exact h.run L (.step hp hA hB hL)
  case sum =>
    have h3 := wsum_perm hp
    rw [h.sum] at h3
    rw [h3]
    unfold wsum
    rw [List.map_cons, List.map_cons, List.map_cons, List.sum_cons, List.sum_cons, List.sum_cons]
    show ta.w + tb.w + _ = _
    omega

/-- When every tree but one is in one, the way up tells the lengths. -/
theorem grown_end {n k : Nat} {w : List Nat} {ws ov : Nat → Nat} {act : List Tr} {len : Nat → Nat} (h : Grown n w k ws ov act len) (hk : k + 1 = 2 * n) :
    HLen w len ∧ ∀ i, i < n → ∃ r, Up ov i r (len i) ∧ ov r = 0 := by
  have hc := h.count
  match act, hc, h with
  | [], hc, h =>
    simp at hc
    omega
  | [t], _, h =>
    refine ⟨h.run len (.one t k len), fun i hi => ?_⟩
    have hm : i ∈ [t].flatMap Tr.ms := h.ms.mem_iff.2 (List.mem_range.2 hi)
    have hi2 : i ∈ t.ms := by simpa using hm
    have h4 := h.root t List.mem_cons_self
    exact ⟨t.n, h4.2.2.2 i hi2, h4.2.1⟩
  | t :: u :: r, hc, h =>
    simp at hc
    omega
/-- There are two trees still that are in none. -/
theorem grown_two {n k : Nat} {w : List Nat} {ws ov : Nat → Nat} {act : List Tr} {len : Nat → Nat} (h : Grown n w k ws ov act len) (hk : k + 1 < 2 * n) :
    ∃ a b, a < k ∧ b < k ∧ a ≠ b ∧ ov a = 0 ∧ ov b = 0 := by
  have hc := h.count
  match act, hc, h with
  | [], hc, h =>
    simp at hc
    omega
  | [t], hc, h =>
    simp at hc
    omega
  | t :: u :: r, hc, h =>
    have h1 := h.root t List.mem_cons_self
    have h2 := h.root u (List.mem_cons_of_mem _ List.mem_cons_self)
    have hnd := h.nodup
    rw [List.map_cons, List.nodup_cons] at hnd
    refine ⟨t.n, u.n, h1.1, h2.1, fun e => hnd.1 ?_, h1.2.1, h2.2.1⟩
    rw [e]
    exact List.mem_cons_self

/-- Two trees that are in none weigh no more than all. -/
theorem grown_weigh {n k : Nat} {w : List Nat} {ws ov : Nat → Nat} {act : List Tr} {len : Nat → Nat} (h : Grown n w k ws ov act len) {a b : Nat} (ha : a < k) (hb : b < k) (hab : a ≠ b) (ha0 : ov a = 0) (hb0 : ov b = 0) : ws a + ws b ≤ w.sum := by
  obtain ⟨ta, hta, hna⟩ := h.all a ha ha0
  obtain ⟨tb, htb, hnb⟩ := h.all b hb hb0
  obtain ⟨s, u, hsu⟩ := List.append_of_mem hta
  have hp : act.Perm (ta :: (s ++ u)) := by rw [hsu]; exact List.perm_middle
  have htb1 : tb ∈ s ++ u := by
    rcases List.mem_cons.1 (hp.mem_iff.1 htb) with e | e
    · exfalso
      rw [e, hna] at hnb
      exact hab hnb
    · exact e
  obtain ⟨s2, u2, hsu2⟩ := List.append_of_mem htb1
  have hp2 : (s ++ u).Perm (tb :: (s2 ++ u2)) := by rw [hsu2]; exact List.perm_middle
  have h3 := wsum_perm (hp.trans (hp2.cons ta))
  rw [h.sum] at h3
  rw [h3]
  unfold wsum
  rw [List.map_cons, List.map_cons, List.sum_cons, List.sum_cons, (h.root ta hta).2.2.1, (h.root tb htb).2.2.1, hna, hnb]
  omega

end Go.Proofs.Ytgnlpbnodijkgaa
