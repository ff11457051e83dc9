/- Oc Ha: texts laid together, what is not used left out. -/
import Derived.Test.YtmgmgmbpldboiaaGreatZ01
import Derived.Test.YtmgmgmbpldboiaaGreatZ00
namespace Go.Proofs.YtmgmgmbpldboiaaGreat

theorem val_top (bs : List Nat) (hb : Bit01 bs) {k n : Nat} (hk : k ≤ n) (hn : n ≤ bs.length) : val (bs.take n) / 2 ^ (n - k) = val (bs.take k) := by
  have h1 : bs.take n = bs.take k ++ (bs.take n).drop k := by
    have := List.take_append_drop k (bs.take n)
    rw [List.take_take, Nat.min_eq_left hk] at this
    exact this.symm
  have h2 : ((bs.take n).drop k).length = n - k := by
    rw [List.length_drop, List.length_take]
    omega
  have h3 := val_lt _ ((hb.take n).drop k)
  rw [h2] at h3
  rw [h1, val_append, h2, Nat.mul_comm, Nat.mul_add_div (Nat.two_pow_pos _), Nat.div_eq_of_lt h3, Nat.add_zero]
/-- The symbol whose code is v, of n bits. -/
def isAt (l : List Nat) (n v : Nat) : Option Nat := (List.range l.length).find? fun i => l.getD i 0 == n && codeN l i == v
set_option maxRecDepth 100000 in
theorem isAt_none {l : List Nat} {n v : Nat} (h : isAt l n v = none) : ∀ i, ¬ Is l n v i := by
  rintro i ⟨h1, h2, h3⟩
  have := List.find?_eq_none.1 h i (List.mem_range.2 h1)
  rw [h2, h3] at this
  simp at this
set_option maxRecDepth 100000 in
theorem isAt_is {l : List Nat} {n v i : Nat} (h : isAt l n v = some i) : Is l n v i := by
  have h1 := List.find?_some h
  have h2 := List.mem_of_find?_eq_some h
  simp only [Bool.and_eq_true, beq_iff_eq] at h1
  exact ⟨List.mem_range.1 h2, h1.1, h1.2⟩
theorem is_one {l : List Nat} (h : Fits l) {n v i j : Nat} (hi : Is l n v i) (hj : Is l n v j) : i = j := by
  refine is_apart h hi (Nat.le_refl n) (u := v) (by rw [Nat.sub_self, Nat.pow_zero, Nat.div_one]) ?_ hj.begin
  have := (h.one hi.1).2
  rw [hi.2.1] at this
  exact this
theorem isAt_some {l : List Nat} (h : Fits l) {n v i : Nat} (hi : Is l n v i) : isAt l n v = some i := by
  cases he : isAt l n v with
  | none => exact absurd hi (isAt_none he i)
  | some j => rw [is_one h hi (isAt_is he)]
/-- What is read. -/
inductive Nx where
  | hit (i : Nat)
  | short
  | code
def nextF (l bs : List Nat) : Nat → Nat → Nx
  | 0, _ => .code
  | k + 1, n => if bs.length < n then .short else match isAt l n (val (bs.take n)) with
    | some i => .hit i
    | none => if val (bs.take n) * pw n < sumP l then nextF l bs k (n + 1) else .code
/-- The next symbol of bits, from their begin on. -/
def nextL (l bs : List Nat) : Nx := nextF l bs 20 1
/-- No code of below n bits stands at the begin. -/
def Clear (l bs : List Nat) (n : Nat) : Prop := ∀ k, 1 ≤ k → k < n → ∀ i, ¬ Is l k (val (bs.take k)) i
theorem Clear.up {l bs : List Nat} {n : Nat} (h : Clear l bs n) (h1 : isAt l n (val (bs.take n)) = none) : Clear l bs (n + 1) := by
  intro k hk hkn i
  by_cases he : k = n
  · subst he
    exact isAt_none h1 i
  · exact h k hk (by omega) i
theorem no_nought {l : List Nat} (h : Fits l) (v i : Nat) : ¬ Is l 0 v i := by
  rintro ⟨h1, h2, _⟩
  have := (h.one h1).1
  omega
/-- With n bits that stand there some code begins. -/
theorem clear_begin {l bs : List Nat} (h : Fits l) (hb : Bit01 bs) {n : Nat} (hn : n ≤ bs.length) (h20 : n ≤ 20) (hc : Clear l bs n) :
    (∃ i, Begin l n (val (bs.take n)) i) ↔ val (bs.take n) * pw n < sumP l := by
  refine begin_some h h20 fun k hk i => ?_
  rw [val_top bs hb (Nat.le_of_lt hk) hn]
  by_cases h0 : k = 0
  · subst h0
    exact no_nought h _ i
  · exact hc k (by omega) hk i
/-- A symbol's code at the begin is read. -/
theorem nextF_hit {l bs : List Nat} (h : Fits l) (hb : Bit01 bs) {i : Nat} (hi : i < l.length) (hl : l.getD i 0 ≤ bs.length) (hv : val (bs.take (l.getD i 0)) = codeN l i) :
    ∀ k n, n ≤ l.getD i 0 → l.getD i 0 < n + k → nextF l bs k n = .hit i
  | 0, n, h1, h2 => by omega
  | k + 1, n, h1, h2 => by
    have his : Is l (l.getD i 0) (val (bs.take (l.getD i 0))) i := ⟨hi, rfl, hv.symm⟩
    rw [nextF, if_neg (by omega)]
    by_cases he : n = l.getD i 0
    · subst he
      rw [isAt_some h his]
    · have hlt : n < l.getD i 0 := by omega
      have hbg : Begin l n (val (bs.take n)) i := by
        refine ⟨hi, h1, ?_⟩
        rw [← hv, val_top bs hb h1 hl]
      cases hj : isAt l n (val (bs.take n)) with
      | some j =>
        exfalso
        have hij := is_apart h (isAt_is hj) h1 (val_top bs hb h1 hl) (h.one hi).2 his.begin
        have := (isAt_is hj).2.1
        rw [hij] at this
        omega
      | none =>
        have a := begin_lie h hbg
        have b := lie_in h hi
        have := pw_pos (l.getD i 0)
        show (if _ < _ then _ else _) = _
        rw [if_pos (by omega)]
        exact nextF_hit h hb hi hl hv k (n + 1) (by omega) (by omega)
theorem next_hit {l bs : List Nat} (h : Fits l) (hb : Bit01 bs) {i : Nat} (hi : i < l.length) (hl : l.getD i 0 ≤ bs.length) (hv : val (bs.take (l.getD i 0)) = codeN l i) :
    nextL l bs = .hit i := nextF_hit h hb hi hl hv 20 1 (h.one hi).1 (by have := (h.one hi).2; omega)
/-- The code of a symbol, as bits. -/
def codeB (l : List Nat) (i : Nat) : List Nat := bitsN (codeN l i) (l.getD i 0)
theorem next_code {l : List Nat} (h : Fits l) {i : Nat} (hi : i < l.length) (rest : List Nat) (hr : Bit01 rest) : nextL l (codeB l i ++ rest) = .hit i := by
  have hlen : (codeB l i).length = l.getD i 0 := bitsN_length _ _
  have hb : Bit01 (codeB l i ++ rest) := Bit01.append (bit01_bitsN _ _) hr
  have ht : (codeB l i ++ rest).take (l.getD i 0) = codeB l i := List.take_left' hlen
  refine next_hit (bs := codeB l i ++ rest) h hb hi (by rw [List.length_append, hlen]; omega) ?_
  rw [ht, codeB, val_bitsN, Nat.mod_eq_of_lt (code_lt h hi)]
set_option maxRecDepth 100000 in
/-- What is read stands there. -/
theorem nextF_is {l bs : List Nat} {i : Nat} : ∀ k n, nextF l bs k n = .hit i → l.getD i 0 ≤ bs.length ∧ Is l (l.getD i 0) (val (bs.take (l.getD i 0))) i
  | 0, n, h => by simp [nextF] at h
  | k + 1, n, h => by
    rw [nextF] at h
    by_cases hn : bs.length < n
    · rw [if_pos hn] at h
      cases h
    · rw [if_neg hn] at h
      cases hj : isAt l n (val (bs.take n)) with
      | some j =>
        rw [hj] at h
        have hji : j = i := by
          injection h
        subst hji
        have h2 := isAt_is hj
        have h3 := h2.2.1
        subst h3
        exact ⟨by omega, h2⟩
      | none =>
        rw [hj] at h
        by_cases hs : val (bs.take n) * pw n < sumP l
        · have h' : nextF l bs k (n + 1) = .hit i := by
            rw [← h]
            exact (if_pos hs).symm
          exact nextF_is k (n + 1) h'
        · have h' : Nx.code = .hit i := by
            rw [← h]
            exact (if_neg hs).symm
          cases h'
end Go.Proofs.YtmgmgmbpldboiaaGreat
namespace Go.Proofs.YtmgmgmbpldboiaaGreat

/-- A tree: its weight, its number, its symbols. -/
structure Tr where
  w : Nat
  n : Nat
  ms : List Nat
/-- It stands ahead: by the weight, then by the number. -/
def Ahead (s t : Tr) : Prop := s.w < t.w ∨ (s.w = t.w ∧ s.n < t.n)
theorem Ahead.asymm {s t : Tr} (h : Ahead s t) (k : Ahead t s) : False := by
  unfold Ahead at h k
  omega
theorem Ahead.le {s t : Tr} (h : Ahead s t) : s.w ≤ t.w := by
  unfold Ahead at h
  omega
/-- One more for each symbol of a list. -/
def more (ms : List Nat) (len : Nat → Nat) : Nat → Nat := fun i => if i ∈ ms then len i + 1 else len i
def joined (a b : Tr) (k : Nat) : Tr := ⟨a.w + b.w, k, a.ms ++ b.ms⟩
/-- From trees and lengths so far, k the next number, to the lengths when one tree is left. -/
inductive HRun : List Tr → Nat → (Nat → Nat) → (Nat → Nat) → Prop
  | one (t : Tr) (k : Nat) (len : Nat → Nat) : HRun [t] k len len
  | step {act : List Tr} {a b : Tr} {r : List Tr} {k : Nat} {len L : Nat → Nat} (hp : act.Perm (a :: b :: r)) (ha : ∀ t ∈ b :: r, Ahead a t) (hb : ∀ t ∈ r, Ahead b t)
      (h : HRun (joined a b k :: r) (k + 1) (more (a.ms ++ b.ms) len) L) : HRun act k len L

set_option maxRecDepth 100000 in
/-- It is one, whichever way it is gone. -/
theorem hrun_one {act : List Tr} {k : Nat} {len L : Nat → Nat} (h : HRun act k len L) : ∀ {act2 : List Tr} {L2 : Nat → Nat}, act.Perm act2 → HRun act2 k len L2 → L = L2 := by
  induction h with
  | one t k len =>
    intro act2 L2 hp h2
    have := List.singleton_perm.1 hp
    subst this
    cases h2 with
    | one => rfl
    | step hp2 _ _ _ =>
      have := hp2.length_eq
      simp at this
  | @step act a b r k len L hp ha hb h ih =>
    intro act2 L2 hp2 h2
    cases h2 with
    | one t =>
      have := (hp.symm.trans hp2).length_eq
      simp at this
    | @step _ a2 b2 r2 _ _ _ hp3 ha2 hb2 h3 =>
      have hq : (a :: b :: r).Perm (a2 :: b2 :: r2) := (hp.symm.trans hp2).trans hp3
      have haa : a = a2 := by
        have h1 : a ∈ a2 :: b2 :: r2 := hq.mem_iff.1 List.mem_cons_self
        have h2 : a2 ∈ a :: b :: r := hq.mem_iff.2 List.mem_cons_self
        rcases List.mem_cons.1 h1 with e | e
        · exact e
        · rcases List.mem_cons.1 h2 with e2 | e2
          · exact e2.symm
          · exact absurd (ha a2 e2) (fun h => h.asymm (ha2 a e))
      subst haa
      have hq2 := (List.perm_cons a).1 hq
      have hbb : b = b2 := by
        have h1 : b ∈ b2 :: r2 := hq2.mem_iff.1 List.mem_cons_self
        have h2 : b2 ∈ b :: r := hq2.mem_iff.2 List.mem_cons_self
        rcases List.mem_cons.1 h1 with e | e
        · exact e
        · rcases List.mem_cons.1 h2 with e2 | e2
          · exact e2.symm
          · exact absurd (hb b2 e2) (fun h => h.asymm (hb2 b e))
      subst hbb
      have hq3 := (List.perm_cons b).1 hq2
      exact ih ((List.perm_cons _).2 hq3) h3

/-- What all symbols have in common. -/
def Apart (act : List Tr) : Prop := (act.flatMap Tr.ms).Nodup
theorem apart_perm {act act2 : List Tr} (h : act.Perm act2) (k : Apart act) : Apart act2 := (h.flatMap_right Tr.ms).nodup_iff.1 k
set_option maxRecDepth 100000 in
theorem apart_joined {a b : Tr} {r : List Tr} {k : Nat} (h : Apart (a :: b :: r)) : Apart (joined a b k :: r) := by
  unfold Apart at *
  simp only [List.flatMap_cons, joined, ← List.append_assoc] at *
  exact h
set_option maxRecDepth 100000 in
theorem apart_not {a b t : Tr} {r : List Tr} (h : Apart (a :: b :: r)) (ht : t ∈ r) {i : Nat} (hi : i ∈ t.ms) : i ∉ a.ms ++ b.ms := by
  unfold Apart at h
  simp only [List.flatMap_cons, ← List.append_assoc] at h
  have h2 := (List.nodup_append.1 h).2.2
  intro hc
  exact h2 i hc i (List.mem_flatMap.2 ⟨t, ht, hi⟩) rfl

/-- What lengths take, of 2^M. -/
def kraft (M : Nat) (ms : List Nat) (len : Nat → Nat) : Nat := (ms.map fun i => 2 ^ (M - len i)).sum
def Whole (len : Nat → Nat) (t : Tr) : Prop := t.ms ≠ [] ∧ ∀ M, (∀ i ∈ t.ms, len i ≤ M) → kraft M t.ms len = 2 ^ M
theorem kraft_same (M : Nat) (ms : List Nat) (len len2 : Nat → Nat) (h : ∀ i ∈ ms, len i = len2 i) : kraft M ms len = kraft M ms len2 := by
  unfold kraft
  congr 1
  exact List.map_congr_left fun i hi => by rw [h i hi]
theorem kraft_more (M : Nat) (ms : List Nat) (len : Nat → Nat) : kraft (M + 1) ms (fun i => len i + 1) = kraft M ms len := by
  unfold kraft
  congr 1
  exact List.map_congr_left fun i _ => by rw [Nat.add_sub_add_right]
theorem kraft_append (M : Nat) (a b : List Nat) (len : Nat → Nat) : kraft M (a ++ b) len = kraft M a len + kraft M b len := by
  unfold kraft
  rw [List.map_append, List.sum_append_nat]
theorem whole_joined {a b : Tr} {k : Nat} {len : Nat → Nat} (ha : Whole len a) (hb : Whole len b) : Whole (more (a.ms ++ b.ms) len) (joined a b k) := by
  refine ⟨fun h => ha.1 (List.append_eq_nil_iff.1 h).1, fun M hM => ?_⟩
  have hM2 : ∀ i ∈ a.ms ++ b.ms, len i + 1 ≤ M := fun i hi => by
    have := hM i hi
    unfold more at this
    rwa [if_pos hi] at this
  obtain ⟨x, hx⟩ := List.exists_mem_of_ne_nil _ ha.1
  obtain ⟨N, rfl⟩ : ∃ N, M = N + 1 := ⟨M - 1, by have := hM2 x (List.mem_append_left _ hx); omega⟩
  show kraft (N + 1) (a.ms ++ b.ms) _ = _
  rw [kraft_same (N + 1) (a.ms ++ b.ms) (more (a.ms ++ b.ms) len) (fun i => len i + 1) (fun i hi => by unfold more; rw [if_pos hi]), kraft_more, kraft_append,
    ha.2 N (fun i hi => by have := hM2 i (List.mem_append_left _ hi); omega), hb.2 N (fun i hi => by have := hM2 i (List.mem_append_right _ hi); omega), Nat.pow_succ]
  omega
theorem whole_other {a b t : Tr} {r : List Tr} {len : Nat → Nat} (h : Apart (a :: b :: r)) (ht : t ∈ r) (hw : Whole len t) : Whole (more (a.ms ++ b.ms) len) t := by
  have he : ∀ i ∈ t.ms, more (a.ms ++ b.ms) len i = len i := fun i hi => by
    unfold more
    rw [if_neg (apart_not h ht hi)]
  refine ⟨hw.1, fun M hM => ?_⟩
  rw [kraft_same M t.ms _ len he]
  exact hw.2 M fun i hi => by rw [← he i hi]; exact hM i hi
set_option maxRecDepth 100000 in
/-- Lengths that are made leave no room. -/
theorem hrun_whole {act : List Tr} {k : Nat} {len L : Nat → Nat} (h : HRun act k len L) : Apart act → (∀ t ∈ act, Whole len t) → ∀ M, (∀ i ∈ act.flatMap Tr.ms, L i ≤ M) → kraft M (act.flatMap Tr.ms) L = 2 ^ M := by
  induction h with
  | one t k len =>
    intro _ hw M hM
    have e : [t].flatMap Tr.ms = t.ms := by simp
    rw [e] at hM ⊢
    exact (hw t List.mem_cons_self).2 M hM
  | @step act a b r k len L hp ha hb h ih =>
    intro hap hw M hM
    have hpm : (act.flatMap Tr.ms).Perm ((joined a b k :: r).flatMap Tr.ms) := by
      refine (hp.flatMap_right Tr.ms).trans ?_
      simp only [List.flatMap_cons, joined, List.append_assoc]
      exact List.Perm.refl _
    have hap2 := apart_perm hp hap
    have hk : kraft M (act.flatMap Tr.ms) L = kraft M ((joined a b k :: r).flatMap Tr.ms) L := (hpm.map _).sum_nat
    rw [hk]
    refine ih (apart_joined hap2) ?_ M fun i hi => hM i (hpm.mem_iff.2 hi)
    intro t ht
    rcases List.mem_cons.1 ht with rfl | ht
    · exact whole_joined (hw a (hp.mem_iff.2 List.mem_cons_self)) (hw b (hp.mem_iff.2 (List.mem_cons_of_mem _ List.mem_cons_self)))
    · exact whole_other hap2 ht (hw t (hp.mem_iff.2 (List.mem_cons_of_mem _ (List.mem_cons_of_mem _ ht))))

/-- Fibonacci's numbers. -/
def fib : Nat → Nat
  | 0 => 0
  | 1 => 1
  | n + 2 => fib n + fib (n + 1)
def wsum (act : List Tr) : Nat := (act.map Tr.w).sum
theorem wsum_perm {act act2 : List Tr} (h : act.Perm act2) : wsum act = wsum act2 := (h.map _).sum_nat
structure Grow (act : List Tr) (len : Nat → Nat) (m : Nat) : Prop where
  own : ∀ t ∈ act, ∀ i ∈ t.ms, fib (len i + 2) ≤ t.w
  top : ∀ t ∈ act, ∀ i ∈ t.ms, 1 ≤ len i → fib (len i + 1) ≤ m
  low : ∀ t ∈ act, m ≤ t.w ∧ 1 ≤ t.w
set_option maxRecDepth 100000 in
/-- A tree that is high is heavy. -/
theorem hrun_fib {act : List Tr} {k : Nat} {len L : Nat → Nat} (h : HRun act k len L) : Apart act → ∀ m, Grow act len m → ∀ i ∈ act.flatMap Tr.ms, fib (L i + 2) ≤ wsum act := by
  induction h with
  | one t k len =>
    intro _ m hg i hi
    have e : [t].flatMap Tr.ms = t.ms := by simp
    rw [e] at hi
    have e2 : wsum [t] = t.w := by simp [wsum]
    rw [e2]
    exact hg.own t List.mem_cons_self i hi
  | @step act a b r k len L hp ha hb h ih =>
    intro hap m hg i hi
    have hap2 := apart_perm hp hap
    have hma : a ∈ act := hp.mem_iff.2 List.mem_cons_self
    have hmb : b ∈ act := hp.mem_iff.2 (List.mem_cons_of_mem _ List.mem_cons_self)
    have hmr : ∀ t ∈ r, t ∈ act := fun t ht => hp.mem_iff.2 (List.mem_cons_of_mem _ (List.mem_cons_of_mem _ ht))
    have hab := (ha b List.mem_cons_self).le
    have hpm : (act.flatMap Tr.ms).Perm ((joined a b k :: r).flatMap Tr.ms) := by
      refine (hp.flatMap_right Tr.ms).trans ?_
      simp only [List.flatMap_cons, joined, List.append_assoc]
      exact List.Perm.refl _
    have hws : wsum act = wsum (joined a b k :: r) := by
      rw [wsum_perm hp]
      simp only [wsum, List.map_cons, List.sum_cons, joined]
      omega
    rw [hws]
    refine ih (apart_joined hap2) b.w ⟨?_, ?_, ?_⟩ i (hpm.mem_iff.1 hi)
    · intro t ht j hj
      rcases List.mem_cons.1 ht with rfl | ht
      · have hj2 : j ∈ a.ms ++ b.ms := hj
        have e : more (a.ms ++ b.ms) len j = len j + 1 := by unfold more; rw [if_pos hj2]
        rw [e]
        show fib (len j + 1) + fib (len j + 2) ≤ a.w + b.w
        rcases List.mem_append.1 hj2 with hj3 | hj3
        · have h1 := hg.own a hma j hj3
          have h2 : fib (len j + 1) ≤ b.w := by
            rcases Nat.eq_zero_or_pos (len j) with h0 | h0
            · rw [h0]
              exact (hg.low b hmb).2
            · exact Nat.le_trans (hg.top a hma j hj3 h0) (hg.low b hmb).1
          omega
        · have h1 := hg.own b hmb j hj3
          have h2 : fib (len j + 1) ≤ a.w := by
            rcases Nat.eq_zero_or_pos (len j) with h0 | h0
            · rw [h0]
              exact (hg.low a hma).2
            · exact Nat.le_trans (hg.top b hmb j hj3 h0) (hg.low a hma).1
          omega
      · have e : more (a.ms ++ b.ms) len j = len j := by unfold more; rw [if_neg (apart_not hap2 ht hj)]
        rw [e]
        exact hg.own t (hmr t ht) j hj
    · intro t ht j hj h1
      rcases List.mem_cons.1 ht with rfl | ht
      · have hj2 : j ∈ a.ms ++ b.ms := hj
        have e : more (a.ms ++ b.ms) len j = len j + 1 := by unfold more; rw [if_pos hj2]
        rw [e]
        rcases List.mem_append.1 hj2 with hj3 | hj3
        · exact Nat.le_trans (hg.own a hma j hj3) hab
        · exact hg.own b hmb j hj3
      · have e : more (a.ms ++ b.ms) len j = len j := by unfold more; rw [if_neg (apart_not hap2 ht hj)]
        rw [e] at h1 ⊢
        exact Nat.le_trans (hg.top t (hmr t ht) j hj h1) (hg.low b hmb).1
    · intro t ht
      rcases List.mem_cons.1 ht with rfl | ht
      · show b.w ≤ a.w + b.w ∧ 1 ≤ a.w + b.w
        have := (hg.low b hmb).2
        omega
      · exact ⟨(hb t ht).le, (hg.low t (hmr t ht)).2⟩

/-- What weights (first) times lengths (second) cost; what the lengths take, of 2^M. -/
def co (ps : List (Nat × Nat)) : Nat := (ps.map fun p => p.1 * p.2).sum
def cs (wt : Nat → Nat) (ms : List Nat) (len : Nat → Nat) : Nat := (ms.map fun i => wt i * len i).sum
theorem pick {x : Nat} {ys : List Nat} : ∀ {ps : List (Nat × Nat)}, (ps.map Prod.fst).Perm (x :: ys) → ∃ l ps2, ps.Perm ((x, l) :: ps2) ∧ (ps2.map Prod.fst).Perm ys := by
  intro ps h
  have hx : x ∈ ps.map Prod.fst := h.mem_iff.2 List.mem_cons_self
  obtain ⟨p, hp, rfl⟩ := List.mem_map.1 hx
  have h1 := List.perm_cons_erase hp
  refine ⟨p.2, ps.erase p, h1, ?_⟩
  have h2 := (h1.map Prod.fst).symm.trans h
  exact (List.perm_cons _).1 h2
/-- Each symbol a tree by itself. -/
def leaves (w : List Nat) : List Tr := (List.range w.length).map fun i => ⟨w.getD i 0, i, [i]⟩
set_option maxRecDepth 100000 in
theorem leaves_ms (w : List Nat) : (leaves w).flatMap Tr.ms = List.range w.length := by
  unfold leaves
  rw [List.flatMap_map]
  simp
theorem leaves_apart (w : List Nat) : Apart (leaves w) := by
  unfold Apart
  rw [leaves_ms]
  exact List.nodup_range
set_option maxRecDepth 100000 in
theorem leaves_w (w : List Nat) : (leaves w).map Tr.w = w := by
  unfold leaves
  rw [List.map_map]
  apply List.ext_getElem?
  intro k
  by_cases h : k < w.length
  · rw [List.getElem?_map, List.getElem?_range h, List.getElem?_eq_getElem h, Option.map_some]
    simp [List.getElem?_eq_getElem h]
  · rw [List.getElem?_eq_none (by rw [List.length_map, List.length_range]; omega), List.getElem?_eq_none (by omega)]
/-- The lengths that are made of weights. -/
def HLen (w : List Nat) (L : Nat → Nat) : Prop := HRun (leaves w) w.length (fun _ => 0) L
theorem hlen_one {w : List Nat} {L L2 : Nat → Nat} (h : HLen w L) (k : HLen w L2) : L = L2 := hrun_one h (List.Perm.refl _) k
set_option maxRecDepth 100000 in
theorem hlen_whole {w : List Nat} {L : Nat → Nat} (h : HLen w L) (M : Nat) (hM : ∀ i, i < w.length → L i ≤ M) : ((List.range w.length).map fun i => 2 ^ (M - L i)).sum = 2 ^ M := by
  have := hrun_whole h (leaves_apart w) (fun t ht => by
    obtain ⟨i, _, rfl⟩ := List.mem_map.1 ht
    exact ⟨by simp, fun N _ => by simp [kraft]⟩) M (fun i hi => by
      rw [leaves_ms] at hi
      exact hM i (List.mem_range.1 hi))
  rw [leaves_ms] at this
  exact this
theorem hlen_fib {w : List Nat} {L : Nat → Nat} (h : HLen w L) (h1 : ∀ x ∈ w, 1 ≤ x) (i : Nat) (hi : i < w.length) : fib (L i + 2) ≤ w.sum := by
  have hget : ∀ j, j < w.length → 1 ≤ w.getD j 0 := fun j hj => by
    rw [List.getD_eq_getElem?_getD, List.getElem?_eq_getElem hj]
    exact h1 _ (List.getElem_mem hj)
  have := hrun_fib h (leaves_apart w) 0 ⟨fun t ht j _ => by
      obtain ⟨q, hq, rfl⟩ := List.mem_map.1 ht
      exact hget q (List.mem_range.1 hq), fun t ht j _ h0 => by omega, fun t ht => by
      obtain ⟨q, hq, rfl⟩ := List.mem_map.1 ht
      exact ⟨Nat.zero_le _, hget q (List.mem_range.1 hq)⟩⟩ i (by rw [leaves_ms]; exact List.mem_range.2 hi)
  rw [wsum, leaves_w] at this
  exact this
theorem fib_mono : ∀ n, fib n ≤ fib (n + 1)
  | 0 => by decide
  | 1 => by decide
  | n + 2 => by
    have := fib_mono (n + 1)
    show fib (n + 2) ≤ fib (n + 1) + fib (n + 2)
    omega
theorem fib_le {m n : Nat} (h : m ≤ n) : fib m ≤ fib n := by
  induction h with
  | refl => exact Nat.le_refl _
  | step _ ih => exact Nat.le_trans ih (fib_mono _)
set_option maxRecDepth 100000 in
/-- Weights that are together below 610 have no length above 12. -/
theorem hlen_small {w : List Nat} {L : Nat → Nat} (h : HLen w L) (h1 : ∀ x ∈ w, 1 ≤ x) (hs : w.sum < 610) (i : Nat) (hi : i < w.length) : L i ≤ 12 := by
  rcases Nat.lt_or_ge 12 (L i) with h2 | h2
  · exfalso
    have h3 := hlen_fib h h1 i hi
    have h4 : fib 15 ≤ fib (L i + 2) := fib_le (by omega)
    have h5 : fib 15 = 610 := by decide
    omega
  · exact h2
/-- Each weight becomes its half and one. -/
def half (w : List Nat) : List Nat := w.map fun x => x / 2 + 1
def halves (w : List Nat) : Nat → List Nat
  | 0 => w
  | t + 1 => half (halves w t)
theorem half_length (w : List Nat) : (half w).length = w.length := List.length_map _
theorem halves_length (w : List Nat) : ∀ t, (halves w t).length = w.length
  | 0 => rfl
  | t + 1 => by rw [halves, half_length, halves_length w t]
theorem half_pos (w : List Nat) : ∀ x ∈ half w, 1 ≤ x := fun x hx => by
  obtain ⟨y, _, rfl⟩ := List.mem_map.1 hx
  omega
theorem halves_le (w : List Nat) (h : ∀ x ∈ w, x ≤ 2 ^ 30) : ∀ t, t ≤ 30 → ∀ x ∈ halves w t, x ≤ 2 ^ (30 - t) + 2
  | 0, _ => fun x hx => Nat.le_trans (h x hx) (Nat.le_add_right _ _)
  | t + 1, ht => fun x hx => by
    obtain ⟨y, hy, rfl⟩ := List.mem_map.1 hx
    have := halves_le w h t (by omega) y hy
    rw [show 30 - t = (30 - (t + 1)) + 1 by omega, Nat.pow_succ] at this
    omega
set_option maxRecDepth 100000 in
theorem halves_two (w : List Nat) (h : ∀ x ∈ w, x ≤ 2 ^ 30) : ∀ t, ∀ x ∈ halves w (t + 31), x ≤ 2
  | 0 => fun x hx => by
    obtain ⟨y, hy, rfl⟩ := List.mem_map.1 hx
    have := halves_le w h 30 (Nat.le_refl _) y hy
    simp at this
    omega
  | t + 1 => fun x hx => by
    have hx2 : x ∈ half (halves w (t + 31)) := by
      rw [show t + 1 + 31 = (t + 31) + 1 by omega] at hx
      exact hx
    obtain ⟨y, hy, rfl⟩ := List.mem_map.1 hx2
    have := halves_two w h t y hy
    omega
set_option maxRecDepth 100000 in
theorem sum_le (b : Nat) : ∀ l : List Nat, (∀ x ∈ l, x ≤ b) → l.sum ≤ b * l.length
  | [], _ => by simp
  | x :: l, h => by
    have h1 := sum_le b l (fun y hy => h y (List.mem_cons_of_mem _ hy))
    have h2 := h x List.mem_cons_self
    rw [List.sum_cons, List.length_cons, Nat.mul_succ]
    omega
/-- Behind 31 tries none is above 12. -/
theorem halves_done {w : List Nat} (h : ∀ x ∈ w, x ≤ 2 ^ 30) (hl : w.length ≤ 258) (t : Nat) (ht : 31 ≤ t) {L : Nat → Nat} (hL : HLen (halves w t) L) (i : Nat) (hi : i < w.length) : L i ≤ 12 := by
  obtain ⟨q, rfl⟩ : ∃ q, t = q + 31 := ⟨t - 31, by omega⟩
  have h2 := halves_two w h q
  have h3 := sum_le 2 (halves w (q + 31)) h2
  rw [halves_length] at h3
  refine hlen_small hL ?_ (by omega) i (by rw [halves_length]; exact hi)
  rw [show q + 31 = (q + 30) + 1 by omega]
  exact half_pos _

/-- The lengths that Make tells, of weights that have no nought. -/
inductive MakeR : List Nat → Nat → (Nat → Nat) → Prop
  | done {w : List Nat} {most : Nat} {L : Nat → Nat} (h : HLen w L) (hm : ∀ i, i < w.length → L i ≤ most) : MakeR w most L
  | again {w : List Nat} {most : Nat} {L L2 : Nat → Nat} (h : HLen w L) (hm : ∃ i, i < w.length ∧ most < L i) (k : MakeR (half w) most L2) : MakeR w most L2
theorem makeR_one {w : List Nat} {most : Nat} {L : Nat → Nat} (h : MakeR w most L) : ∀ {L2 : Nat → Nat}, MakeR w most L2 → L = L2 := by
  induction h with
  | done h hm =>
    intro L2 h2
    cases h2 with
    | done k _ => exact hlen_one h k
    | again k hk _ =>
      obtain ⟨i, hi, hlt⟩ := hk
      have := hlen_one h k
      subst this
      have := hm i hi
      omega
  | again h hm k ih =>
    intro L2 h2
    cases h2 with
    | done k2 hk =>
      obtain ⟨i, hi, hlt⟩ := hm
      have := hlen_one h k2
      subst this
      have := hk i hi
      omega
    | again k2 _ k3 => exact ih k3
theorem makeR_good {w : List Nat} {most : Nat} {L : Nat → Nat} (h : MakeR w most L) : (∀ i, i < w.length → L i ≤ most) ∧ ∀ M, most ≤ M → ((List.range w.length).map fun i => 2 ^ (M - L i)).sum = 2 ^ M := by
  induction h with
  | done h hm => exact ⟨hm, fun M hM => hlen_whole h M fun i hi => Nat.le_trans (hm i hi) hM⟩
  | again h hm k ih =>
    rw [half_length] at ih
    exact ih
theorem makeR_back {w : List Nat} {most : Nat} {L : Nat → Nat} : ∀ t, (∀ q, q < t → ∃ L1, HLen (halves w q) L1 ∧ ∃ i, i < w.length ∧ most < L1 i) → MakeR (halves w t) most L → MakeR w most L
  | 0, _, h => h
  | t + 1, hq, h => by
    obtain ⟨L1, h1, i, hi, h2⟩ := hq t (Nat.lt_succ_self t)
    exact makeR_back t (fun q h3 => hq q (by omega)) (.again h1 ⟨i, by rw [halves_length]; exact hi, h2⟩ h)

/-- How many stand ahead of i: by the greater weight, then by the lesser number. -/
def front (w : List Nat) (i : Nat) : Nat := (List.range w.length).countP fun j => decide (w.getD i 0 < w.getD j 0 ∨ (w.getD j 0 = w.getD i 0 ∧ j < i))
set_option maxRecDepth 100000 in
theorem countP_lt {l : List Nat} {p q : Nat → Bool} (h : ∀ x ∈ l, p x = true → q x = true) {y : Nat} (hy : y ∈ l) (hq : q y = true) (hp : p y = false) : l.countP p < l.countP q := by
  induction l with
  | nil => exact absurd hy List.not_mem_nil
  | cons x l ih =>
    rw [List.countP_cons, List.countP_cons]
    rcases List.mem_cons.1 hy with rfl | hy
    · rw [hq, hp]
      have := List.countP_mono_left (l := l) (p := p) (q := q) fun x hx => h x (List.mem_cons_of_mem _ hx)
      simp
      omega
    · have h1 := ih (fun x hx => h x (List.mem_cons_of_mem _ hx)) hy
      have h2 := h x List.mem_cons_self
      by_cases e : p x = true
      · rw [e, h2 e]
        simp
        omega
      · have e2 : p x = false := by simpa using e
        rw [e2]
        have h4 : (if false = true then 1 else 0) = 0 := if_neg (by simp)
        rw [h4]
        split <;> omega
theorem front_lt (w : List Nat) {i j : Nat} (hi : i < w.length) (h : w.getD j 0 < w.getD i 0 ∨ (w.getD i 0 = w.getD j 0 ∧ i < j)) : front w i < front w j := by
  unfold front
  refine countP_lt (fun x _ hx => ?_) (List.mem_range.2 hi) (y := i) ?_ ?_
  · have hx := of_decide_eq_true hx
    exact decide_eq_true (by omega)
  · exact decide_eq_true (by omega)
  · exact decide_eq_false (by omega)
theorem front_in (w : List Nat) {i : Nat} (hi : i < w.length) : front w i < w.length := by
  have h := countP_lt (l := List.range w.length) (p := fun j => decide (w.getD i 0 < w.getD j 0 ∨ (w.getD j 0 = w.getD i 0 ∧ j < i))) (q := fun _ => true) (fun _ _ _ => rfl) (List.mem_range.2 hi) rfl (decide_eq_false (by omega))
  have e : (List.range w.length).countP (fun _ => true) = w.length := by
    rw [List.countP_eq_length.2 (fun _ _ => rfl), List.length_range]
  rw [e] at h
  exact h
theorem nodup_le : ∀ (l m : List Nat), l.Nodup → (∀ x ∈ l, x ∈ m) → l.length ≤ m.length
  | [], _, _, _ => Nat.zero_le _
  | x :: l, m, h, hm => by
    have hx := hm x List.mem_cons_self
    rw [List.nodup_cons] at h
    have h1 := nodup_le l (m.erase x) h.2 fun y hy => (List.mem_erase_of_ne (fun e => by subst e; exact h.1 hy)).2 (hm y (List.mem_cons_of_mem _ hy))
    rw [List.length_erase_of_mem hx] at h1
    have h2 := List.length_pos_of_mem hx
    rw [List.length_cons]
    omega
theorem perm_of_nodup (l : List Nat) (n : Nat) (h : l.Nodup) (hlt : ∀ x ∈ l, x < n) (hlen : l.length = n) : l.Perm (List.range n) := by
  refine (List.perm_ext_iff_of_nodup h List.nodup_range).2 fun x => ?_
  rw [List.mem_range]
  constructor
  · exact hlt x
  · intro hx
    by_cases e : x ∈ l
    · exact e
    · exfalso
      have h1 := nodup_le l ((List.range n).erase x) h fun y hy => (List.mem_erase_of_ne (fun e2 => by subst e2; exact e hy)).2 (List.mem_range.2 (hlt y hy))
      rw [List.length_erase_of_mem (List.mem_range.2 hx), List.length_range] at h1
      omega
set_option maxRecDepth 100000 in
theorem front_perm (w : List Nat) : ((List.range w.length).map (front w)).Perm (List.range w.length) := by
  have hnd : ((List.range w.length).map (front w)).Nodup := by
    rw [List.nodup_iff_pairwise_ne, List.pairwise_map]
    refine List.Pairwise.imp_of_mem ?_ List.nodup_range
    intro a b ha hb hab e
    have ha := List.mem_range.1 ha
    have hb := List.mem_range.1 hb
    rcases Nat.lt_trichotomy (w.getD a 0) (w.getD b 0) with h | h | h
    · have := front_lt w (i := b) (j := a) hb (.inl h)
      omega
    · rcases Nat.lt_or_gt_of_ne hab with h2 | h2
      · have := front_lt w (i := a) (j := b) ha (.inr ⟨h, h2⟩)
        omega
      · have := front_lt w (i := b) (j := a) hb (.inr ⟨h.symm, h2⟩)
        omega
    · have := front_lt w (i := a) (j := b) ha (.inl h)
      omega
  exact perm_of_nodup _ _ hnd (fun x hx => by
    obtain ⟨i, hi, rfl⟩ := List.mem_map.1 hx
    exact front_in w (List.mem_range.1 hi)) (by rw [List.length_map, List.length_range])
/-- Flat lengths: k for those with few in front, k + 1 for the others. -/
def flatLen (k c : Nat) (w : List Nat) (i : Nat) : Nat := if c ≤ front w i then k + 1 else k
set_option maxRecDepth 100000 in
theorem sum_cut (x y c : Nat) : ∀ n, c ≤ n → ((List.range n).map fun i => if c ≤ i then y else x).sum = c * x + (n - c) * y := by
  intro n
  induction n with
  | zero =>
    intro h
    have : c = 0 := by omega
    subst this
    simp
  | succ n ih =>
    intro h
    rw [List.range_succ, List.map_append, List.sum_append_nat]
    by_cases e : c ≤ n
    · rw [ih e]
      simp only [List.map_cons, List.map_nil, List.sum_cons, List.sum_nil, if_pos e]
      rw [show n + 1 - c = (n - c) + 1 by omega, Nat.add_mul]
      omega
    · have ec : c = n + 1 := by omega
      have e2 : ((List.range n).map fun i => if c ≤ i then y else x) = (List.range n).map fun _ => x := by
        refine List.map_congr_left fun i hi => ?_
        have := List.mem_range.1 hi
        rw [if_neg (by omega)]
      rw [e2]
      simp only [List.map_cons, List.map_nil, List.sum_cons, List.sum_nil, if_neg e]
      rw [ec, Nat.sub_self, Nat.zero_mul, Nat.add_mul, Nat.one_mul]
      have : ((List.range n).map fun _ => x).sum = n * x := by
        rw [List.map_const', List.length_range, List.sum_replicate_nat]
      omega
set_option maxRecDepth 100000 in
theorem flat_whole (w : List Nat) (k : Nat) (h1 : 2 ^ k ≤ w.length) (h2 : w.length < 2 ^ (k + 1)) (M : Nat) (hM : k + 1 ≤ M) : ((List.range w.length).map fun i => 2 ^ (M - flatLen k (2 ^ (k + 1) - w.length) w i)).sum = 2 ^ M := by
  have hc : 2 ^ (k + 1) - w.length ≤ w.length := by
    rw [Nat.pow_succ]
    omega
  generalize hcc : 2 ^ (k + 1) - w.length = c at *
  have e1 : ((List.range w.length).map fun i => 2 ^ (M - flatLen k c w i)) = ((List.range w.length).map (front w)).map fun f => if c ≤ f then 2 ^ (M - (k + 1)) else 2 ^ (M - k) := by
    rw [List.map_map]
    refine List.map_congr_left fun i _ => ?_
    simp only [Function.comp, flatLen]
    split <;> rfl
  rw [e1, ((front_perm w).map _).sum_nat, sum_cut _ _ c _ hc]
  have e2 : (2 : Nat) ^ (M - k) = 2 * 2 ^ (M - (k + 1)) := by
    rw [show M - k = (M - (k + 1)) + 1 by omega, Nat.pow_succ]
    omega
  have e3 : (2 : Nat) ^ M = 2 ^ (k + 1) * 2 ^ (M - (k + 1)) := by rw [← Nat.pow_add, show k + 1 + (M - (k + 1)) = M by omega]
  rw [e2, e3, ← Nat.mul_assoc, ← Nat.add_mul]
  congr 1
  omega

end Go.Proofs.YtmgmgmbpldboiaaGreat
