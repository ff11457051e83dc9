/- Oc Ha Hb Ya Yb Yc Yd: texts laid together, what is not used left out. -/
import Derived.Test.YtmgmgmbpldboiaaZ02
import Derived.Test.YtmgmgmbpldboiaaZ01
import Derived.Deep.LoopGhost
import Derived.Laws.OwnMore
import Derived.Laws.MakeOwn
import Derived.Maps.AppendAt
import Derived.Deep.Onto
import Derived.Lib.AppendZeros
import Derived.Deep.RegionLaw
namespace Go.Proofs.Ytmgmgmbpldboiaa

theorem val_top (bs : List Nat) (hb : Bit01 bs) {k n : Nat} (hk : k ≤ n) (hn : n ≤ bs.length) : val (bs.take n) / 2 ^ (n - k) = val (bs.take k) := by
  have h1 : bs.take n = bs.take k ++ (bs.take n).drop k := by
    have := List.take_append_drop k (bs.take n)
    rw [List.take_take, Nat.min_eq_left hk] at this
    exact this.symm
  have h2 : ((bs.take n).drop k).length = n - k := by
    rw [List.length_drop, List.length_take]
    omega
  have h3 := val_lt _ ((hb.take n).drop k)
  rw [h2] at h3
  rw [h1, val_append, h2, Nat.mul_comm, Nat.mul_add_div (Nat.two_pow_pos _), Nat.div_eq_of_lt h3, Nat.add_zero]
/-- The symbol whose code is v, of n bits. -/
def isAt (l : List Nat) (n v : Nat) : Option Nat := (List.range l.length).find? fun i => l.getD i 0 == n && codeN l i == v
set_option maxRecDepth 100000 in
theorem isAt_none {l : List Nat} {n v : Nat} (h : isAt l n v = none) : ∀ i, ¬ Is l n v i := by
  rintro i ⟨h1, h2, h3⟩
  have := List.find?_eq_none.1 h i (List.mem_range.2 h1)
  rw [h2, h3] at this
  simp at this
set_option maxRecDepth 100000 in
theorem isAt_is {l : List Nat} {n v i : Nat} (h : isAt l n v = some i) : Is l n v i := by
  have h1 := List.find?_some h
  have h2 := List.mem_of_find?_eq_some h
  simp only [Bool.and_eq_true, beq_iff_eq] at h1
  exact ⟨List.mem_range.1 h2, h1.1, h1.2⟩
theorem is_one {l : List Nat} (h : Fits l) {n v i j : Nat} (hi : Is l n v i) (hj : Is l n v j) : i = j := by
  refine is_apart h hi (Nat.le_refl n) (u := v) (by rw [Nat.sub_self, Nat.pow_zero, Nat.div_one]) ?_ hj.begin
  have := (h.one hi.1).2
  rw [hi.2.1] at this
  exact this
theorem isAt_some {l : List Nat} (h : Fits l) {n v i : Nat} (hi : Is l n v i) : isAt l n v = some i := by
  cases he : isAt l n v with
  | none => exact absurd hi (isAt_none he i)
  | some j => rw [is_one h hi (isAt_is he)]
/-- What is read. -/
inductive Nx where
  | hit (i : Nat)
  | short
  | code
def nextF (l bs : List Nat) : Nat → Nat → Nx
  | 0, _ => .code
  | k + 1, n => if bs.length < n then .short else match isAt l n (val (bs.take n)) with
    | some i => .hit i
    | none => if val (bs.take n) * pw n < sumP l then nextF l bs k (n + 1) else .code
/-- The next symbol of bits, from their begin on. -/
def nextL (l bs : List Nat) : Nx := nextF l bs 20 1
/-- No code of below n bits stands at the begin. -/
def Clear (l bs : List Nat) (n : Nat) : Prop := ∀ k, 1 ≤ k → k < n → ∀ i, ¬ Is l k (val (bs.take k)) i
theorem Clear.up {l bs : List Nat} {n : Nat} (h : Clear l bs n) (h1 : isAt l n (val (bs.take n)) = none) : Clear l bs (n + 1) := by
  intro k hk hkn i
  by_cases he : k = n
  · subst he
    exact isAt_none h1 i
  · exact h k hk (by omega) i
theorem no_nought {l : List Nat} (h : Fits l) (v i : Nat) : ¬ Is l 0 v i := by
  rintro ⟨h1, h2, _⟩
  have := (h.one h1).1
  omega
/-- With n bits that stand there some code begins. -/
theorem clear_begin {l bs : List Nat} (h : Fits l) (hb : Bit01 bs) {n : Nat} (hn : n ≤ bs.length) (h20 : n ≤ 20) (hc : Clear l bs n) :
    (∃ i, Begin l n (val (bs.take n)) i) ↔ val (bs.take n) * pw n < sumP l := by
  refine begin_some h h20 fun k hk i => ?_
  rw [val_top bs hb (Nat.le_of_lt hk) hn]
  by_cases h0 : k = 0
  · subst h0
    exact no_nought h _ i
  · exact hc k (by omega) hk i
/-- The code of a symbol, as bits. -/
def codeB (l : List Nat) (i : Nat) : List Nat := bitsN (codeN l i) (l.getD i 0)
set_option maxRecDepth 100000 in
/-- What is read stands there. -/
theorem nextF_is {l bs : List Nat} {i : Nat} : ∀ k n, nextF l bs k n = .hit i → l.getD i 0 ≤ bs.length ∧ Is l (l.getD i 0) (val (bs.take (l.getD i 0))) i
  | 0, n, h => by simp [nextF] at h
  | k + 1, n, h => by
    rw [nextF] at h
    by_cases hn : bs.length < n
    · rw [if_pos hn] at h
      cases h
    · rw [if_neg hn] at h
      cases hj : isAt l n (val (bs.take n)) with
      | some j =>
        rw [hj] at h
        have hji : j = i := by
          injection h
        subst hji
        have h2 := isAt_is hj
        have h3 := h2.2.1
        subst h3
        exact ⟨by omega, h2⟩
      | none =>
        rw [hj] at h
        by_cases hs : val (bs.take n) * pw n < sumP l
        · have h' : nextF l bs k (n + 1) = .hit i := by
            rw [← h]
            exact (if_pos hs).symm
          exact nextF_is k (n + 1) h'
        · have h' : Nx.code = .hit i := by
            rw [← h]
            exact (if_neg hs).symm
          cases h'
end Go.Proofs.Ytmgmgmbpldboiaa
namespace Go.Proofs.Ytmgmgmbpldboiaa

/-- A tree: its weight, its number, its symbols. -/
structure Tr where
  w : Nat
  n : Nat
  ms : List Nat
/-- It stands ahead: by the weight, then by the number. -/
def Ahead (s t : Tr) : Prop := s.w < t.w ∨ (s.w = t.w ∧ s.n < t.n)
/-- One more for each symbol of a list. -/
def more (ms : List Nat) (len : Nat → Nat) : Nat → Nat := fun i => if i ∈ ms then len i + 1 else len i
def joined (a b : Tr) (k : Nat) : Tr := ⟨a.w + b.w, k, a.ms ++ b.ms⟩
/-- From trees and lengths so far, k the next number, to the lengths when one tree is left. -/
inductive HRun : List Tr → Nat → (Nat → Nat) → (Nat → Nat) → Prop
  | one (t : Tr) (k : Nat) (len : Nat → Nat) : HRun [t] k len len
  | step {act : List Tr} {a b : Tr} {r : List Tr} {k : Nat} {len L : Nat → Nat} (hp : act.Perm (a :: b :: r)) (ha : ∀ t ∈ b :: r, Ahead a t) (hb : ∀ t ∈ r, Ahead b t)
      (h : HRun (joined a b k :: r) (k + 1) (more (a.ms ++ b.ms) len) L) : HRun act k len L

/-- What lengths take, of 2^M. -/
def kraft (M : Nat) (ms : List Nat) (len : Nat → Nat) : Nat := (ms.map fun i => 2 ^ (M - len i)).sum
def Whole (len : Nat → Nat) (t : Tr) : Prop := t.ms ≠ [] ∧ ∀ M, (∀ i ∈ t.ms, len i ≤ M) → kraft M t.ms len = 2 ^ M
/-- Fibonacci's numbers. -/
def fib : Nat → Nat
  | 0 => 0
  | 1 => 1
  | n + 2 => fib n + fib (n + 1)
def wsum (act : List Tr) : Nat := (act.map Tr.w).sum
structure Grow (act : List Tr) (len : Nat → Nat) (m : Nat) : Prop where
  own : ∀ t ∈ act, ∀ i ∈ t.ms, fib (len i + 2) ≤ t.w
  top : ∀ t ∈ act, ∀ i ∈ t.ms, 1 ≤ len i → fib (len i + 1) ≤ m
  low : ∀ t ∈ act, m ≤ t.w ∧ 1 ≤ t.w
def cs (wt : Nat → Nat) (ms : List Nat) (len : Nat → Nat) : Nat := (ms.map fun i => wt i * len i).sum
theorem pick {x : Nat} {ys : List Nat} : ∀ {ps : List (Nat × Nat)}, (ps.map Prod.fst).Perm (x :: ys) → ∃ l ps2, ps.Perm ((x, l) :: ps2) ∧ (ps2.map Prod.fst).Perm ys := by
  intro ps h
  have hx : x ∈ ps.map Prod.fst := h.mem_iff.2 List.mem_cons_self
  obtain ⟨p, hp, rfl⟩ := List.mem_map.1 hx
  have h1 := List.perm_cons_erase hp
  refine ⟨p.2, ps.erase p, h1, ?_⟩
  have h2 := (h1.map Prod.fst).symm.trans h
  exact (List.perm_cons _).1 h2
/-- Each symbol a tree by itself. -/
def leaves (w : List Nat) : List Tr := (List.range w.length).map fun i => ⟨w.getD i 0, i, [i]⟩
/-- The lengths that are made of weights. -/
def HLen (w : List Nat) (L : Nat → Nat) : Prop := HRun (leaves w) w.length (fun _ => 0) L
/-- Each weight becomes its half and one. -/
def half (w : List Nat) : List Nat := w.map fun x => x / 2 + 1
set_option maxRecDepth 100000 in
theorem sum_le (b : Nat) : ∀ l : List Nat, (∀ x ∈ l, x ≤ b) → l.sum ≤ b * l.length
  | [], _ => by simp
  | x :: l, h => by
    have h1 := sum_le b l (fun y hy => h y (List.mem_cons_of_mem _ hy))
    have h2 := h x List.mem_cons_self
    rw [List.sum_cons, List.length_cons, Nat.mul_succ]
    omega
/-- The lengths that Make tells, of weights that have no nought. -/
inductive MakeR : List Nat → Nat → (Nat → Nat) → Prop
  | done {w : List Nat} {most : Nat} {L : Nat → Nat} (h : HLen w L) (hm : ∀ i, i < w.length → L i ≤ most) : MakeR w most L
  | again {w : List Nat} {most : Nat} {L L2 : Nat → Nat} (h : HLen w L) (hm : ∃ i, i < w.length ∧ most < L i) (k : MakeR (half w) most L2) : MakeR w most L2
/-- How many stand ahead of i: by the greater weight, then by the lesser number. -/
def front (w : List Nat) (i : Nat) : Nat := (List.range w.length).countP fun j => decide (w.getD i 0 < w.getD j 0 ∨ (w.getD j 0 = w.getD i 0 ∧ j < i))
set_option maxRecDepth 100000 in
theorem countP_lt {l : List Nat} {p q : Nat → Bool} (h : ∀ x ∈ l, p x = true → q x = true) {y : Nat} (hy : y ∈ l) (hq : q y = true) (hp : p y = false) : l.countP p < l.countP q := by
  induction l with
  | nil => exact absurd hy List.not_mem_nil
  | cons x l ih =>
    rw [List.countP_cons, List.countP_cons]
    rcases List.mem_cons.1 hy with rfl | hy
    · rw [hq, hp]
      have := List.countP_mono_left (l := l) (p := p) (q := q) fun x hx => h x (List.mem_cons_of_mem _ hx)
      simp
      omega
    · have h1 := ih (fun x hx => h x (List.mem_cons_of_mem _ hx)) hy
      have h2 := h x List.mem_cons_self
      by_cases e : p x = true
      · rw [e, h2 e]
        simp
        omega
      · have e2 : p x = false := by simpa using e
        rw [e2]
        have h4 : (if false = true then 1 else 0) = 0 := if_neg (by simp)
        rw [h4]
        split <;> omega
theorem front_lt (w : List Nat) {i j : Nat} (hi : i < w.length) (h : w.getD j 0 < w.getD i 0 ∨ (w.getD i 0 = w.getD j 0 ∧ i < j)) : front w i < front w j := by
  unfold front
  refine countP_lt (fun x _ hx => ?_) (List.mem_range.2 hi) (y := i) ?_ ?_
  · have hx := of_decide_eq_true hx
    exact decide_eq_true (by omega)
  · exact decide_eq_true (by omega)
  · exact decide_eq_false (by omega)
theorem front_in (w : List Nat) {i : Nat} (hi : i < w.length) : front w i < w.length := by
  have h := countP_lt (l := List.range w.length) (p := fun j => decide (w.getD i 0 < w.getD j 0 ∨ (w.getD j 0 = w.getD i 0 ∧ j < i))) (q := fun _ => true) (fun _ _ _ => rfl) (List.mem_range.2 hi) rfl (decide_eq_false (by omega))
  have e : (List.range w.length).countP (fun _ => true) = w.length := by
    rw [List.countP_eq_length.2 (fun _ _ => rfl), List.length_range]
  rw [e] at h
  exact h
theorem nodup_le : ∀ (l m : List Nat), l.Nodup → (∀ x ∈ l, x ∈ m) → l.length ≤ m.length
  | [], _, _, _ => Nat.zero_le _
  | x :: l, m, h, hm => by
    have hx := hm x List.mem_cons_self
    rw [List.nodup_cons] at h
    have h1 := nodup_le l (m.erase x) h.2 fun y hy => (List.mem_erase_of_ne (fun e => by subst e; exact h.1 hy)).2 (hm y (List.mem_cons_of_mem _ hy))
    rw [List.length_erase_of_mem hx] at h1
    have h2 := List.length_pos_of_mem hx
    rw [List.length_cons]
    omega
theorem perm_of_nodup (l : List Nat) (n : Nat) (h : l.Nodup) (hlt : ∀ x ∈ l, x < n) (hlen : l.length = n) : l.Perm (List.range n) := by
  refine (List.perm_ext_iff_of_nodup h List.nodup_range).2 fun x => ?_
  rw [List.mem_range]
  constructor
  · exact hlt x
  · intro hx
    by_cases e : x ∈ l
    · exact e
    · exfalso
      have h1 := nodup_le l ((List.range n).erase x) h fun y hy => (List.mem_erase_of_ne (fun e2 => by subst e2; exact e hy)).2 (List.mem_range.2 (hlt y hy))
      rw [List.length_erase_of_mem (List.mem_range.2 hx), List.length_range] at h1
      omega
set_option maxRecDepth 100000 in
theorem front_perm (w : List Nat) : ((List.range w.length).map (front w)).Perm (List.range w.length) := by
  have hnd : ((List.range w.length).map (front w)).Nodup := by
    rw [List.nodup_iff_pairwise_ne, List.pairwise_map]
    refine List.Pairwise.imp_of_mem ?_ List.nodup_range
    intro a b ha hb hab e
    have ha := List.mem_range.1 ha
    have hb := List.mem_range.1 hb
    rcases Nat.lt_trichotomy (w.getD a 0) (w.getD b 0) with h | h | h
    · have := front_lt w (i := b) (j := a) hb (.inl h)
      omega
    · rcases Nat.lt_or_gt_of_ne hab with h2 | h2
      · have := front_lt w (i := a) (j := b) ha (.inr ⟨h, h2⟩)
        omega
      · have := front_lt w (i := b) (j := a) hb (.inr ⟨h.symm, h2⟩)
        omega
    · have := front_lt w (i := a) (j := b) ha (.inl h)
      omega
  exact perm_of_nodup _ _ hnd (fun x hx => by
    obtain ⟨i, hi, rfl⟩ := List.mem_map.1 hx
    exact front_in w (List.mem_range.1 hi)) (by rw [List.length_map, List.length_range])
/-- Flat lengths: k for those with few in front, k + 1 for the others. -/
def flatLen (k c : Nat) (w : List Nat) (i : Nat) : Nat := if c ≤ front w i then k + 1 else k
end Go.Proofs.Ytmgmgmbpldboiaa
namespace Go.Proofs.Ytmgmgmbpldboiaa

/-- From a tree up: d times the tree that it is in. -/
inductive Up (ov : Nat → Nat) : Nat → Nat → Nat → Prop
  | here (i : Nat) : Up ov i i 0
  | next {i j d : Nat} (h : Up ov i j d) (h0 : ov j ≠ 0) : Up ov i (ov j) (d + 1)
theorem Up.keep {ov ov2 : Nat → Nat} {i j d : Nat} (h : Up ov i j d) (hk : ∀ x, ov x ≠ 0 → ov2 x = ov x) : Up ov2 i j d := by
  induction h with
  | here => exact .here _
  | next h h0 ih =>
    rename_i j0 d0
    have := hk j0 h0
    rw [← this]
    exact .next ih (by rw [this]; exact h0)
/-- The way up is one: whoever is d times up. -/
theorem Up.one {ov : Nat → Nat} {i j d : Nat} (h : Up ov i j d) : ∀ {j2 : Nat}, Up ov i j2 d → j = j2 := by
  induction h with
  | here =>
    intro j2 k
    cases k
    rfl
  | next h h0 ih =>
    intro j2 k
    cases k with
    | next k k0 => rw [ih k]
set_option maxRecDepth 100000 in
/-- Two roots above one tree are one, equally far up. -/
theorem Up.root {ov : Nat → Nat} {i j d : Nat} (h : Up ov i j d) (hj : ov j = 0) : ∀ {j2 d2 : Nat}, Up ov i j2 d2 → d2 ≤ d := by
  intro j2 d2 k
  induction k with
  | here => exact Nat.zero_le _
  | next k k0 ih =>
    rename_i j3 d3
    rcases Nat.lt_or_ge d3 d with h1 | h1
    · exact h1
    · exfalso
      have e : d3 = d := by omega
      subst e
      rw [h.one k] at hj
      exact k0 hj
/-- n leaves; k trees, of weights ws, each in the tree ov; those that are in none: act; so far the lengths len. -/
structure Grown (n : Nat) (w : List Nat) (k : Nat) (ws ov : Nat → Nat) (act : List Tr) (len : Nat → Nat) : Prop where
  ge : n ≤ k
  pos : 0 < n
  nodup : (act.map Tr.n).Nodup
  root : ∀ t ∈ act, t.n < k ∧ ov t.n = 0 ∧ t.w = ws t.n ∧ ∀ i ∈ t.ms, Up ov i t.n (len i)
  all : ∀ j, j < k → ov j = 0 → ∃ t ∈ act, t.n = j
  par : ∀ j, ov j ≠ 0 → j < ov j ∧ ov j < k
  ms : (act.flatMap Tr.ms).Perm (List.range n)
  count : act.length + k = 2 * n
  run : ∀ L, HRun act k len L → HLen w L
  sum : wsum act = w.sum

end Go.Proofs.Ytmgmgmbpldboiaa
namespace Go.Proofs.Ytmgmgmbpldboiaa
open Go.RowKit

/-- Weights may be. -/
def MayW (L : List Int) : Prop := 2 ≤ L.length ∧ L.length ≤ 258 ∧ ∀ x ∈ L, 0 ≤ x ∧ x ≤ 1073741824
instance (L : List Int) : Decidable (MayW L) := inferInstanceAs (Decidable (_ ∧ _))
theorem take_snoc_int (L : List Int) (q : Nat) (h : q < L.length) : L.take (q + 1) = L.take q ++ [L.getD q 0] := by
  rw [List.take_succ_eq_append_getElem h, List.getD_eq_getElem?_getD, List.getElem?_eq_getElem h]
  rfl
theorem getD_mem_int (L : List Int) (q : Nat) (h : q < L.length) : L.getD q 0 ∈ L := by
  rw [List.getD_eq_getElem?_getD, List.getElem?_eq_getElem h]
  exact List.getElem_mem h

end Go.Proofs.Ytmgmgmbpldboiaa
namespace Go.Proofs.Ytmgmgmbpldboiaa
open Go.RowKit

/-- The numbers of a row, by their places. -/
def rowF (n : Nat) (f : Nat → Nat) : List Value := (List.range n).map fun j => iv (f j)
set_option maxRecDepth 100000 in
theorem rowF_length (n : Nat) (f : Nat → Nat) : (rowF n f).length = n := by simp [rowF]
theorem rowF_get (n : Nat) (f : Nat → Nat) (i : Nat) (h : i < n) : (rowF n f)[i]? = some (iv (f i)) := by
  unfold rowF
  rw [List.getElem?_map, List.getElem?_range h]
  rfl
theorem rowF_set (n : Nat) (f : Nat → Nat) (i v : Nat) : (rowF n f).set i (iv v) = rowF n fun j => if j = i then v else f j := by
  apply List.ext_getElem?
  intro j
  by_cases hj : j < n
  · rw [rowF_get n _ j hj]
    by_cases e : i = j
    · subst e
      rw [List.getElem?_set_self (by rw [rowF_length]; exact hj), if_pos rfl]
    · rw [List.getElem?_set_ne e, rowF_get n f j hj, if_neg (fun h => e h.symm)]
  · rw [List.getElem?_eq_none (by rw [List.length_set, rowF_length]; omega), List.getElem?_eq_none (by rw [rowF_length]; omega)]
theorem rowF_same (n : Nat) (f g : Nat → Nat) (h : ∀ j, j < n → f j = g j) : rowF n f = rowF n g := by
  unfold rowF
  refine List.map_congr_left fun j hj => ?_
  rw [h j (List.mem_range.1 hj)]
theorem rowF_list (L : List Nat) : L.map iv = rowF L.length fun j => L.getD j 0 := by
  apply List.ext_getElem?
  intro j
  by_cases hj : j < L.length
  · rw [rowF_get _ _ j hj, List.getElem?_map, List.getElem?_eq_getElem hj, List.getD_eq_getElem?_getD, List.getElem?_eq_getElem hj]
    rfl
  · rw [List.getElem?_eq_none (by rw [List.length_map]; omega), List.getElem?_eq_none (by rw [rowF_length]; omega)]

/-- A row of n numbers that is the call's own, at block g. -/
def FRow (w : World) (B g c n : Nat) (f : Nat → Nat) : Prop := w.ownsRow B 3 1 (.slice (some ⟨g, 0, none⟩) n c) n (rowF n f)
theorem FRow.cell {w : World} {B g c n : Nat} {f : Nat → Nat} (h : FRow w B g c n f) (i : Nat) (hi : i < n) : w.cell? ⟨g, i, none⟩ = some (.int .i64 (f i : Nat)) := by
  rw [World.ownsRow.cellAt h i (by omega), rowF_get n f i hi]
  rfl
theorem FRow.frozen {w : World} {B g c n : Nat} {f : Nat → Nat} (h : FRow w B g c n f) (i : Nat) : w.frozen? ⟨g, i, none⟩ = false := World.ownsRow.frozenAt h i
theorem FRow.set {w : World} {B g c n : Nat} {f : Nat → Nat} (h : FRow w B g c n f) (i v : Nat) : FRow (w.setCell ⟨g, i, none⟩ (.int .i64 v)) B g c n fun j => if j = i then v else f j := by
  have := (World.ownsRow.stored h i (iv v)).1
  rw [rowF_set] at this
  exact this
set_option maxRecDepth 100000 in
theorem FRow.other {w : World} {B g c n : Nat} {f : Nat → Nat} (h : FRow w B g c n f) {g2 : Nat} (hne : g2 ≠ g) (i : Nat) (v : Value) : FRow (w.setCell ⟨g2, i, none⟩ v) B g c n f := by
  refine World.ownsRow.kept (row := some g2) h ⟨rfl, rfl, rfl, by simp, fun k _ hk => heap_setCell_other w ⟨g2, i, none⟩ k v (fun e => hk (by simp [e]))⟩ (.inr ?_)
  intro e
  exact hne (by simpa [Value.ownBlock] using e.symm)
theorem FRow.grown {w w' : World} {B g c n : Nat} {f : Nat → Nat} (h : FRow w B g c n f) {row : Option Nat} (hg : w.grownBy w' row) (hne : some g ≠ row) : FRow w' B g c n f :=
  World.ownsRow.kept h hg (.inr hne)
theorem FRow.lt {w : World} {B g c n : Nat} {f : Nat → Nat} (h : FRow w B g c n f) : B ≤ g ∧ g < w.heap.size := World.ownsRow.lt h g rfl
theorem FRow.drew {w : World} {B g c n : Nat} {f : Nat → Nat} (h : FRow w B g c n f) (m : Nat) : FRow (w.drewN m) B g c n f := h
theorem FRow.alloc {w : World} {B g c n : Nat} {f : Nat → Nat} (h : FRow w B g c n f) (o : Obj) : FRow (w.alloc o) B g c n f := World.ownsRow.alloc h o
theorem FRow.ints {w : World} {B g c n : Nat} {f : Nat → Nat} (h : FRow w B g c n f) : IntsIn w (some ⟨g, 0, none⟩) n ((List.range n).map f) := by
  refine ints_of_own (B := B) (cap := c) ?_
  rw [List.map_map]
  exact h
set_option maxRecDepth 100000 in
theorem FRow.below {w w' : World} {B C g c n : Nat} {f : Nat → Nat} (h : FRow w B g c n f) (hb : Below C w w') (hg : g < C) : FRow w' B g c n f := by
  rcases h.2 with ⟨h', _⟩ | ⟨g', cap', cur, h', hB, hgg, rest⟩
  · simp at h'
  · simp only [Value.slice.injEq, Option.some.injEq, Addr.mk.injEq, and_true, true_and] at h'
    obtain ⟨rfl, rfl⟩ := h'
    exact ⟨h.1, .inr ⟨g, c, cur, rfl, hB, (hb.block g hg).trans hgg, rest⟩⟩
theorem range_getD (n : Nat) (f : Nat → Nat) (j : Nat) (h : j < n) : ((List.range n).map f).getD j 0 = f j := by
  rw [List.getD_eq_getElem?_getD, List.getElem?_map, List.getElem?_range h]
  rfl
set_option maxRecDepth 100000 in
/-- A row of noughts that is made. -/
theorem made_noughts (w : World) (B n : Nat) (hB : B ≤ w.heap.size) (hn : n ≤ 1000000) : FRow (w.alloc (.cells (madeCells #[.int .i64 0] n) 3)) B w.heap.size n n fun _ => 0 := by
  refine ⟨by rw [rowF_length, Nat.mul_one], .inr ⟨w.heap.size, n, _, rfl, hB, heap_alloc_new w _, Nat.le_refl _, by unfold maxLen; omega, by rw [size_madeCells, Nat.mul_one], ?_⟩⟩
  rw [toList_madeCells_one, Nat.mul_one, List.take_of_length_le (by simp)]
  unfold rowF
  rw [List.map_const', List.length_range]
  rfl
theorem make_noughts (w : World) (n : Nat) (hn : n ≤ 1000000) : (Instr.makeSlice 30 (.int .i64 n) (.int .i64 n)).run Try.prog w = .ok (.slice (some ⟨w.heap.size, 0, none⟩) n n) (w.alloc (.cells (madeCells #[.int .i64 0] n) 3)) := by
  obtain ⟨i3, h3, hz0, hz1, hz2⟩ := info_parts Try.info3
  have h := run_make (P := Try.prog) w 30 3 i3 (.int .i64 0) Try.underlying30 h3 hz0 .i64 .i64 (n : Int) (n : Int) (by omega) (by omega) (by rw [hz2]; omega) (by omega)
  rw [hz1, Int.toNat_natCast, Nat.mul_one] at h
  exact h
end Go.Proofs.Ytmgmgmbpldboiaa
namespace Go.Proofs.Ytmgmgmbpldboiaa
open Go.RowKit

end Go.Proofs.Ytmgmgmbpldboiaa
namespace Go.Proofs.Ytmgmgmbpldboiaa
open Go.RowKit

theorem ints_of_zin {w : World} {A : Option Addr} {m : Nat} {L : List Int} (h : ZIn w A m L) (hv : ∀ x ∈ L, 0 ≤ x) : IntsIn w A m (L.map Int.toNat) := by
  refine ⟨by rw [List.length_map]; exact h.1, fun hm => ?_⟩
  obtain ⟨b, off, rfl, hc⟩ := h.2 hm
  refine ⟨b, off, rfl, fun i hi => ?_⟩
  have hiL : i < L.length := by rw [h.1]; exact hi
  rw [hc i hi, List.getD_eq_getElem?_getD, List.getD_eq_getElem?_getD, List.getElem?_map, List.getElem?_eq_getElem (by rw [h.1]; exact hi)]
  have h0 := hv (L[i]'hiL) (List.getElem_mem _)
  show some (Value.int .i64 (L[i]'hiL)) = some (.int .i64 (((L[i]'hiL).toNat : Nat) : Int))
  rw [Int.toNat_of_nonneg h0]
/-- Weights, 0 as 1. -/
def oneF (L : List Int) (j : Nat) : Nat := max (L.getD j 0).toNat 1
def oneL (L : List Int) : List Nat := (List.range L.length).map (oneF L)
end Go.Proofs.Ytmgmgmbpldboiaa
