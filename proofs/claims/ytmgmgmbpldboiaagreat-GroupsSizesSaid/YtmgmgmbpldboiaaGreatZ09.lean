/- Ug: texts laid together, what is not used left out. -/
import Derived.Test.YtmgmgmbpldboiaaGreatZ08
namespace Go.Proofs.YtmgmgmbpldboiaaGreat
open Go.RowKit

/-- A table with what stands at each place. -/
structure TabF (w : World) (B g n : Nat) (C : Nat → List Nat) (F : Nat → Value) : Prop where
  own : w.ownsRow B 22 1 (.slice (some ⟨g, 0, none⟩) n n) n ((List.range n).map F)
  rows : ∀ j, j < n → (∃ A k, F j = .slice A (C j).length k ∧ (C j).length ≤ k) ∧ w.ownsRow B 3 1 (F j) (C j).length ((C j).map iv) ∧ ∀ b, (F j).ownBlock = some b → b < w.heap.size ∧ b ≠ g
theorem TabF.tabW {w : World} {B g n : Nat} {C : Nat → List Nat} {F : Nat → Value} (h : TabF w B g n C F) : TabW w B g n C := by
  refine ⟨F, h.own, fun j hj => ?_⟩
  obtain ⟨⟨A, k, a, b⟩, c, _⟩ := h.rows j hj
  exact ⟨A, k, a, b, c⟩
theorem grows_start {w w2 : World} {B g n t : Nat} {C : Nat → List Nat} {F : Nat → Value} (h : TabF w2 B g n C F) (ht : F t = .slice none 0 0) (hb : Below w.heap.size w w2) : Grows w w2 w2 B g n t 0 F [] := by
  refine ⟨⟨none, 0, World.ownsRow_nil _ _ _ _, ?_⟩, fun _ _ _ => rfl, hb, Nat.le_refl _⟩
  have e : (fun j => if j = t then Value.slice none 0 0 else F j) = F := by
    funext j
    by_cases e : j = t
    · rw [if_pos e, e, ht]
    · rw [if_neg e]
  rw [e]
  exact h.own
set_option maxRecDepth 100000 in
theorem grows_tabF {w w2 wx : World} {B g n t s : Nat} {F : Nat → Value} {C : Nat → List Nat} {x : List Nat} (hB : B ≤ w2.heap.size) (hF : TabF w2 B g n C F) (h : Grows w w2 wx B g n t s F x) (hx : x.length = s) :
    ∃ v, TabF wx B g n (fun j => if j = t then x else C j) fun j => if j = t then v else F j := by
  have hW := grows_end hB hF.rows h hx
  obtain ⟨A, cap, h1, h2⟩ := h.row
  refine ⟨.slice A s cap, h2, fun j hj => ?_⟩
  obtain ⟨A3, c3, e3, hc3, _⟩ := own_slice h1
  simp only [Value.slice.injEq] at e3
  obtain ⟨rfl, _, rfl⟩ := e3
  by_cases e : j = t
  · refine ⟨⟨A, cap, ?_, ?_⟩, ?_, ?_⟩
    · simp only [if_pos e, hx]
    · simp only [if_pos e]
      omega
    · simp only [if_pos e, hx]
      exact World.ownsRow.mono h1 hB
    · simp only [if_pos e]
      intro b hb
      refine ⟨(World.ownsRow.lt h1 b hb).2, fun eb => ?_⟩
      obtain ⟨c1, f1, e1⟩ := Lib.ownsRow_kind h1 b hb
      obtain ⟨c2, f2, e2⟩ := Lib.ownsRow_kind h2 g rfl
      rw [eb, e2] at e1
      simp at e1
  · obtain ⟨⟨A2, k2, a, b⟩, c, d⟩ := hF.rows j hj
    refine ⟨⟨A2, k2, ?_, ?_⟩, ?_, ?_⟩
    · simp only [if_neg e]
      exact a
    · simp only [if_neg e]
      exact b
    · simp only [if_neg e]
      refine ⟨c.1, ?_⟩
      rcases c.2 with h3 | ⟨g3, cap3, cur, hv, hg, hh, rest⟩
      · exact .inl h3
      · have h5 := d g3 (by rw [hv]; rfl)
        exact .inr ⟨g3, cap3, cur, hv, hg, (h.keep g3 h5.1 h5.2).trans hh, rest⟩
    · simp only [if_neg e]
      intro b hb
      have := d b hb
      have hz := h.size
      exact ⟨by omega, this.2⟩
set_option maxRecDepth 100000 in
theorem make_tab (w : World) (n : Nat) (hn : n ≤ 1000) : (Instr.makeSlice 24 (.int .i64 n) (.int .i64 n)).run Tryz.prog w = .ok (.slice (some ⟨w.heap.size, 0, none⟩) n n) (w.alloc (.cells (madeCells #[.slice none 0 0] n) 22)) := by
  obtain ⟨i2, h2, hi2⟩ := Option.map_eq_some_iff.1 infoSl
  simp only [Prod.mk.injEq] at hi2
  obtain ⟨hz0, hz1, hz2⟩ := hi2
  have h := run_make (P := Tryz.prog) w 24 22 i2 (.slice none 0 0) Tryz.underlying24 h2 hz0 .i64 .i64 (n : Int) (n : Int) (by omega) (by omega) (by rw [hz2]; omega) (by omega)
  rw [hz1, Int.toNat_natCast, Nat.mul_one] at h
  exact h
set_option maxRecDepth 100000 in
theorem tabF_new (w : World) (B n : Nat) (hB : B ≤ w.heap.size) (hn : n ≤ 1000) : TabF (w.alloc (.cells (madeCells #[.slice none 0 0] n) 22)) B w.heap.size n (fun _ => []) fun _ => .slice none 0 0 := by
  refine ⟨⟨by simp, .inr ⟨w.heap.size, n, _, rfl, hB, heap_alloc_new w _, Nat.le_refl _, by unfold maxLen; omega, by rw [size_madeCells, Nat.mul_one], ?_⟩⟩, fun j _ => ⟨⟨none, 0, rfl, Nat.le_refl _⟩, World.ownsRow_nil _ _ _ _, fun b hb => by simp [Value.ownBlock] at hb⟩⟩
  rw [toList_madeCells_one, Nat.mul_one, List.take_of_length_le (by simp), List.map_const', List.length_range]

/-- The row of a table at first. -/
def startR (m T t s : Nat) : Nat := if s * T / m = t then 1 else 15
/-- A table no row of which lies in block b. -/
def TabX (w : World) (B g n : Nat) (C : Nat → List Nat) (b : Nat) : Prop := ∃ F : Nat → Value, w.ownsRow B 22 1 (.slice (some ⟨g, 0, none⟩) n n) n ((List.range n).map F) ∧
  ∀ j, j < n → ∃ A k, F j = .slice A (C j).length k ∧ (C j).length ≤ k ∧ w.ownsRow B 3 1 (F j) (C j).length ((C j).map iv) ∧ (F j).ownBlock ≠ some b
theorem TabX.tabW {w : World} {B g n b : Nat} {C : Nat → List Nat} (h : TabX w B g n C b) : TabW w B g n C := by
  obtain ⟨F, h1, h2⟩ := h
  refine ⟨F, h1, fun j hj => ?_⟩
  obtain ⟨A, k, x, y, z, _⟩ := h2 j hj
  exact ⟨A, k, x, y, z⟩
theorem TabF.tabX {w : World} {B g n : Nat} {C : Nat → List Nat} {F : Nat → Value} (h : TabF w B g n C F) {b : Nat} (hb : w.heap.size ≤ b) : TabX w B g n C b := by
  refine ⟨F, h.own, fun j hj => ?_⟩
  obtain ⟨⟨A, k, x, y⟩, c, d⟩ := h.rows j hj
  refine ⟨A, k, x, y, c, fun e => ?_⟩
  have := (d b e).1
  omega
theorem TabX.same {w : World} {B g n b : Nat} {C D : Nat → List Nat} (h : TabX w B g n C b) (hs : ∀ j, j < n → C j = D j) : TabX w B g n D b := by
  obtain ⟨F, h1, h2⟩ := h
  refine ⟨F, h1, fun j hj => ?_⟩
  rw [← hs j hj]
  exact h2 j hj
theorem TabX.step {w w' : World} {B B' g n b : Nat} {C : Nat → List Nat} (h : TabX w B g n C b) (hs : Step B' [] [] w w') : TabX w' B g n C b := by
  obtain ⟨F, h1, h2⟩ := h
  refine ⟨F, hs.row h1 (fun _ _ => List.not_mem_nil) List.not_mem_nil, fun j hj => ?_⟩
  obtain ⟨A, k, x, y, z, u⟩ := h2 j hj
  exact ⟨A, k, x, y, hs.row z (fun _ _ => List.not_mem_nil) List.not_mem_nil, u⟩
set_option maxRecDepth 100000 in
/-- A store into block b, which is a row of ints. -/
theorem TabX.other {w : World} {B g n b B2 m c : Nat} {f C} (h : TabX w B g n C b) (hb : FRow w B2 b c m f) (i : Nat) (v : Value) : TabX (w.setCell ⟨b, i, none⟩ v) B g n C b := by
  obtain ⟨F, h1, h2⟩ := h
  have hgb : b ≠ g := by
    intro e
    obtain ⟨c1, f1, e1⟩ := Lib.ownsRow_kind hb b rfl
    obtain ⟨c2, f2, e2⟩ := Lib.ownsRow_kind h1 g rfl
    rw [e, e2] at e1
    simp at e1
  have hs : Step 0 [b] [] w (w.setCell ⟨b, i, none⟩ v) := (Step.refl 0 [b] [] w).set (p := ⟨b, i, none⟩) (Nat.zero_le _) (by simp) v
  refine ⟨F, hs.row h1 (fun k hk => ?_) List.not_mem_nil, fun j hj => ?_⟩
  · simp [Value.ownBlock] at hk
    simp
    omega
  · obtain ⟨A, k, x, y, z, u⟩ := h2 j hj
    refine ⟨A, k, x, y, hs.row z (fun k2 hk2 => ?_) List.not_mem_nil, u⟩
    rw [List.mem_singleton]
    intro e
    exact u (by rw [hk2, e])
set_option maxRecDepth 100000 in
/-- A row is laid into the table. -/
theorem TabX.set {w : World} {B g n b : Nat} {C : Nat → List Nat} (h : TabX w B g n C b) (i : Nat) {A : Option Addr} {k : Nat} {L : List Nat} (hL : w.ownsRow B 3 1 (.slice A L.length k) L.length (L.map iv)) (hk : L.length ≤ k) (hb : (Value.slice A L.length k).ownBlock ≠ some b) :
    TabX (w.setCell ⟨g, i, none⟩ (.slice A L.length k)) B g n (fun j => if j = i then L else C j) b := by
  obtain ⟨F, h1, h2⟩ := h
  have hst := World.ownsRow.stored h1 i (.slice A L.length k)
  have hset : ((List.range n).map F).set i (.slice A L.length k) = (List.range n).map fun j => if j = i then (.slice A L.length k) else F j := by
    apply List.ext_getElem?
    intro j
    rw [List.getElem?_set]
    by_cases e : i = j
    · subst e
      by_cases hj : i < n
      · simp [hj]
      · simp [hj]
    · have e' : ¬ j = i := fun k => e k.symm
      rw [if_neg e, List.getElem?_map, List.getElem?_map]
      by_cases hj : j < n
      · rw [List.getElem?_range hj]
        simp [e']
      · rw [List.getElem?_eq_none (by rw [List.length_range]; omega)]
        rfl
  rw [hset] at hst
  have keep : ∀ (v : Value) (m : Nat) (xs : List Value), w.ownsRow B 3 1 v m xs → (w.setCell ⟨g, i, none⟩ (.slice A L.length k)).ownsRow B 3 1 v m xs := by
    intro v m xs hv
    refine hv.kept hst.2 (.inr fun e => ?_)
    obtain ⟨c1, f1, e1⟩ := Lib.ownsRow_kind hv g e
    obtain ⟨c2, f2, e2⟩ := Lib.ownsRow_kind h1 g rfl
    rw [e1] at e2
    simp at e2
  refine ⟨_, hst.1, fun j hj => ?_⟩
  by_cases e : j = i
  · refine ⟨A, k, ?_, ?_, ?_, ?_⟩
    · simp only [if_pos e]
    · simp only [if_pos e]
      exact hk
    · simp only [if_pos e]
      exact keep _ _ _ hL
    · simp only [if_pos e]
      exact hb
  · obtain ⟨A2, k2, x, y, z, u⟩ := h2 j hj
    refine ⟨A2, k2, ?_, ?_, ?_, ?_⟩
    · simp only [if_neg e]
      exact x
    · simp only [if_neg e]
      exact y
    · simp only [if_neg e]
      exact keep _ _ _ z
    · simp only [if_neg e]
      exact u
set_option maxRecDepth 100000 in
theorem FRow.keep {w : World} {B B2 g n b c m : Nat} {C : Nat → List Nat} {f : Nat → Nat} (hb : FRow w B2 b c m f) (h : TabX w B g n C b) (i : Nat) (v : Value) : FRow (w.setCell ⟨g, i, none⟩ v) B2 b c m f := by
  obtain ⟨F, h1, _⟩ := h
  refine hb.other (fun e => ?_) i v
  obtain ⟨c1, f1, e1⟩ := Lib.ownsRow_kind hb b rfl
  obtain ⟨c2, f2, e2⟩ := Lib.ownsRow_kind h1 g rfl
  rw [← e, e2] at e1
  simp at e1

end Go.Proofs.YtmgmgmbpldboiaaGreat
