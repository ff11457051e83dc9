/- What memory holds: a block known whole; and what a call may have turned. No conditions. -/
import Derived.Test.YtccfjabmmecbkaaDoorM
import Derived.Test.YtccfjabmmecbkaaDoorRows
import Derived.WalkKit
import Derived.WalkLawsBesides
import Derived.WalkSpells
import Derived.Below
import Derived.Maps.AppendAt
import Derived.Deep.Draws
import Derived.LoopTactic
import Derived.Deep.LoopGhost
import Derived.Lib.Hide
import Derived.Outline
import Derived.RegionTactic
import Derived.BigRegion
import Derived.BigQuiet
import Derived.Deep.QuietTactic
import Derived.Deep.DeepFit
import Derived.OwnWalk
import Derived.Laws.AppendOwn
import Derived.IntWalk
import Derived.Deep.DeepCutAuto
import Derived.Deep.RegionHeld3
import Derived.StillTailTactics
import Derived.Laws.BitsAllLaws
import Derived.Laws.IdiomStrings
import Derived.Laws.BytesArg
import Derived.Laws.StructEq
import Derived.Deep.AppendLies
namespace Go.Proofs.YtccfjabmmecbkaaDoor
open Go.RowKit

/-- Block g holds just the cells cs, none of them frozen. -/
def Blk (w : World) (g : Nat) (t : TypeId) (cs : Array Value) : Prop := w.heap[g]? = some (.cells cs t (0, 0))

theorem blk_lt {w : World} {g : Nat} {t : TypeId} {cs : Array Value} (h : Blk w g t cs) : g < w.heap.size := (Array.getElem?_eq_some_iff.1 h).1
theorem blk_cell {w : World} {g : Nat} {t : TypeId} {cs : Array Value} (h : Blk w g t cs) (i : Nat) : w.cell? ⟨g, i, none⟩ = cs[i]? := cell_of_row w g i cs t (0, 0) h
theorem blk_frozen {w : World} {g : Nat} {t : TypeId} {cs : Array Value} (h : Blk w g t cs) (i : Nat) : w.frozen? ⟨g, i, none⟩ = false := frozen_of_row w g i cs t h
theorem blk_new (w : World) (t : TypeId) (cs : Array Value) : Blk (w.alloc (.cells cs t)) w.heap.size t cs := heap_alloc_new w _
theorem blk_set {w : World} {g : Nat} {t : TypeId} {cs : Array Value} (h : Blk w g t cs) (i : Nat) (u : Value) : Blk (w.setCell ⟨g, i, none⟩ u) g t (cs.setIfInBounds i u) := heap_setCell_same w g i cs t u h

/-- From w to w': below B, and outside the blocks ps and the blocks of the types ts, nothing has turned. -/
structure Step (B : Nat) (ps : List Nat) (ts : List TypeId) (w w' : World) : Prop where
  below : Below B w w'
  keep : ∀ k cs t fr, w.heap[k]? = some (.cells cs t fr) → k ∉ ps → t ∉ ts → w'.heap[k]? = some (.cells cs t fr)

section
variable {B : Nat} {ps : List Nat} {ts : List TypeId} {w w' w'' : World}
theorem Step.refl (B : Nat) (ps : List Nat) (ts : List TypeId) (w : World) : Step B ps ts w w := ⟨Below.refl _ _, fun _ _ _ _ h _ _ => h⟩
theorem Step.trans (h : Step B ps ts w w') (k : Step B ps ts w' w'') : Step B ps ts w w'' :=
  ⟨h.below.trans k.below, fun i cs t fr hh hp ht => k.keep i cs t fr (h.keep i cs t fr hh hp ht) hp ht⟩
theorem Step.mono {B' : Nat} {ps' : List Nat} {ts' : List TypeId} (h : Step B ps ts w w') (hB : B' ≤ B) (hp : ∀ k ∈ ps, k ∈ ps') (ht : ∀ t ∈ ts, t ∈ ts') : Step B' ps' ts' w w' :=
  ⟨h.below.mono hB, fun i cs t fr hh hp' ht' => h.keep i cs t fr hh (fun x => hp' (hp _ x)) (fun x => ht' (ht _ x))⟩
/-- A second step that writes besides only what is new since the first one began. -/
theorem Step.after {B' : Nat} {ps' : List Nat} {ts' : List TypeId} (h : Step B ps ts w w') (k : Step B' ps' ts' w' w'') (hB : B ≤ B') (hp : ∀ i ∈ ps', i ∈ ps ∨ w.heap.size ≤ i) (ht : ∀ t ∈ ts', t ∈ ts) : Step B ps ts w w'' :=
  ⟨h.below.trans (k.below.mono hB), fun i cs t fr hh hi ht' => k.keep i cs t fr (h.keep i cs t fr hh hi ht')
    (fun e => (hp i e).elim hi (fun g => by have := (Array.getElem?_eq_some_iff.1 hh).1; omega)) (fun e => ht' (ht t e))⟩
theorem Step.size (h : Step B ps ts w w') : w.heap.size ≤ w'.heap.size := h.below.size
theorem Step.drew (h : Step B ps ts w w') : Step B ps ts w w'.drew := ⟨h.below.drew, h.keep⟩
theorem Step.drewN (h : Step B ps ts w w') (n : Nat) : Step B ps ts w (w'.drewN n) := ⟨⟨h.below.os, h.below.tape, h.below.output, h.below.size, h.below.block⟩, h.keep⟩
theorem Step.alloc (h : Step B ps ts w w') (hB : B ≤ w'.heap.size) (o : Obj) : Step B ps ts w (w'.alloc o) :=
  ⟨h.below.alloc hB o, fun i cs t fr hh hp ht => by
    have := h.keep i cs t fr hh hp ht
    exact (Below.heap_alloc w' o i (Array.getElem?_eq_some_iff.1 this).1).trans this⟩
theorem Step.set (h : Step B ps ts w w') {p : Addr} (hB : B ≤ p.block) (hp : p.block ∈ ps) (u : Value) : Step B ps ts w (w'.setCell p u) :=
  ⟨h.below.setCell hB u, fun i cs t fr hh hi ht => by
    rw [Below.heap_setCell w' p u i (fun e => hi (e ▸ hp))]
    exact h.keep i cs t fr hh hi ht⟩
/-- A store into a block of a type that may be written. -/
theorem Step.setT (h : Step B ps ts w w') {p : Addr} (hB : B ≤ p.block) {cs : Array Value} {t : TypeId} {fr : Nat × Nat} (hb : w'.heap[p.block]? = some (.cells cs t fr)) (hp : t ∈ ts) (u : Value) : Step B ps ts w (w'.setCell p u) :=
  ⟨h.below.setCell hB u, fun i cs' t' fr' hh hi ht => by
    have hk := h.keep i cs' t' fr' hh hi ht
    by_cases e : i = p.block
    · subst e
      rw [hb] at hk
      injection hk with hk
      injection hk with _ h2
      exact absurd (h2 ▸ hp) ht
    · rw [Below.heap_setCell w' p u i e]
      exact hk⟩
/-- An append to a row of a type that may be written. -/
theorem Step.grown (h : Step B ps ts w w') {row : Option Nat} (hg : w'.grownBy w'' row) (hB : B ≤ w'.heap.size)
    (hr : ∀ k, row = some k → B ≤ k ∧ ∃ cs t fr, w'.heap[k]? = some (.cells cs t fr) ∧ t ∈ ts) : Step B ps ts w w'' :=
  ⟨h.below.grown hg hB (fun k hk => (hr k hk).1), fun i cs t fr hh hi ht => by
    have hk := h.keep i cs t fr hh hi ht
    rw [hg.block i (Array.getElem?_eq_some_iff.1 hk).1 ?_]
    · exact hk
    · intro e
      obtain ⟨_, cs', t', fr', hb, ht'⟩ := hr i e.symm
      rw [hb] at hk
      injection hk with hk
      injection hk with _ h2
      exact ht (h2 ▸ ht')⟩
theorem Step.blk (h : Step B ps ts w w') {g : Nat} {t : TypeId} {cs : Array Value} (hb : Blk w g t cs) (hp : g ∉ ps) (ht : t ∉ ts) : Blk w' g t cs := h.keep _ _ _ _ hb hp ht
set_option maxRecDepth 100000 in
theorem Step.row (h : Step B ps ts w w') {base : Nat} {t : TypeId} {size n : Nat} {v : Value} {xs : List Value} (hr : w.ownsRow base t size v n xs) (hp : ∀ k, v.ownBlock = some k → k ∉ ps) (ht : t ∉ ts) : w'.ownsRow base t size v n xs := by
  refine ⟨hr.1, ?_⟩
  rcases hr.2 with h1 | ⟨g, cap, cur, hv, hg, hh, rest⟩
  · exact .inl h1
  · exact .inr ⟨g, cap, cur, hv, hg, h.keep _ _ _ _ hh (hp g (by rw [hv]; rfl)) ht, rest⟩
end

set_option maxRecDepth 100000 in
theorem row_blk {w : World} {base : Nat} {e : TypeId} {size n : Nat} {v : Value} {xs : List Value} (h : w.ownsRow base e size v n xs) :
    ∀ k, v.ownBlock = some k → base ≤ k ∧ ∃ cs t fr, w.heap[k]? = some (.cells cs t fr) ∧ t ∈ [e] := by
  intro k hk
  rcases h.2 with ⟨rfl, _⟩ | ⟨g, cap, cur, rfl, hb, hg, _⟩
  · simp [Value.ownBlock] at hk
  · simp [Value.ownBlock] at hk
    subst hk
    exact ⟨hb, cur, e, (0, 0), hg, by simp⟩

set_option maxRecDepth 100000 in
/-- Two rows, or a row and a block, of unlike types lie apart. -/
theorem row_ne {w : World} {base : Nat} {e t : TypeId} {size n g : Nat} {v : Value} {xs : List Value} {cs : Array Value} (h : w.ownsRow base e size v n xs) (hg : Blk w g t cs) (hne : e ≠ t) : ∀ k, v.ownBlock = some k → k ≠ g := by
  intro k hk he
  obtain ⟨_, cs', t', fr', hb, ht⟩ := row_blk h k hk
  subst he
  unfold Blk at hg
  rw [hg] at hb
  injection hb with hb
  injection hb with _ h2
  simp at ht
  exact hne (by rw [← ht, ← h2])
/-- A byte as a cell. -/
def bv (c : UInt8) : Value := .int .u8 c.toNat

set_option maxRecDepth 100000 in
theorem Tryd.info5 : (Tryd.prog.info? 5).map (fun i => (i.zero, i.size, i.bytes)) = some (some (.int .u8 0), 1, 1) := by kernel_rfl
set_option maxRecDepth 100000 in
theorem Tryd.info3 : (Tryd.prog.info? 3).map (fun i => (i.zero, i.size, i.bytes)) = some (some (.int .i64 0), 1, 8) := by kernel_rfl

theorem step_of_below {w w' : World} (h : Below w.heap.size w w') : Step w.heap.size [] [] w w' :=
  ⟨h, fun k _ _ _ hh _ _ => (h.block k (Array.getElem?_eq_some_iff.1 hh).1).trans hh⟩

theorem below_drewN {B : Nat} {a w : World} (h : Below B a w) (k : Nat) : Below B a (w.drewN k) := ⟨h.os, h.tape, h.output, h.size, h.block⟩

set_option maxRecDepth 100000 in
theorem two_new (w : World) (a b : Value) (t : TypeId) : ∀ (j : Nat) (u : Value), [a, b][j]? = some u → (w.alloc (.cells #[a, b] t)).cell? ((⟨w.heap.size, 0, none⟩ : Addr).add j) = some u := by
  intro j u hu
  rw [Addr.add_lit, blk_cell (blk_new w t #[a, b])]
  simpa using hu

set_option maxRecDepth 100000 in
theorem own_slice {w : World} {B : Nat} {e : TypeId} {size n : Nat} {v : Value} {xs : List Value} (h : w.ownsRow B e size v n xs) : ∃ A cap, v = .slice A n cap ∧ n ≤ cap ∧ cap ≤ maxLen ∧ (0 < n → ∃ g, A = some ⟨g, 0, none⟩) := by
  rcases h.2 with ⟨rfl, rfl⟩ | ⟨g, cap, cur, rfl, _, _, hn, hm, _⟩
  · exact ⟨none, 0, rfl, Nat.le_refl _, by unfold maxLen; omega, fun h => by omega⟩
  · exact ⟨some ⟨g, 0, none⟩, cap, rfl, hn, hm, fun _ => ⟨g, rfl⟩⟩

end Go.Proofs.YtccfjabmmecbkaaDoor
