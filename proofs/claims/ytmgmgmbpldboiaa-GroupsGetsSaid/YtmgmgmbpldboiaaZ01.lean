/- S I L Nb: texts laid together, what is not used left out. -/
import Derived.Test.YtmgmgmbpldboiaaZ00
import Derived.Test.YtmgmgmbpldboiaaRows
import Derived.WalkKit
import Derived.WalkLawsBesides
import Derived.WalkSpells
import Derived.Below
import Derived.Maps.AppendAt
import Derived.Deep.Draws
import Derived.LoopTactic
import Derived.Deep.LoopGhost
import Derived.Lib.Hide
import Derived.Outline
import Derived.RegionTactic
import Derived.BigRegion
import Derived.BigQuiet
import Derived.Deep.QuietTactic
import Derived.Deep.DeepFit
import Derived.OwnWalk
import Derived.Laws.AppendOwn
import Derived.IntWalk
import Derived.Deep.DeepCutAuto
import Derived.Deep.RegionHeld3
import Derived.StillTailTactics
import Derived.Laws.BitsAllLaws
import Derived.Laws.IdiomStrings
import Derived.Laws.BytesArg
import Derived.Laws.StructEq
import Derived.Deep.AppendLies
import Derived.ProofKit
import Derived.OpenShut
import Derived.Carry
import Derived.ChangeMaps5
import Derived.ChangeSlices
namespace Go.Proofs.Ytmgmgmbpldboiaa
open Go.RowKit

/-- Block g holds just the cells cs, none of them frozen. -/
def Blk (w : World) (g : Nat) (t : TypeId) (cs : Array Value) : Prop := w.heap[g]? = some (.cells cs t (0, 0))

theorem blk_lt {w : World} {g : Nat} {t : TypeId} {cs : Array Value} (h : Blk w g t cs) : g < w.heap.size := (Array.getElem?_eq_some_iff.1 h).1
theorem blk_cell {w : World} {g : Nat} {t : TypeId} {cs : Array Value} (h : Blk w g t cs) (i : Nat) : w.cell? ⟨g, i, none⟩ = cs[i]? := cell_of_row w g i cs t (0, 0) h
theorem blk_frozen {w : World} {g : Nat} {t : TypeId} {cs : Array Value} (h : Blk w g t cs) (i : Nat) : w.frozen? ⟨g, i, none⟩ = false := frozen_of_row w g i cs t h
theorem blk_new (w : World) (t : TypeId) (cs : Array Value) : Blk (w.alloc (.cells cs t)) w.heap.size t cs := heap_alloc_new w _
theorem blk_set {w : World} {g : Nat} {t : TypeId} {cs : Array Value} (h : Blk w g t cs) (i : Nat) (u : Value) : Blk (w.setCell ⟨g, i, none⟩ u) g t (cs.setIfInBounds i u) := heap_setCell_same w g i cs t u h

/-- From w to w': below B, and outside the blocks ps and the blocks of the types ts, nothing has turned. -/
structure Step (B : Nat) (ps : List Nat) (ts : List TypeId) (w w' : World) : Prop where
  below : Below B w w'
  keep : ∀ k cs t fr, w.heap[k]? = some (.cells cs t fr) → k ∉ ps → t ∉ ts → w'.heap[k]? = some (.cells cs t fr)

section
variable {B : Nat} {ps : List Nat} {ts : List TypeId} {w w' w'' : World}
theorem Step.refl (B : Nat) (ps : List Nat) (ts : List TypeId) (w : World) : Step B ps ts w w := ⟨Below.refl _ _, fun _ _ _ _ h _ _ => h⟩
theorem Step.trans (h : Step B ps ts w w') (k : Step B ps ts w' w'') : Step B ps ts w w'' :=
  ⟨h.below.trans k.below, fun i cs t fr hh hp ht => k.keep i cs t fr (h.keep i cs t fr hh hp ht) hp ht⟩
theorem Step.mono {B' : Nat} {ps' : List Nat} {ts' : List TypeId} (h : Step B ps ts w w') (hB : B' ≤ B) (hp : ∀ k ∈ ps, k ∈ ps') (ht : ∀ t ∈ ts, t ∈ ts') : Step B' ps' ts' w w' :=
  ⟨h.below.mono hB, fun i cs t fr hh hp' ht' => h.keep i cs t fr hh (fun x => hp' (hp _ x)) (fun x => ht' (ht _ x))⟩
/-- A second step that writes besides only what is new since the first one began. -/
theorem Step.after {B' : Nat} {ps' : List Nat} {ts' : List TypeId} (h : Step B ps ts w w') (k : Step B' ps' ts' w' w'') (hB : B ≤ B') (hp : ∀ i ∈ ps', i ∈ ps ∨ w.heap.size ≤ i) (ht : ∀ t ∈ ts', t ∈ ts) : Step B ps ts w w'' :=
  ⟨h.below.trans (k.below.mono hB), fun i cs t fr hh hi ht' => k.keep i cs t fr (h.keep i cs t fr hh hi ht')
    (fun e => (hp i e).elim hi (fun g => by have := (Array.getElem?_eq_some_iff.1 hh).1; omega)) (fun e => ht' (ht t e))⟩
theorem Step.size (h : Step B ps ts w w') : w.heap.size ≤ w'.heap.size := h.below.size
theorem Step.drew (h : Step B ps ts w w') : Step B ps ts w w'.drew := ⟨h.below.drew, h.keep⟩
theorem Step.drewN (h : Step B ps ts w w') (n : Nat) : Step B ps ts w (w'.drewN n) := ⟨⟨h.below.os, h.below.tape, h.below.output, h.below.size, h.below.block⟩, h.keep⟩
theorem Step.alloc (h : Step B ps ts w w') (hB : B ≤ w'.heap.size) (o : Obj) : Step B ps ts w (w'.alloc o) :=
  ⟨h.below.alloc hB o, fun i cs t fr hh hp ht => by
    have := h.keep i cs t fr hh hp ht
    exact (Below.heap_alloc w' o i (Array.getElem?_eq_some_iff.1 this).1).trans this⟩
theorem Step.set (h : Step B ps ts w w') {p : Addr} (hB : B ≤ p.block) (hp : p.block ∈ ps) (u : Value) : Step B ps ts w (w'.setCell p u) :=
  ⟨h.below.setCell hB u, fun i cs t fr hh hi ht => by
    rw [Below.heap_setCell w' p u i (fun e => hi (e ▸ hp))]
    exact h.keep i cs t fr hh hi ht⟩
/-- A store into a block of a type that may be written. -/
theorem Step.setT (h : Step B ps ts w w') {p : Addr} (hB : B ≤ p.block) {cs : Array Value} {t : TypeId} {fr : Nat × Nat} (hb : w'.heap[p.block]? = some (.cells cs t fr)) (hp : t ∈ ts) (u : Value) : Step B ps ts w (w'.setCell p u) :=
  ⟨h.below.setCell hB u, fun i cs' t' fr' hh hi ht => by
    have hk := h.keep i cs' t' fr' hh hi ht
    by_cases e : i = p.block
    · subst e
      rw [hb] at hk
      injection hk with hk
      injection hk with _ h2
      exact absurd (h2 ▸ hp) ht
    · rw [Below.heap_setCell w' p u i e]
      exact hk⟩
/-- An append to a row of a type that may be written. -/
theorem Step.grown (h : Step B ps ts w w') {row : Option Nat} (hg : w'.grownBy w'' row) (hB : B ≤ w'.heap.size)
    (hr : ∀ k, row = some k → B ≤ k ∧ ∃ cs t fr, w'.heap[k]? = some (.cells cs t fr) ∧ t ∈ ts) : Step B ps ts w w'' :=
  ⟨h.below.grown hg hB (fun k hk => (hr k hk).1), fun i cs t fr hh hi ht => by
    have hk := h.keep i cs t fr hh hi ht
    rw [hg.block i (Array.getElem?_eq_some_iff.1 hk).1 ?_]
    · exact hk
    · intro e
      obtain ⟨_, cs', t', fr', hb, ht'⟩ := hr i e.symm
      rw [hb] at hk
      injection hk with hk
      injection hk with _ h2
      exact ht (h2 ▸ ht')⟩
theorem Step.blk (h : Step B ps ts w w') {g : Nat} {t : TypeId} {cs : Array Value} (hb : Blk w g t cs) (hp : g ∉ ps) (ht : t ∉ ts) : Blk w' g t cs := h.keep _ _ _ _ hb hp ht
set_option maxRecDepth 100000 in
theorem Step.row (h : Step B ps ts w w') {base : Nat} {t : TypeId} {size n : Nat} {v : Value} {xs : List Value} (hr : w.ownsRow base t size v n xs) (hp : ∀ k, v.ownBlock = some k → k ∉ ps) (ht : t ∉ ts) : w'.ownsRow base t size v n xs := by
  refine ⟨hr.1, ?_⟩
  rcases hr.2 with h1 | ⟨g, cap, cur, hv, hg, hh, rest⟩
  · exact .inl h1
  · exact .inr ⟨g, cap, cur, hv, hg, h.keep _ _ _ _ hh (hp g (by rw [hv]; rfl)) ht, rest⟩
end

set_option maxRecDepth 100000 in
theorem row_blk {w : World} {base : Nat} {e : TypeId} {size n : Nat} {v : Value} {xs : List Value} (h : w.ownsRow base e size v n xs) :
    ∀ k, v.ownBlock = some k → base ≤ k ∧ ∃ cs t fr, w.heap[k]? = some (.cells cs t fr) ∧ t ∈ [e] := by
  intro k hk
  rcases h.2 with ⟨rfl, _⟩ | ⟨g, cap, cur, rfl, hb, hg, _⟩
  · simp [Value.ownBlock] at hk
  · simp [Value.ownBlock] at hk
    subst hk
    exact ⟨hb, cur, e, (0, 0), hg, by simp⟩

set_option maxRecDepth 100000 in
/-- Two rows, or a row and a block, of unlike types lie apart. -/
theorem row_ne {w : World} {base : Nat} {e t : TypeId} {size n g : Nat} {v : Value} {xs : List Value} {cs : Array Value} (h : w.ownsRow base e size v n xs) (hg : Blk w g t cs) (hne : e ≠ t) : ∀ k, v.ownBlock = some k → k ≠ g := by
  intro k hk he
  obtain ⟨_, cs', t', fr', hb, ht⟩ := row_blk h k hk
  subst he
  unfold Blk at hg
  rw [hg] at hb
  injection hb with hb
  injection hb with _ h2
  simp at ht
  exact hne (by rw [← ht, ← h2])
/-- A byte as a cell. -/
def bv (c : UInt8) : Value := .int .u8 c.toNat

theorem Try.info5 : (Try.prog.info? 5).map (fun i => (i.zero, i.size, i.bytes)) = some (some (.int .u8 0), 1, 1) := by kernel_rfl
theorem Try.info3 : (Try.prog.info? 3).map (fun i => (i.zero, i.size, i.bytes)) = some (some (.int .i64 0), 1, 8) := by kernel_rfl

theorem step_of_below {w w' : World} (h : Below w.heap.size w w') : Step w.heap.size [] [] w w' :=
  ⟨h, fun k _ _ _ hh _ _ => (h.block k (Array.getElem?_eq_some_iff.1 hh).1).trans hh⟩

theorem below_drewN {B : Nat} {a w : World} (h : Below B a w) (k : Nat) : Below B a (w.drewN k) := ⟨h.os, h.tape, h.output, h.size, h.block⟩

set_option maxRecDepth 100000 in
theorem two_new (w : World) (a b : Value) (t : TypeId) : ∀ (j : Nat) (u : Value), [a, b][j]? = some u → (w.alloc (.cells #[a, b] t)).cell? ((⟨w.heap.size, 0, none⟩ : Addr).add j) = some u := by
  intro j u hu
  rw [Addr.add_lit, blk_cell (blk_new w t #[a, b])]
  simpa using hu

set_option maxRecDepth 100000 in
theorem own_slice {w : World} {B : Nat} {e : TypeId} {size n : Nat} {v : Value} {xs : List Value} (h : w.ownsRow B e size v n xs) : ∃ A cap, v = .slice A n cap ∧ n ≤ cap ∧ cap ≤ maxLen ∧ (0 < n → ∃ g, A = some ⟨g, 0, none⟩) := by
  rcases h.2 with ⟨rfl, rfl⟩ | ⟨g, cap, cur, rfl, _, _, hn, hm, _⟩
  · exact ⟨none, 0, rfl, Nat.le_refl _, by unfold maxLen; omega, fun h => by omega⟩
  · exact ⟨some ⟨g, 0, none⟩, cap, rfl, hn, hm, fun _ => ⟨g, rfl⟩⟩

end Go.Proofs.Ytmgmgmbpldboiaa
namespace Go.Proofs.Ytmgmgmbpldboiaa
open Go.RowKit

def iv (b : Nat) : Value := .int .i64 b

/-- The slice '.slice A n c' of ints holds the numbers L. -/
def IntsIn (w : World) (A : Option Addr) (n : Nat) (L : List Nat) : Prop :=
  L.length = n ∧ (0 < n → ∃ b off, A = some ⟨b, off, none⟩ ∧ ∀ i, i < n → w.cell? ⟨b, off + i, none⟩ = some (.int .i64 (L.getD i 0)))

set_option maxRecDepth 100000 in
theorem IntsIn.nil {w : World} {A : Option Addr} {n k a : Nat} {L : List Nat} (h : IntsIn w A n L) (hk : k = 0) (_hak : a + k ≤ n) : IntsIn w A k ((L.drop a).take k) := by
  have := h.1
  subst hk
  exact ⟨by simp, fun h => by omega⟩

theorem IntsIn.cut {w : World} {A : Option Addr} {n k a : Nat} {L : List Nat} (h : IntsIn w A n L) (hak : a + k ≤ n) : IntsIn w (Option.map (fun x => x.add a) A) k ((L.drop a).take k) := by
  refine ⟨by rw [List.length_take, List.length_drop, h.1]; omega, fun hk => ?_⟩
  obtain ⟨b, off, rfl, hc⟩ := h.2 (by omega)
  refine ⟨b, off + a, by rw [Option.map_some, Addr.add_lit], fun i hi => ?_⟩
  rw [Nat.add_assoc, hc (a + i) (by omega), List.getD_eq_getElem?_getD, List.getD_eq_getElem?_getD, List.getElem?_take, if_pos hi, List.getElem?_drop]

theorem IntsIn.front {w : World} {A : Option Addr} {n : Nat} {L : List Nat} (h : IntsIn w A n L) (k : Nat) (hk : k ≤ n) : IntsIn w A k (L.take k) := by
  refine ⟨by rw [List.length_take, h.1]; omega, fun h0 => ?_⟩
  obtain ⟨b, off, hA, hc⟩ := h.2 (by omega)
  refine ⟨b, off, hA, fun i hi => ?_⟩
  rw [hc i (by omega), List.getD_eq_getElem?_getD, List.getD_eq_getElem?_getD, List.getElem?_take, if_pos hi]

set_option maxRecDepth 100000 in
theorem ints_of_own {w : World} {B n cap : Nat} {A : Option Addr} {L : List Nat} (h : w.ownsRow B 3 1 (.slice A n cap) n (L.map iv)) : IntsIn w A n L := by
  have hl := h.1
  rw [List.length_map, Nat.mul_one] at hl
  refine ⟨hl, fun hn => ?_⟩
  obtain ⟨A', cap', hv, _, _, hg⟩ := own_slice h
  simp only [Value.slice.injEq] at hv
  obtain ⟨rfl, _, rfl⟩ := hv
  obtain ⟨g, rfl⟩ := hg hn
  refine ⟨g, 0, rfl, fun i hi => ?_⟩
  rw [Nat.zero_add, h.cellAt i (by omega), List.getElem?_map, List.getD_eq_getElem?_getD, List.getElem?_eq_getElem (by omega)]
  rfl

set_option maxRecDepth 100000 in
theorem append_ints (w : World) (B : Nat) (v : Value) (n : Nat) (xs : List Value) (hown : w.ownsRow B 3 1 v n xs) (A : Option Addr) (k c : Nat) (L : List Nat) (hi : IntsIn w A k L) (hnk : n + k ≤ 1000000000) (hB : B ≤ w.heap.size) :
    ∃ v' w', (Builtin.append_ #[30, 30] 30 #[v, .slice A k c]).run Try.prog w = .ok v' w' ∧ w'.ownsRow B 3 1 v' (n + k) (xs ++ L.map iv) ∧ w.grownBy w' v.ownBlock := by
  obtain ⟨i3, h3, hz0, hz1, hz2⟩ := info_parts Try.info3
  have hl := hi.1
  rcases A with _ | ad
  · have hk : k = 0 := by
      rcases Nat.eq_zero_or_pos k with h0 | h0
      · exact h0
      · obtain ⟨b, off, h, _⟩ := hi.2 h0
        cases h
    subst hk
    have hL : L = [] := List.eq_nil_of_length_eq_zero hl
    subst hL
    refine ⟨v, w, ?_, by simpa using hown, ⟨rfl, rfl, rfl, Nat.le_refl _, fun _ _ _ => rfl⟩⟩
    rcases hown.2 with ⟨rfl, rfl⟩ | ⟨g, cap, cur, rfl, _, _, hnc, _⟩
    · simp [Builtin.append_, run_underlying Try.underlying30, sizeOf, typeInfo, h3, Builtin.lenOf, Builtin.firstCells]
    · simp [Builtin.append_, run_underlying Try.underlying30, sizeOf, typeInfo, h3, Builtin.lenOf, Builtin.firstCells, hnc, storeCells]
  · have hnews : ∀ j u, (L.map iv)[j]? = some u → w.cell? (ad.add j) = some u := by
      intro j u hu
      have hjk : j < k := by
        have := (List.getElem?_eq_some_iff.1 hu).1
        rw [List.length_map] at this
        omega
      obtain ⟨b, off, he, hc⟩ := hi.2 (by omega)
      injection he with he
      subst he
      rw [Addr.add_lit, hc j hjk, ← hu, List.getElem?_map, List.getD_eq_getElem?_getD, List.getElem?_eq_getElem (by omega)]
      rfl
    obtain ⟨v', w', h1, h2, h4, _⟩ := run_append_own (P := Try.prog) w B 30 30 3 i3 (.int .i64 0) 1 8 Try.underlying30 h3 hz0 hz1 hz2 rfl (by decide) v n xs hown ad k c (L.map iv) (by rw [List.length_map, hl, Nat.mul_one]) hnews
      (fun u hu => by obtain ⟨q, _, rfl⟩ := List.mem_map.1 hu; rfl) (by unfold maxLen; omega) (by omega) hB
    exact ⟨v', w', h1, h2, h4⟩

set_option maxRecDepth 100000 in
theorem bit_lt (l : List Nat) (i : Nat) (hb : Bit01 l) : l.getD i 0 < 2 := by
  rw [List.getD_eq_getElem?_getD]
  rcases h : l[i]? with _ | b
  · simp
  · exact hb b (List.mem_of_getElem? h)

theorem bit_and (c e : Nat) (hc : c < 256) : bits .and .i64 ((c : Int) / 2 ^ e) 1 = ((c / 2 ^ e % 2 : Nat) : Int) := by
  have h1 : ((c : Int) / 2 ^ e) = ((c / 2 ^ e : Nat) : Int) := by rw [Int.natCast_ediv, Int.natCast_pow]; rfl
  have hlt : c / 2 ^ e < 256 := Nat.lt_of_le_of_lt (Nat.div_le_self _ _) hc
  rw [h1]
  generalize c / 2 ^ e = d at *
  show IntKind.i64.wrap ((BitVec.ofInt 64 (d : Int) &&& BitVec.ofInt 64 1).toNat : Int) = _
  rw [BitVec.toNat_and, BitVec.ofInt_natCast, BitVec.toNat_ofNat, Nat.mod_eq_of_lt (show d < 2 ^ 64 by omega), show (BitVec.ofInt 64 1).toNat = 1 from rfl, nat_mask1, IntKind.wrap_i64]
  omega

end Go.Proofs.Ytmgmgmbpldboiaa
namespace Go.Proofs.Ytmgmgmbpldboiaa
open Go.ChangeShapes Go.WideShapes Go.ChangeAt Go.RowKit

theorem own : ownKnob Try.prog.godebug = none := by kernel_rfl
theorem laid_out : laidOutB Try.prog = true := by kernel_rfl

set_option maxRecDepth 100000 in
theorem args_stay {H : Type} {enc : TypeId × Value → H} {W W' : World} (hb : Below W.heap.size W W') : ∀ {ts : List TypeId} {vs : List Value} {ds : List (DataW H)} {ps : List MemPlace},
    (∀ t ∈ ts, Try.prog.readableRec t = true ∧ t < Try.prog.types.size) → (∀ x ∈ ps, x.block < W.heap.size) →
    DataW.TrodAll enc Try.prog W 0 (fun _ => true) true ts vs ds ps → DataW.TrodAll enc Try.prog W' 0 (fun b => decide (b < W.heap.size)) true ts vs ds ps
  | [], _, _, _, _, _, h => by
    obtain ⟨rfl, rfl, rfl⟩ := trodAll_nil h
    exact trodAll_mk0
  | t :: ts, _, _, _, ht, hlt, h => by
    obtain ⟨v, vs, d, ds, p, q, rfl, rfl, rfl, h1, h2⟩ := trodAll_cons h
    exact trodAll_cons_mk (Below.trod laid_out (ht t (by simp)).1 (ht t (by simp)).2 h1 hb (fun x hx => hlt x (by simp [hx])))
      (args_stay hb (fun t' h' => ht t' (by simp [h'])) (fun x hx => hlt x (by simp [hx])) h2)

set_option maxRecDepth 100000 in
theorem law_done {H : Type} {enc : TypeId × Value → H} {f : Func} {s : ChangeSpec} {W W' : World} {args : Array Value} {ds : List (DataW H)} {before : List MemPlace}
    (hW : DataW.Whole enc Try.prog f.params.toList s.vars false W args.toList ds [] before) (hs : s.vars = []) (hb : Below W.heap.size W W')
    (hp : f.params.toList.all (fun t => Try.prog.readableRec t && decide (t < Try.prog.types.size)) = true) (hr : f.resultTypes = #[4])
    (hfn : s.fn H (ds ++ []) = { results := [.lit (.bool true)], args := ds }) : s.post enc Try.prog f false true false false W args (.bool true) W' := by
  have hlt := hW.lt
  have hW' := hW
  obtain ⟨p, q, hA, hV, rfl, _, _⟩ := hW
  rw [hs] at hV
  obtain ⟨_, rfl⟩ := trodVars_none hV
  rw [List.append_nil] at hlt hW'
  refine ⟨ds, [], p, [], p, [], hW', ?_, ?_, ?_, hb.frame _, fun h => by cases h⟩
  · rw [hfn, hr]
    exact trodAll_cons_mk (shut_bool Try.underlying4 _) trodAll_mk0
  · rw [hfn]
    exact args_stay hb (fun t ht => by simpa using List.all_eq_true.1 hp t ht) hlt hA
  · rw [hs, hfn]
    rfl

end Go.Proofs.Ytmgmgmbpldboiaa
namespace Go.Proofs.Ytmgmgmbpldboiaa
open Go.RowKit

set_option maxRecDepth 100000 in
theorem cell_one (w : World) (v : Value) (t : TypeId) : ∀ (j : Nat) (u : Value), [v][j]? = some u → (w.alloc (.cells #[v] t)).cell? ((⟨w.heap.size, 0, none⟩ : Addr).add j) = some u := by
  intro j u hu
  have hj : j = 0 := by
    have := (List.getElem?_eq_some_iff.1 hu).1
    simp at this
    exact this
  subst hj
  simp at hu
  subst hu
  rw [Addr.add_lit, blk_cell (blk_new w t _)]
  rfl

/-- A slice of whole numbers that is read. -/
def ZIn (w : World) (A : Option Addr) (n : Nat) (L : List Int) : Prop :=
  L.length = n ∧ (0 < n → ∃ b off, A = some ⟨b, off, none⟩ ∧ ∀ i, i < n → w.cell? ⟨b, off + i, none⟩ = some (.int .i64 (L.getD i 0)))
theorem ZIn.below {w w' : World} {A : Option Addr} {n : Nat} {L : List Int} (h : ZIn w A n L) (hb : Below w.heap.size w w') : ZIn w' A n L := by
  refine ⟨h.1, fun hn => ?_⟩
  obtain ⟨b, off, rfl, hc⟩ := h.2 hn
  exact ⟨b, off, rfl, fun i hi => (hb.cell (p := ⟨b, off + i, none⟩) (World.block_lt_of_cell? w _ (hc i hi))).trans (hc i hi)⟩

theorem ints_low {w w' : World} {A : Option Addr} {n : Nat} {L : List Nat} (h : IntsIn w A n L) (hb : Below w.heap.size w w') : IntsIn w' A n L := by
  refine ⟨h.1, fun hn => ?_⟩
  obtain ⟨b, off, rfl, hc⟩ := h.2 hn
  refine ⟨b, off, rfl, fun i hi => ?_⟩
  exact (hb.cell (p := ⟨b, off + i, none⟩) (World.block_lt_of_cell? w _ (hc i hi))).trans (hc i hi)

theorem zin_of {w : World} {A : Option Addr} {n : Nat} {L : List Nat} (h : IntsIn w A n L) : ZIn w A n (L.map fun (x : Nat) => (x : Int)) := by
  refine ⟨by rw [List.length_map]; exact h.1, fun hn => ?_⟩
  obtain ⟨b, off, rfl, hc⟩ := h.2 hn
  refine ⟨b, off, rfl, fun i hi => ?_⟩
  rw [hc i hi, List.getD_eq_getElem?_getD, List.getD_eq_getElem?_getD, List.getElem?_map, List.getElem?_eq_getElem (by rw [h.1]; exact hi)]
  rfl

set_option maxRecDepth 100000 in
theorem addr_of_cell {w : World} {a : Addr} {v : Value} (h : w.cell? a = some v) : a = ⟨a.block, a.off, none⟩ := by
  unfold World.cell? at h
  split at h
  · split at h
    · cases h
    · rename_i hs
      cases a with
      | mk b o s =>
        cases s with
        | none => rfl
        | some s => simp at hs
  · cases h

set_option maxRecDepth 100000 in
open Go.ChangeShapes Go.WideShapes Go.ChangeAt in
theorem open_zs {H : Type} {enc : TypeId × Value → H} {W : World} {A : Option Addr} {n c : Nat} {d : DataW H} {ps : List MemPlace}
    (h : DataW.Trod enc Try.prog W 0 (fun _ => true) true 30 (.slice A n c) d ps) : ∃ L, ZIn W A n L ∧ n ≤ c ∧ n ≤ maxLen := by
  obtain ⟨fuel, h⟩ := h
  rcases open_ints Try.underlying30 Try.underlying3 (by kernel_rfl) h with ⟨hc, _⟩ | ⟨a, len, cap, zs, hcs, _, hl, hm, hz, hx, hcell, hwf⟩
  · simp [Value.cells] at hc
    obtain ⟨rfl, rfl, rfl⟩ := hc
    exact ⟨[], ⟨rfl, fun h => by omega⟩, Nat.le_refl _, Nat.zero_le _⟩
  · simp [Value.cells] at hcs
    obtain ⟨rfl, rfl, rfl⟩ := hcs
    simp only [if_true] at hz
    refine ⟨zs.take n, ⟨by rw [List.length_take]; omega, fun hn => ?_⟩, by omega, by omega⟩
    have h0 := hcell 0 (by omega)
    rw [Addr.add_zero'] at h0
    have ha := addr_of_cell h0
    refine ⟨a.block, a.off, by rw [← ha], fun i hi => ?_⟩
    have h1 := hcell i (by omega)
    rw [ha, Addr.add_lit] at h1
    rw [h1, List.getD_eq_getElem?_getD, List.getD_eq_getElem?_getD, List.getElem?_take_of_lt hi]

end Go.Proofs.Ytmgmgmbpldboiaa
