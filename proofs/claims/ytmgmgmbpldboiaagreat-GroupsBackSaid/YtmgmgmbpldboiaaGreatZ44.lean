/- Ag: texts laid together, what is not used left out. -/
import Derived.Test.YtmgmgmbpldboiaaGreatLx
import Derived.Test.YtmgmgmbpldboiaaGreatZ43
import Derived.Shelf.SlSortCmp.WholeK
namespace Go.Proofs.YtmgmgmbpldboiaaGreat
open Go.RowKit

/-- A tree's two cells. -/
def encN (x : Nat × Nat) : List Value := [.int .i64 x.1, .int .i64 x.2]
/-- Block g is a row of trees that begins with T. -/
def TRow (w : World) (g : Nat) (T : List (Nat × Nat)) : Prop :=
  ∃ cs, Blk w g 111 cs ∧ ∀ i, i < T.length → cs[i * 2]? = some (.int .i64 (T.getD i (0, 0)).1) ∧ cs[i * 2 + 1]? = some (.int .i64 (T.getD i (0, 0)).2)
theorem TRow.cell0 {w : World} {g : Nat} {T : List (Nat × Nat)} (h : TRow w g T) {i : Nat} (hi : i < T.length) : w.cell? ⟨g, i * 2, none⟩ = some (.int .i64 (T.getD i (0, 0)).1) := by
  obtain ⟨cs, hb, hc⟩ := h
  rw [blk_cell hb, (hc i hi).1]
theorem TRow.cell1 {w : World} {g : Nat} {T : List (Nat × Nat)} (h : TRow w g T) {i : Nat} (hi : i < T.length) : w.cell? ⟨g, i * 2 + 1, none⟩ = some (.int .i64 (T.getD i (0, 0)).2) := by
  obtain ⟨cs, hb, hc⟩ := h
  rw [blk_cell hb, (hc i hi).2]
theorem TRow.frozen {w : World} {g : Nat} {T : List (Nat × Nat)} (h : TRow w g T) (i : Nat) : w.frozen? ⟨g, i, none⟩ = false := by
  obtain ⟨cs, hb, hc⟩ := h
  exact blk_frozen hb i
theorem TRow.lt {w : World} {g : Nat} {T : List (Nat × Nat)} (h : TRow w g T) : g < w.heap.size := by
  obtain ⟨cs, hb, hc⟩ := h
  exact blk_lt hb
set_option maxRecDepth 100000 in
theorem Step.trow {B : Nat} {ps : List Nat} {w w' : World} (h : Step B ps [] w w') {g : Nat} {T : List (Nat × Nat)} (hr : TRow w g T) (hp : g ∉ ps) : TRow w' g T := by
  obtain ⟨cs, hb, hc⟩ := hr
  exact ⟨cs, h.blk hb hp (by simp), hc⟩

set_option maxRecDepth 100000 in
theorem getB (T : List (Nat × Nat)) (i : Nat) (h : i < T.length) : T.toArray[i]! = T.getD i (0, 0) := by
  rw [List.getD_eq_getElem?_getD, List.getElem?_eq_getElem h]
  simp [h]
set_option maxRecDepth 100000 in
theorem holds_trow {w : World} {g : Nat} {T : List (Nat × Nat)} (h : TRow w g T) : Go.Sort.HoldsK encN 2 w g 0 T.toArray := by
  intro t ht
  have ht2 : t < T.length * 2 := by simpa using ht
  have hi : t / 2 < T.length := by omega
  refine ⟨?_, h.frozen _⟩
  rw [Go.Sort.get_flatK encN 2 T.toArray t (by simpa using ht2), getB T _ hi, Nat.zero_add]
  by_cases e : t % 2 = 0
  · have h1 := h.cell0 hi
    rw [show t / 2 * 2 = t by omega] at h1
    rw [h1, e]
    rfl
  · have h1 := h.cell1 hi
    rw [show t / 2 * 2 + 1 = t by omega] at h1
    rw [h1, show t % 2 = 1 by omega]
    rfl

set_option maxRecDepth 100000 in
/-- A world that the sort passes through: the row's block is a block still, and all else is as it was. -/
theorem sort_world {w : World} {g : Nat} {T : List (Nat × Nat)} (h : TRow w g T) (n : Nat) (d : Array (Nat × Nat)) (os : Array Obj) (hs : d.size = T.length) (B : Nat) (hB : B ≤ g) :
    TRow (sortWorldK encN 2 w g 0 n d os) g d.toList ∧ Step B [g] [] w (sortWorldK encN 2 w g 0 n d os) := by
  have hlt := h.lt
  have hH := holdsK_sortWorldK_c encN 2 w g 0 T.toArray d n os (holds_trow h) hlt (by simpa using hs)
  have hz := size_sortWorldK_c encN 2 w g 0 n d os
  have hold : ∀ k, k < w.heap.size → k ≠ g → (sortWorldK encN 2 w g 0 n d os).heap[k]? = w.heap[k]? := by
    intro k hk hne
    unfold sortWorldK Go.Sort.putRowK Go.Sort.putRow Go.Sort.mapBlock Go.Sort.grow Go.Sort.ahead
    dsimp only
    rw [Array.getElem?_append_left (by simpa using hk), Array.getElem?_modify, if_neg (fun e => hne e.symm)]
  have hown : ∃ cs', Blk (sortWorldK encN 2 w g 0 n d os) g 111 cs' := by
    obtain ⟨cs, hb, _⟩ := h
    unfold Blk at hb ⊢
    unfold sortWorldK Go.Sort.putRowK Go.Sort.putRow Go.Sort.mapBlock Go.Sort.grow Go.Sort.ahead
    dsimp only
    rw [Array.getElem?_append_left (by simpa using hlt), Array.getElem?_modify, if_pos rfl, hb]
    exact ⟨_, rfl⟩
  refine ⟨?_, ⟨⟨rfl, rfl, rfl, hz, fun k hk => hold k (by omega) (by omega)⟩, fun k cs t fr hh hk _ => (hold k (Array.getElem?_eq_some_iff.1 hh).1 (by simpa using hk)).trans hh⟩⟩
  obtain ⟨cs', hb'⟩ := hown
  refine ⟨cs', hb', fun i hi => ?_⟩
  have hi2 : i < d.size := by simpa using hi
  have e : d[i]! = d.toList.getD i (0, 0) := by
    rw [← getB d.toList i hi]
  have h0 := (Go.Sort.HoldsK.cell hH hi2 (c := 0) (by omega)).1
  have h1 := (Go.Sort.HoldsK.cell hH hi2 (c := 1) (by omega)).1
  rw [blk_cell hb', Nat.zero_add, e] at h0 h1
  exact ⟨h0, h1⟩

set_option maxRecDepth 100000 in
theorem sort_any (cf : Nat × Nat → Nat × Nat → Int) (R : Nat × Nat → Nat × Nat → Prop) (fn : Nat) (eg : ∀ args w, (callFunc fn args).run Tryz.prog w = .ok (.enter fn args) w)
    (hc : ∀ (x y : Nat × Nat) (w : World), Calls Tryz.prog fn #[.agg #[.int .i64 x.1, .int .i64 x.2], .agg #[.int .i64 y.1, .int .i64 y.2]] w fun e w' => e = .returned (.int .i64 (cf x y)) ∧ ∃ q os', w' = Go.Sort.grow (w.drewN q) os')
    (hR : ∀ x y, cf x y < 0 ↔ R x y) (hirr : ∀ x, ¬ R x x) (htr : ∀ x y z, R x y → R y z → R x z) (hnt : ∀ x y z, ¬ R x y → ¬ R y z → ¬ R x z) (htot : ∀ x y, ¬ R x y → x.2 ≠ y.2 → R y x)
    (w : World) (B g c : Nat) (T : List (Nat × Nat)) (h : TRow w g T) (hB : B ≤ g) (hn : T.length ≤ 1000000) (hd : (T.map Prod.snd).Nodup) :
    Calls Tryz.prog 83 #[.slice (some ⟨g, 0, none⟩) T.length c, .func (.func fn) #[] #[]] w fun e w' => e = .returned (.tuple #[]) ∧ ∃ T', T'.Perm T ∧ T'.Pairwise R ∧ TRow w' g T' ∧ Step B [g] [] w w' := by
  have hlt : ∀ x y, ltOf cf x y = true ↔ R x y := fun x y => by
    unfold ltOf
    rw [decide_eq_true_eq]
    exact hR x y
  have hlf : ∀ x y, ltOf cf x y = false ↔ ¬ R x y := fun x y => by rw [← hlt, Bool.not_eq_true]
  have hO : Go.Sort.SWO (ltOf cf) := by
    refine ⟨fun x => (hlf x x).2 (hirr x), fun x y z h1 h2 => (hlt x z).2 (htr x y z ((hlt x y).1 h1) ((hlt y z).1 h2)), fun x y z h1 h2 => (hlf x z).2 (hnt x y z ((hlf x y).1 h1) ((hlf y z).1 h2))⟩
  have hS := AnyQ.slices_SortFunc Tryz.laysSort 2 Tryz.isAgg111 Tryz.sizeOf111 encN (fun _ => rfl) (fun x v hv => by simp [encN] at hv; rcases hv with rfl | rfl <;> rfl) cf hO fn #[] g 0 c T.toArray w eg
    (fun m os dk _ x y => hc x y _) (holds_trow h) h.lt (by simp; omega)
  have hsz : T.toArray.size = T.length := by simp
  rw [hsz] at hS
  refine hS.mono ?_
  rintro e w' ⟨rfl, d', n, os, hp, hs, rfl⟩
  have hds : d'.size = T.length := by rw [hp.1, hsz]
  have hperm : d'.toList.Perm T := by
    have := hp.2.2
    rw [← hds, Array.extract_size, hds, ← hsz, Array.extract_size] at this
    simpa using this
  obtain ⟨h1, h2⟩ := sort_world h n d' os hds B hB
  refine ⟨rfl, d'.toList, hperm, ?_, h1, h2⟩
  have hnd : (d'.toList.map Prod.snd).Nodup := (hperm.map _).nodup_iff.2 hd
  rw [List.pairwise_iff_getElem]
  intro i j hi hj hij
  have hi2 : i < d'.size := by simpa using hi
  have hj2 : j < d'.size := by simpa using hj
  have h3 := hs i j (Nat.zero_le _) hij (by omega)
  have h4 := (hlf _ _).1 h3
  rw [getElem!_pos d' i hi2, getElem!_pos d' j hj2] at h4
  have hne : d'[j].2 ≠ d'[i].2 := by
    intro e
    rw [List.nodup_iff_pairwise_ne, List.pairwise_iff_getElem] at hnd
    have := hnd i j (by simpa using hi) (by simpa using hj) hij
    simp at this
    exact this e.symm
  have h5 := htot _ _ h4 hne
  simpa using h5

theorem cmpI_neg (a b : Int) : cmpI a b < 0 ↔ a < b := by
  unfold cmpI
  by_cases h1 : a < b
  · rw [if_pos h1]; omega
  · by_cases h2 : b < a
    · rw [if_neg h1, if_pos h2]; omega
    · rw [if_neg h1, if_neg h2]; omega
theorem cmpI_zero (a b : Int) : cmpI a b = 0 ↔ a = b := by
  unfold cmpI
  by_cases h1 : a < b
  · rw [if_pos h1]; omega
  · by_cases h2 : b < a
    · rw [if_neg h1, if_pos h2]; omega
    · rw [if_neg h1, if_neg h2]; omega
def riseN (x y : Nat × Nat) : Int := riseI ((x.1 : Int), (x.2 : Int)) ((y.1 : Int), (y.2 : Int))
def fallN (x y : Nat × Nat) : Int := fallI ((x.1 : Int), (x.2 : Int)) ((y.1 : Int), (y.2 : Int))
set_option maxRecDepth 100000 in
theorem rise_fst (x y : Nat × Nat) : riseN x y < 0 ↔ Fst x y := by
  unfold riseN riseI Fst
  dsimp only
  by_cases e : cmpI (x.1 : Int) (y.1 : Int) = 0
  · rw [if_pos e, cmpI_neg]
    have := (cmpI_zero _ _).1 e
    omega
  · rw [if_neg e, cmpI_neg]
    have := mt (cmpI_zero (x.1 : Int) (y.1 : Int)).2 e
    omega
set_option maxRecDepth 100000 in
theorem fall_fall (x y : Nat × Nat) : fallN x y < 0 ↔ Fall x y := by
  unfold fallN fallI Fall
  dsimp only
  by_cases e : cmpI (y.1 : Int) (x.1 : Int) = 0
  · rw [if_pos e, cmpI_neg]
    have := (cmpI_zero _ _).1 e
    omega
  · rw [if_neg e, cmpI_neg]
    have := mt (cmpI_zero (y.1 : Int) (x.1 : Int)).2 e
    omega

theorem sort_rising (w : World) (B g c : Nat) (T : List (Nat × Nat)) (h : TRow w g T) (hB : B ≤ g) (hn : T.length ≤ 1000000) (hd : (T.map Prod.snd).Nodup) :
    Calls Tryz.prog 83 #[.slice (some ⟨g, 0, none⟩) T.length c, .func (.func 151) #[] #[]] w fun e w' => e = .returned (.tuple #[]) ∧ ∃ T', T'.Perm T ∧ T'.Pairwise Fst ∧ TRow w' g T' ∧ Step B [g] [] w w' :=
  sort_any riseN Fst 151 (enters_of Tryz.func151 (by kernel_rfl) rfl) (fun x y w => rising_any _ _ w) rise_fst (fun x => by unfold Fst; omega) (fun x y z => Fst.trans) (fun x y z => by unfold Fst; omega) (fun x y => fst_total) w B g c T h hB hn hd
theorem sort_falling (w : World) (B g c : Nat) (T : List (Nat × Nat)) (h : TRow w g T) (hB : B ≤ g) (hn : T.length ≤ 1000000) (hd : (T.map Prod.snd).Nodup) :
    Calls Tryz.prog 83 #[.slice (some ⟨g, 0, none⟩) T.length c, .func (.func 84) #[] #[]] w fun e w' => e = .returned (.tuple #[]) ∧ ∃ T', T'.Perm T ∧ T'.Pairwise Fall ∧ TRow w' g T' ∧ Step B [g] [] w w' :=
  sort_any fallN Fall 84 (enters_of Tryz.func84 (by kernel_rfl) rfl) (fun x y w => falling_any _ _ w) fall_fall (fun x => by unfold Fall; omega) (fun x y z => by unfold Fall; omega) (fun x y z => by unfold Fall; omega) (fun x y => by unfold Fall; omega) w B g c T h hB hn hd

end Go.Proofs.YtmgmgmbpldboiaaGreat
