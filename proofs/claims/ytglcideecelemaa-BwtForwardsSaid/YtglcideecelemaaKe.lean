/- What is asked of the sort, and what it does to a group: told of slices of at most N numbers. -/
import Derived.Test.YtglcideecelemaaKd
import Derived.Shelf.SlSortCmp.Kit1
namespace Go.Proofs.Ytglcideecelemaa
open Go.RowKit

/-- A number as a cell. -/
def encF {k : Nat} (x : Fin (k + 1)) : Value := .int .i64 (x.val : Nat)
/-- The comparison, by a method value, in every world that the sort passes through. -/
def CmpMv {k : Nat} (r : Value) (cf : Fin (k + 1) → Fin (k + 1) → Int) (blk off size : Nat) (w : World) : Prop :=
  ∀ (W : World) (dk : Array (Fin (k + 1))), dk.size = size → SW encF w blk off dk W → ∀ x y, Calls Try.prog 30 #[r, encF x, encF y] W fun e w' => e = .returned (.int .i64 (cf x y)) ∧ W = w'
/-- The sort puts at most N numbers in order. -/
def SortOk (N : Nat) : Prop :=
  ∀ (k : Nat) (r : Value) (cf : Fin (k + 1) → Fin (k + 1) → Int) (blk off cap : Nat) (d : Array (Fin (k + 1))) (w : World),
    Go.Sort.SWO (ltOf cf) → CmpMv r cf blk off d.size w → Go.Sort.Holds encF w blk off d → blk < w.heap.size → 0 < d.size → d.size ≤ N →
    Calls Try.prog 29 #[.slice (some ⟨blk, off, none⟩) d.size cap, .func (.func 30) #[r] #[]] w fun e w' =>
      e = .returned (.tuple #[]) ∧ ∃ d', Go.Sort.PermIn 0 d.size d d' ∧ Go.Sort.SortedIn (ltOf cf) 0 d.size d' ∧ SW encF w blk off d' w'

section
variable {k : Nat} {w W : World} {blk off : Nat} {dk : Array (Fin (k + 1))}
theorem sw_heap (h : SW encF w blk off dk W) {g : Nat} (hg : g < w.heap.size) (hne : g ≠ blk) : W.heap[g]? = w.heap[g]? := by
  obtain ⟨n, os, rfl⟩ := h
  unfold sortWorld
  rw [Go.Sort.heap_grow_old _ _ (by rw [size_putRow]; exact hg)]
  unfold Go.Sort.putRow Go.Sort.mapBlock
  simp only [Array.getElem?_modify]
  rw [if_neg (fun e => hne e.symm)]
  rfl
theorem sw_step (h : SW encF w blk off dk W) {B : Nat} (hB : B ≤ blk) (hBw : B ≤ w.heap.size) : Step B [blk] [] w W := by
  have hs := h.le
  refine ⟨⟨?_, ?_, ?_, hs, fun g hg => sw_heap h (by omega) (by omega)⟩, fun i cs t fr hh hi _ => ?_⟩
  · obtain ⟨n, os, rfl⟩ := h; rfl
  · obtain ⟨n, os, rfl⟩ := h; rfl
  · obtain ⟨n, os, rfl⟩ := h; rfl
  · rw [sw_heap h (Array.getElem?_eq_some_iff.1 hh).1 (by simpa using hi)]
    exact hh
theorem sw_row (h : SW encF w blk off dk W) {cs : Array Value} {t : TypeId} (hb : Blk w blk t cs) : Blk W blk t (Go.Sort.putCells encF off dk cs) := by
  have hlt := blk_lt hb
  obtain ⟨n, os, rfl⟩ := h
  unfold Blk sortWorld
  rw [Go.Sort.heap_grow_old _ _ (by rw [size_putRow]; exact hlt)]
  unfold Go.Sort.putRow Go.Sort.mapBlock
  simp only [Array.getElem?_modify, if_true]
  rw [show (Go.Sort.ahead w n).heap[blk]? = some (.cells cs t (0, 0)) from hb]
  rfl
end

/-- A group in its new order. -/
structure Regrouped (n f t : Nat) (key : Nat → Nat) (O O' : List Nat) : Prop where
  len : O'.length = n
  out : ∀ p, (p < f ∨ t ≤ p) → O'.getD p 0 = O.getD p 0
  of : ∀ p, f ≤ p → p < t → ∃ r, f ≤ r ∧ r < t ∧ O'.getD p 0 = O.getD r 0
  has : ∀ p, f ≤ p → p < t → ∃ r, f ≤ r ∧ r < t ∧ O'.getD r 0 = O.getD p 0
  sorted : ∀ p r, f ≤ p → p < r → r < t → key (O'.getD p 0) < key (O'.getD r 0) ∨ (key (O'.getD p 0) = key (O'.getD r 0) ∧ O'.getD p 0 < O'.getD r 0)

theorem swo_key (k : Nat) (key : Nat → Nat) : Go.Sort.SWO (ltOf fun x y : Fin (k + 1) => cfN key x.val y.val) := by
  have e : ∀ x y : Fin (k + 1), ltOf (fun x y : Fin (k + 1) => cfN key x.val y.val) x y = decide (key x.val < key y.val ∨ (key x.val = key y.val ∧ x.val < y.val)) := by
    intro x y
    unfold ltOf
    exact decide_eq_decide.2 (cfN_neg key x.val y.val)
  refine ⟨fun x => ?_, fun x y z h1 h2 => ?_, fun x y z h1 h2 => ?_⟩
  · rw [e]; simp
  · rw [e] at *; simp only [decide_eq_true_eq] at *; omega
  · rw [e] at *; simp only [decide_eq_false_iff_not] at *; omega

theorem getElem!_mem {α : Type} [Inhabited α] (d : Array α) (i : Nat) (h : i < d.size) : d[i]! ∈ d.toList := by
  rw [getElem!_pos d i h]
  simp
theorem mem_getElem! {α : Type} [Inhabited α] (d : Array α) (x : α) (h : x ∈ d.toList) : ∃ i, i < d.size ∧ d[i]! = x := by
  obtain ⟨i, hi, e⟩ := List.getElem_of_mem h
  have hi' : i < d.size := by simpa using hi
  refine ⟨i, hi', ?_⟩
  rw [getElem!_pos d i hi', ← e]
  simp

theorem regroup (N : Nat) (S : SortOk N) (w : World) (B rb ob a n c t f tt co : Nat) (R O : List Nat) (hr : RBlk w rb ob n c t) (hR : IRow w ob R) (hlR : R.length = n) (hO : IRow w a O) (hlO : O.length = n)
    (hlow : ∀ p, p < n → O.getD p 0 < n) (hinj : ∀ p r, p < n → r < n → O.getD p 0 = O.getD r 0 → p = r) (hft : f < tt) (hto : tt ≤ n) (hN : tt - f ≤ N) (ht : t ≤ n) (hn : n ≤ 1000000) (hB : B ≤ a) (hne : a ≠ ob) :
    Calls Try.prog 29 #[.slice (some ⟨a, f, none⟩) (tt - f) co, .func (.func 30) #[rp rb] #[]] w fun e w' => e = .returned (.tuple #[]) ∧ ∃ O', Regrouped n f tt (keyAt n t fun k => R.getD k 0) O O' ∧ IRow w' a O' ∧ Step B [a] [] w w' := by
  obtain ⟨k, rfl⟩ : ∃ k, n = k + 1 := ⟨n - 1, by omega⟩
  obtain ⟨key, hkey⟩ : ∃ key, key = keyAt (k + 1) t fun k => R.getD k 0 := ⟨_, rfl⟩
  have hra : rb ≠ a := by
    obtain ⟨cs, hb, _⟩ := hO
    exact blk_ne hr hb (by decide)
  obtain ⟨d, hd⟩ : ∃ d : Array (Fin (k + 1)), d = Array.ofFn (fun p : Fin (tt - f) => (⟨O.getD (f + p.val) 0, hlow _ (by omega)⟩ : Fin (k + 1))) := ⟨_, rfl⟩
  have hds : d.size = tt - f := by rw [hd]; simp
  have hdg : ∀ j, j < tt - f → (d[j]!).val = O.getD (f + j) 0 := by
    intro j hj
    rw [getElem!_pos d j (by omega)]
    simp only [hd, Array.getElem_ofFn]
  have hH : Go.Sort.Holds encF w a f d := by
    intro j hj
    refine ⟨?_, hO.frozen _⟩
    rw [hO.cell (i := f + j) (by omega), encF, hdg j (by omega)]
  have hcmp : CmpMv (rp rb) (fun x y : Fin (k + 1) => cfN key x.val y.val) a f d.size w := by
    intro W dk _ hsw x y
    have hst := sw_step hsw (Nat.zero_le a) (Nat.zero_le _)
    have hr' : RBlk W rb ob (k + 1) c t := hst.blk hr (by simpa using hra) (by simp)
    have hR' := hst.irow hR (by simpa using fun e => hne e.symm) (by simp)
    have := compare_any W rb ob (k + 1) c t x.val y.val R hr' hR' hlR x.isLt y.isLt ht hn
    rw [← hkey] at this
    exact this
  have hS := S k (rp rb) (fun x y : Fin (k + 1) => cfN key x.val y.val) a f co d w (swo_key k key) hcmp hH hO.lt (by omega) (by omega)
  rw [hds] at hS
  refine hS.mono ?_
  rintro e w' ⟨rfl, d', ⟨p1, _, p3⟩, hsort, hsw⟩
  refine ⟨rfl, ?_⟩
  have hds' : d'.size = tt - f := by omega
  have hperm : d'.toList.Perm d.toList := by
    rw [show d'.extract 0 (tt - f) = d' by rw [← hds']; exact Array.extract_size .., show d.extract 0 (tt - f) = d by rw [← hds]; exact Array.extract_size ..] at p3
    exact p3
  have hnd : d.toList.Nodup := by
    refine List.pairwise_iff_getElem.2 fun i j hi hj hij e => ?_
    have hi' : i < tt - f := by simpa [hds] using hi
    have hj' : j < tt - f := by simpa [hds] using hj
    have e1 := hdg i hi'
    have e2 := hdg j hj'
    rw [getElem!_pos d i (by omega)] at e1
    rw [getElem!_pos d j (by omega)] at e2
    have e3 : d[i] = d[j] := by simpa using e
    rw [e3, e2] at e1
    have := hinj _ _ (by omega) (by omega) e1
    omega
  have hnd' : d'.toList.Nodup := hperm.nodup_iff.2 hnd
  refine ⟨(List.range (k + 1)).map (fun p => if f ≤ p ∧ p < tt then (d'[p - f]!).val else O.getD p 0), ?_, ?_, sw_step hsw hB (by have := hO.lt; omega)⟩
  · have hg : ∀ p, p < k + 1 → ((List.range (k + 1)).map (fun p => if f ≤ p ∧ p < tt then (d'[p - f]!).val else O.getD p 0)).getD p 0 = if f ≤ p ∧ p < tt then (d'[p - f]!).val else O.getD p 0 := by
      intro p hp
      rw [List.getD_eq_getElem?_getD, List.getElem?_map, List.getElem?_range hp]
      rfl
    rw [← hkey]
    refine ⟨by simp, fun p hp => ?_, fun p h1 h2 => ?_, fun p h1 h2 => ?_, fun p r h1 h2 h3 => ?_⟩
    · by_cases h : p < k + 1
      · rw [hg p h, if_neg (by omega)]
      · rw [List.getD_eq_getElem?_getD, List.getD_eq_getElem?_getD, List.getElem?_eq_none (by simp; omega), List.getElem?_eq_none (by omega)]
    · rw [hg p (by omega), if_pos ⟨h1, h2⟩]
      obtain ⟨j, hj, e⟩ := mem_getElem! d _ (hperm.mem_iff.1 (getElem!_mem d' (p - f) (by omega)))
      exact ⟨f + j, by omega, by omega, by rw [← e, hdg j (by omega)]⟩
    · obtain ⟨j, hj, e⟩ := mem_getElem! d' _ (hperm.mem_iff.2 (getElem!_mem d (p - f) (by omega)))
      refine ⟨f + j, by omega, by omega, ?_⟩
      rw [hg (f + j) (by omega), if_pos ⟨by omega, by omega⟩, show f + j - f = j by omega, e, hdg _ (by omega), show f + (p - f) = p by omega]
    · rw [hg p (by omega), hg r (by omega), if_pos ⟨by omega, by omega⟩, if_pos ⟨by omega, h3⟩]
      have h4 := hsort (p - f) (r - f) (Nat.zero_le _) (by omega) (by omega)
      unfold ltOf at h4
      simp only [decide_eq_false_iff_not, cfN_neg] at h4
      have hne2 : (d'[p - f]!).val ≠ (d'[r - f]!).val := by
        intro e
        have h5 := List.pairwise_iff_getElem.1 hnd' (p - f) (r - f) (by simp; omega) (by simp; omega) (by omega)
        refine h5 ?_
        rw [getElem!_pos d' (p - f) (by omega), getElem!_pos d' (r - f) (by omega)] at e
        simpa using Fin.ext e
      omega
  · obtain ⟨cs, hb, hc⟩ := hO
    refine ⟨_, sw_row hsw hb, fun p hp => ?_⟩
    have hp' : p < k + 1 := by simpa using hp
    rw [List.getD_eq_getElem?_getD, List.getElem?_map, List.getElem?_range hp']
    unfold Go.Sort.putCells
    rw [Array.getElem?_mapIdx, hc p (by omega), Option.map_some, hds']
    by_cases h : f ≤ p ∧ p < tt
    · rw [if_pos ⟨h.1, by omega⟩]
      show some (encF d'[p - f]!) = some (iv (if f ≤ p ∧ p < tt then (d'[p - f]!).val else O.getD p 0))
      rw [if_pos h]
      rfl
    · rw [if_neg (by omega)]
      show some (iv (O.getD p 0)) = some (iv (if f ≤ p ∧ p < tt then (d'[p - f]!).val else O.getD p 0))
      rw [if_neg h]

end Go.Proofs.Ytglcideecelemaa
