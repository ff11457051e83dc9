/- Rows of whole numbers that are the call's own; none cost less (plain, over the answers). -/
import Derived.Test.YthpfmkknebnppaaYl
namespace Go.Proofs.Ythpfmkknebnppaa
open Go.RowKit

/-- A row of n whole numbers that is the call's own, at block g. -/
def rowI (n : Nat) (f : Nat → Int) : List Value := (List.range n).map fun j => zv (f j)
theorem rowI_length (n : Nat) (f : Nat → Int) : (rowI n f).length = n := by simp [rowI]
theorem rowI_get (n : Nat) (f : Nat → Int) (i : Nat) (h : i < n) : (rowI n f)[i]? = some (zv (f i)) := by
  unfold rowI
  rw [List.getElem?_map, List.getElem?_range h]
  rfl
theorem rowI_set (n : Nat) (f : Nat → Int) (i : Nat) (v : Int) : (rowI n f).set i (zv v) = rowI n fun j => if j = i then v else f j := by
  apply List.ext_getElem?
  intro j
  by_cases hj : j < n
  · rw [rowI_get n _ j hj]
    by_cases e : i = j
    · subst e
      rw [List.getElem?_set_self (by rw [rowI_length]; exact hj), if_pos rfl]
    · rw [List.getElem?_set_ne e, rowI_get n f j hj, if_neg (fun h => e h.symm)]
  · rw [List.getElem?_eq_none (by rw [List.length_set, rowI_length]; omega), List.getElem?_eq_none (by rw [rowI_length]; omega)]
theorem rowI_list (L : List Int) (n : Nat) (hn : L.length = n) : L.map zv = rowI n fun j => L.getD j 0 := by
  apply List.ext_getElem?
  intro j
  by_cases hj : j < n
  · rw [rowI_get _ _ j hj, List.getElem?_map, List.getElem?_eq_getElem (by omega), List.getD_eq_getElem?_getD, List.getElem?_eq_getElem (by omega)]
    rfl
  · rw [List.getElem?_eq_none (by rw [List.length_map]; omega), List.getElem?_eq_none (by rw [rowI_length]; omega)]
theorem rowI_same (n : Nat) (f g : Nat → Int) (h : ∀ j, j < n → f j = g j) : rowI n f = rowI n g := by
  unfold rowI
  refine List.map_congr_left fun j hj => ?_
  rw [h j (List.mem_range.1 hj)]
def IRow (w : World) (B g c n : Nat) (f : Nat → Int) : Prop := w.ownsRow B 3 1 (.slice (some ⟨g, 0, none⟩) n c) n (rowI n f)
theorem IRow.cell {w : World} {B g c n : Nat} {f : Nat → Int} (h : IRow w B g c n f) (i : Nat) (hi : i < n) : w.cell? ⟨g, i, none⟩ = some (.int .i64 (f i)) := by
  rw [World.ownsRow.cellAt h i (by omega), rowI_get n f i hi]
  rfl
theorem IRow.frozen {w : World} {B g c n : Nat} {f : Nat → Int} (h : IRow w B g c n f) (i : Nat) : w.frozen? ⟨g, i, none⟩ = false := World.ownsRow.frozenAt h i
theorem IRow.set {w : World} {B g c n : Nat} {f : Nat → Int} (h : IRow w B g c n f) (i : Nat) (v : Int) : IRow (w.setCell ⟨g, i, none⟩ (.int .i64 v)) B g c n fun j => if j = i then v else f j := by
  have := (World.ownsRow.stored h i (zv v)).1
  rw [rowI_set] at this
  exact this
theorem IRow.lt {w : World} {B g c n : Nat} {f : Nat → Int} (h : IRow w B g c n f) : B ≤ g ∧ g < w.heap.size := World.ownsRow.lt h g rfl
theorem IRow.zs {w : World} {B g c n : Nat} {f : Nat → Int} (h : IRow w B g c n f) (L : List Int) (hl : L.length = n) (hf : ∀ j, j < n → f j = L.getD j 0) : ZIn w (some ⟨g, 0, none⟩) n L := by
  refine zs_of_own (B := B) (cap := c) ?_
  rw [rowI_list L n hl, ← rowI_same n f _ hf]
  exact h

theorem intL_get (a : List Nat) (i : Nat) : ((intL a).getD i 0).toNat = a.getD i 0 := by
  unfold intL
  rw [List.getD_eq_getElem?_getD, List.getElem?_map, List.getD_eq_getElem?_getD]
  cases a[i]? with
  | none => rfl
  | some x => exact Int.toNat_natCast x
theorem zip_sum (W : List Nat) (l : List Int) (h : l.length = W.length) : (List.zipWith (· * ·) W (l.map Int.toNat)).sum = costN (intL W) l W.length := by
  unfold costN
  congr 1
  apply List.ext_getElem?
  intro i
  by_cases hi : i < W.length
  · rw [List.getElem?_zipWith, List.getElem?_map, List.getElem?_map, List.getElem?_range hi, List.getElem?_eq_getElem hi, List.getElem?_eq_getElem (by omega)]
    show some (W[i] * l[i].toNat) = some (((intL W).getD i 0).toNat * (l.getD i 0).toNat)
    rw [intL_get, List.getD_eq_getElem?_getD, List.getElem?_eq_getElem hi, List.getD_eq_getElem?_getD, List.getElem?_eq_getElem (by omega)]
    rfl
  · rw [List.getElem?_eq_none (by rw [List.length_zipWith, List.length_map]; omega), List.getElem?_eq_none (by simp; omega)]
/-- None cost less. -/
theorem best_le {W : List Nat} {len : Nat → Nat} (h1 : ∀ x ∈ W, 1 ≤ x) (hs : W.sum < 610) (hm : MakeR W 12 len) (l : List Int) (hl : l.length = W.length) (hok : LenOk l) : (∀ i, i < W.length → len i ≤ 12) ∧ costN (intL W) (intL ((List.range W.length).map len)) W.length ≤ costN (intL W) l W.length := by
  have hh : HLen W len := by
    cases hm with
    | done h _ => exact h
    | again h hi _ =>
      obtain ⟨i, hi, hlt⟩ := hi
      have := hlen_small h h1 hs i hi
      omega
  refine ⟨hlen_small hh h1 hs, ?_⟩
  have hb := hlen_best hh 20 (l.map Int.toNat) (by rw [List.length_map]; exact hl) (fun x hx => by
    obtain ⟨y, hy, rfl⟩ := List.mem_map.1 hx
    have := hok.2.2.1 y hy
    omega) (by
    rw [List.map_map]
    exact hok.2.2.2)
  rw [zip_sum W l hl] at hb
  refine Nat.le_trans (Nat.le_of_eq ?_) hb
  unfold costN
  congr 1
  refine List.map_congr_left fun i hi => ?_
  have hi := List.mem_range.1 hi
  rw [intL_get, intL_get, range_getD _ _ i hi]

end Go.Proofs.Ythpfmkknebnppaa
