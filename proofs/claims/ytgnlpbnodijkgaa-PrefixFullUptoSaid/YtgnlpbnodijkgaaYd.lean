/- The reference of lengths: May, least, greatest. Conditions: as each says. -/
import Derived.Test.YtgnlpbnodijkgaaHb
import Derived.Test.YtgnlpbnodijkgaaNb
import Derived.Deep.LoopGhost
import Derived.Laws.OwnMore
import Derived.Laws.MakeOwn
import Derived.Maps.AppendAt
import Derived.Deep.Onto
import Derived.Lib.AppendZeros
import Derived.Deep.RegionLaw
namespace Go.Proofs.Ytgnlpbnodijkgaa
open Go.RowKit

/-- Weights may be. -/
def MayW (L : List Int) : Prop := 2 ≤ L.length ∧ L.length ≤ 258 ∧ ∀ x ∈ L, 0 ≤ x ∧ x ≤ 1073741824
instance (L : List Int) : Decidable (MayW L) := inferInstanceAs (Decidable (_ ∧ _))
theorem take_snoc_int (L : List Int) (q : Nat) (h : q < L.length) : L.take (q + 1) = L.take q ++ [L.getD q 0] := by
  rw [List.take_succ_eq_append_getElem h, List.getD_eq_getElem?_getD, List.getElem?_eq_getElem h]
  rfl
theorem getD_mem_int (L : List Int) (q : Nat) (h : q < L.length) : L.getD q 0 ∈ L := by
  rw [List.getD_eq_getElem?_getD, List.getElem?_eq_getElem h]
  exact List.getElem_mem h

/-- The first of those that are gone over. -/
def LeastTo (q : Nat) (ws ov : Nat → Nat) (at_ : Int) : Prop := (at_ = -1 ∧ ∀ j, j < q → ov j ≠ 0) ∨ ∃ a : Nat, at_ = a ∧ a < q ∧ ov a = 0 ∧ ∀ j, j < q → ov j = 0 → j ≠ a → ws a < ws j ∨ (ws a = ws j ∧ a < j)

end Go.Proofs.Ytgnlpbnodijkgaa
/- Rows of numbers that are the call's own: made, appended to, stored into; the reference's greatest. Conditions: at most a million numbers. -/
namespace Go.Proofs.Ytgnlpbnodijkgaa
open Go.RowKit

/-- The numbers of a row, by their places. -/
def rowF (n : Nat) (f : Nat → Nat) : List Value := (List.range n).map fun j => iv (f j)
theorem rowF_length (n : Nat) (f : Nat → Nat) : (rowF n f).length = n := by simp [rowF]
theorem rowF_get (n : Nat) (f : Nat → Nat) (i : Nat) (h : i < n) : (rowF n f)[i]? = some (iv (f i)) := by
  unfold rowF
  rw [List.getElem?_map, List.getElem?_range h]
  rfl
theorem rowF_set (n : Nat) (f : Nat → Nat) (i v : Nat) : (rowF n f).set i (iv v) = rowF n fun j => if j = i then v else f j := by
  apply List.ext_getElem?
  intro j
  by_cases hj : j < n
  · rw [rowF_get n _ j hj]
    by_cases e : i = j
    · subst e
      rw [List.getElem?_set_self (by rw [rowF_length]; exact hj), if_pos rfl]
    · rw [List.getElem?_set_ne e, rowF_get n f j hj, if_neg (fun h => e h.symm)]
  · rw [List.getElem?_eq_none (by rw [List.length_set, rowF_length]; omega), List.getElem?_eq_none (by rw [rowF_length]; omega)]
theorem rowF_same (n : Nat) (f g : Nat → Nat) (h : ∀ j, j < n → f j = g j) : rowF n f = rowF n g := by
  unfold rowF
  refine List.map_congr_left fun j hj => ?_
  rw [h j (List.mem_range.1 hj)]
theorem rowF_snoc (n : Nat) (f : Nat → Nat) (v : Nat) : rowF n f ++ [iv v] = rowF (n + 1) fun j => if j = n then v else f j := by
  unfold rowF
  rw [List.range_succ, List.map_append]
  congr 1
  · refine List.map_congr_left fun j hj => ?_
    have := List.mem_range.1 hj
    show iv (f j) = iv (if j = n then v else f j)
    rw [if_neg (by omega)]
  · simp
theorem rowF_list (L : List Nat) : L.map iv = rowF L.length fun j => L.getD j 0 := by
  apply List.ext_getElem?
  intro j
  by_cases hj : j < L.length
  · rw [rowF_get _ _ j hj, List.getElem?_map, List.getElem?_eq_getElem hj, List.getD_eq_getElem?_getD, List.getElem?_eq_getElem hj]
    rfl
  · rw [List.getElem?_eq_none (by rw [List.length_map]; omega), List.getElem?_eq_none (by rw [rowF_length]; omega)]

/-- A row of n numbers that is the call's own, at block g. -/
def FRow (w : World) (B g c n : Nat) (f : Nat → Nat) : Prop := w.ownsRow B 3 1 (.slice (some ⟨g, 0, none⟩) n c) n (rowF n f)
theorem FRow.cell {w : World} {B g c n : Nat} {f : Nat → Nat} (h : FRow w B g c n f) (i : Nat) (hi : i < n) : w.cell? ⟨g, i, none⟩ = some (.int .i64 (f i : Nat)) := by
  rw [World.ownsRow.cellAt h i (by omega), rowF_get n f i hi]
  rfl
theorem FRow.frozen {w : World} {B g c n : Nat} {f : Nat → Nat} (h : FRow w B g c n f) (i : Nat) : w.frozen? ⟨g, i, none⟩ = false := World.ownsRow.frozenAt h i
theorem FRow.set {w : World} {B g c n : Nat} {f : Nat → Nat} (h : FRow w B g c n f) (i v : Nat) : FRow (w.setCell ⟨g, i, none⟩ (.int .i64 v)) B g c n fun j => if j = i then v else f j := by
  have := (World.ownsRow.stored h i (iv v)).1
  rw [rowF_set] at this
  exact this
theorem FRow.other {w : World} {B g c n : Nat} {f : Nat → Nat} (h : FRow w B g c n f) {g2 : Nat} (hne : g2 ≠ g) (i : Nat) (v : Value) : FRow (w.setCell ⟨g2, i, none⟩ v) B g c n f := by
  refine World.ownsRow.kept (row := some g2) h ⟨rfl, rfl, rfl, by simp, fun k _ hk => heap_setCell_other w ⟨g2, i, none⟩ k v (fun e => hk (by simp [e]))⟩ (.inr ?_)
  intro e
  exact hne (by simpa [Value.ownBlock] using e.symm)
theorem FRow.grown {w w' : World} {B g c n : Nat} {f : Nat → Nat} (h : FRow w B g c n f) {row : Option Nat} (hg : w.grownBy w' row) (hne : some g ≠ row) : FRow w' B g c n f :=
  World.ownsRow.kept h hg (.inr hne)
theorem FRow.lt {w : World} {B g c n : Nat} {f : Nat → Nat} (h : FRow w B g c n f) : B ≤ g ∧ g < w.heap.size := World.ownsRow.lt h g rfl
theorem FRow.drew {w : World} {B g c n : Nat} {f : Nat → Nat} (h : FRow w B g c n f) (m : Nat) : FRow (w.drewN m) B g c n f := h
theorem FRow.alloc {w : World} {B g c n : Nat} {f : Nat → Nat} (h : FRow w B g c n f) (o : Obj) : FRow (w.alloc o) B g c n f := World.ownsRow.alloc h o
theorem FRow.ints {w : World} {B g c n : Nat} {f : Nat → Nat} (h : FRow w B g c n f) : IntsIn w (some ⟨g, 0, none⟩) n ((List.range n).map f) := by
  refine ints_of_own (B := B) (cap := c) ?_
  rw [List.map_map]
  exact h
theorem FRow.below {w w' : World} {B C g c n : Nat} {f : Nat → Nat} (h : FRow w B g c n f) (hb : Below C w w') (hg : g < C) : FRow w' B g c n f := by
  rcases h.2 with ⟨h', _⟩ | ⟨g', cap', cur, h', hB, hgg, rest⟩
  · simp at h'
  · simp only [Value.slice.injEq, Option.some.injEq, Addr.mk.injEq, and_true, true_and] at h'
    obtain ⟨rfl, rfl⟩ := h'
    exact ⟨h.1, .inr ⟨g, c, cur, rfl, hB, (hb.block g hg).trans hgg, rest⟩⟩
theorem range_getD (n : Nat) (f : Nat → Nat) (j : Nat) (h : j < n) : ((List.range n).map f).getD j 0 = f j := by
  rw [List.getD_eq_getElem?_getD, List.getElem?_map, List.getElem?_range h]
  rfl
/-- A row of noughts that is made. -/
theorem made_noughts (w : World) (B n : Nat) (hB : B ≤ w.heap.size) (hn : n ≤ 1000000) : FRow (w.alloc (.cells (madeCells #[.int .i64 0] n) 3)) B w.heap.size n n fun _ => 0 := by
  refine ⟨by rw [rowF_length, Nat.mul_one], .inr ⟨w.heap.size, n, _, rfl, hB, heap_alloc_new w _, Nat.le_refl _, by unfold maxLen; omega, by rw [size_madeCells, Nat.mul_one], ?_⟩⟩
  rw [toList_madeCells_one, Nat.mul_one, List.take_of_length_le (by simp)]
  unfold rowF
  rw [List.map_const', List.length_range]
  rfl
theorem make_noughts (w : World) (n : Nat) (hn : n ≤ 1000000) : (Instr.makeSlice 22 (.int .i64 n) (.int .i64 n)).run Try.prog w = .ok (.slice (some ⟨w.heap.size, 0, none⟩) n n) (w.alloc (.cells (madeCells #[.int .i64 0] n) 3)) := by
  obtain ⟨i3, h3, hz0, hz1, hz2⟩ := info_parts Try.info3
  have h := run_make (P := Try.prog) w 22 3 i3 (.int .i64 0) Try.underlying22 h3 hz0 .i64 .i64 (n : Int) (n : Int) (by omega) (by omega) (by rw [hz2]; omega) (by omega)
  rw [hz1, Int.toNat_natCast, Nat.mul_one] at h
  exact h
/-- One number appended to such a row. -/
theorem append_one (w : World) (B g c n : Nat) (f : Nat → Nat) (h : FRow w B g c n f) (x : Nat) (hn : n ≤ 1000000) (hB : B ≤ w.heap.size) :
    ∃ g2 c2 w2, (Builtin.append_ #[22, 22] 22 #[.slice (some ⟨g, 0, none⟩) n c, .slice (some ⟨w.heap.size, 0, none⟩) 1 1]).run Try.prog (w.alloc (.cells #[.int .i64 x] 3)) = .ok (.slice (some ⟨g2, 0, none⟩) (n + 1) c2) w2 ∧
      FRow w2 B g2 c2 (n + 1) (fun j => if j = n then x else f j) ∧ (w.alloc (.cells #[.int .i64 x] 3)).grownBy w2 (some g) ∧ (g2 = g ∨ w.heap.size < g2) := by
  obtain ⟨i3, h3, hz0, hz1, hz2⟩ := info_parts Try.info3
  obtain ⟨v2, w2, hr, ho, hg, _, hat⟩ := run_append_own_at (P := Try.prog) (w.alloc (.cells #[.int .i64 x] 3)) B 22 22 3 i3 (.int .i64 0) 1 8 Try.underlying22 h3 hz0 hz1 hz2 rfl (by decide) _ _ _ (h.alloc _) ⟨w.heap.size, 0, none⟩ 1 1 [iv x] rfl (cell_one w (iv x) 3)
    (fun u hu => by rw [List.mem_singleton.1 hu]; rfl) (by unfold maxLen; omega) (by omega) (by simp; omega)
  obtain ⟨A, c2, rfl, hc, hm, hA⟩ := own_slice ho
  obtain ⟨g2, rfl⟩ := hA (by omega)
  rw [rowF_snoc] at ho
  refine ⟨g2, c2, w2, hr, ho, hg, ?_⟩
  rcases hat with e | e
  · left
    simpa [Value.ownBlock] using e
  · right
    have : g2 = (w.alloc (.cells #[.int .i64 x] 3)).heap.size := by simpa [Value.ownBlock] using e
    rw [this]
    simp

/-- The greatest of numbers. -/
def IsMax (n : Nat) (f : Nat → Nat) (g : Nat) : Prop := (∀ i, i < n → f i ≤ g) ∧ ∃ i, i < n ∧ f i = g
end Go.Proofs.Ytgnlpbnodijkgaa
/- The reference's grown. Conditions: 1 to 258 weights, together at most 2^40. -/
namespace Go.Proofs.Ytgnlpbnodijkgaa
open Go.RowKit

theorem least_same {k : Nat} {ws ov ws2 ov2 : Nat → Nat} {a : Nat} (h : Least k ws ov a) (hw : ∀ j, j < k → ws2 j = ws j) (ho : ∀ j, j < k → ov2 j = ov j) : Least k ws2 ov2 a := by
  refine ⟨h.1, by rw [ho a h.1]; exact h.2.1, fun j hj h0 hne => ?_⟩
  rw [hw a h.1, hw j hj]
  exact h.2.2 j hj (by rw [← ho j hj]; exact h0) hne
theorem grown_top {n k : Nat} {w : List Nat} {ws ov : Nat → Nat} {act : List Tr} {len : Nat → Nat} (h : Grown n w k ws ov act len) : ∀ j, k ≤ j → ov j = 0 := by
  intro j hj
  by_cases e : ov j = 0
  · exact e
  · have := h.par j e
    omega

theorem up_le {ov : Nat → Nat} (hp : ∀ j, ov j ≠ 0 → j < ov j) {i j d : Nat} (h : Up ov i j d) : i + d ≤ j := by
  induction h with
  | here => exact Nat.le_refl _
  | next h h0 ih =>
    have := hp _ h0
    omega

/-- The first half of grown: every tree but one is in one. -/
def Half (w wx : World) (n : Nat) (W : List Nat) (s : Nat) (v3 v4 : Value) : Prop := ∃ (k gW cW gO cO : Nat) (ws ov : Nat → Nat) (act : List Tr) (len : Nat → Nat), k + 1 = n + s ∧ v3 = .slice (some ⟨gW, 0, none⟩) k cW ∧ v4 = .slice (some ⟨gO, 0, none⟩) k cO ∧ gW ≠ gO ∧
  FRow wx w.heap.size gW cW k ws ∧ FRow wx w.heap.size gO cO k ov ∧ Grown n W k ws ov act len ∧ Below w.heap.size w wx

/-- What grown makes of weights. -/
def GrownPost (w : World) (n : Nat) (W : List Nat) (e : Ending) (w' : World) : Prop := ∃ (g c : Nat) (len : Nat → Nat), HLen W len ∧ e = .returned (.slice (some ⟨g, 0, none⟩) n c) ∧ FRow w' w.heap.size g c n len ∧ Below w.heap.size w w'

end Go.Proofs.Ytgnlpbnodijkgaa
/- The reference's Make. Conditions: at most a million weights. -/
namespace Go.Proofs.Ytgnlpbnodijkgaa
open Go.RowKit

theorem ints_of_zin {w : World} {A : Option Addr} {m : Nat} {L : List Int} (h : ZIn w A m L) (hv : ∀ x ∈ L, 0 ≤ x) : IntsIn w A m (L.map Int.toNat) := by
  refine ⟨by rw [List.length_map]; exact h.1, fun hm => ?_⟩
  obtain ⟨b, off, rfl, hc⟩ := h.2 hm
  refine ⟨b, off, rfl, fun i hi => ?_⟩
  have hiL : i < L.length := by rw [h.1]; exact hi
  rw [hc i hi, List.getD_eq_getElem?_getD, List.getD_eq_getElem?_getD, List.getElem?_map, List.getElem?_eq_getElem (by rw [h.1]; exact hi)]
  have h0 := hv (L[i]'hiL) (List.getElem_mem _)
  show some (Value.int .i64 (L[i]'hiL)) = some (.int .i64 (((L[i]'hiL).toNat : Nat) : Int))
  rw [Int.toNat_of_nonneg h0]
/-- Weights, 0 as 1. -/
def oneF (L : List Int) (j : Nat) : Nat := max (L.getD j 0).toNat 1
def oneL (L : List Int) : List Nat := (List.range L.length).map (oneF L)
/-- What Make answers: refused, or the lengths. -/
def MakePost (w : World) (L : List Int) (most : Int) (e : Ending) (w' : World) : Prop :=
  ((¬ MayW L ∨ most < 12 ∨ 20 < most) ∧ ∃ v, e = .returned (.tuple #[v, .int .i64 2]) ∧ w'.ownsRow w.heap.size 3 1 v 0 [] ∧ Below w.heap.size w w') ∨
  (MayW L ∧ 12 ≤ most ∧ most ≤ 20 ∧ ∃ v len, MakeR (oneL L) most.toNat len ∧ e = .returned (.tuple #[v, .int .i64 0]) ∧ w'.ownsRow w.heap.size 3 1 v L.length (rowF L.length len) ∧ Below w.heap.size w w')

theorem FRow.lower {w : World} {B B' g c n : Nat} {f : Nat → Nat} (h : FRow w B g c n f) (hB : B' ≤ B) : FRow w B' g c n f := World.ownsRow.mono h hB
theorem sum_small (n : Nat) (f : Nat → Nat) (hn : n ≤ 258) (h : ∀ j, j < n → f j ≤ 1073741824) : ((List.range n).map f).sum ≤ 1099511627776 := by
  have h1 := sum_le 1073741824 ((List.range n).map f) (fun x hx => by
    obtain ⟨j, hj, rfl⟩ := List.mem_map.1 hx
    exact h j (List.mem_range.1 hj))
  rw [List.length_map, List.length_range] at h1
  have h2 : 1073741824 * n ≤ 1073741824 * 258 := Nat.mul_le_mul_left _ hn
  omega

/-- Try number t of Make. -/
def TryN (w wx : World) (W0 : List Nat) (n most gA cA t : Nat) (v : Value) : Prop := ∃ (gX cX : Nat) (len f : Nat → Nat), t ≤ 40 ∧ v = .slice (some ⟨gX, 0, none⟩) n cX ∧ FRow wx w.heap.size gA cA n f ∧ FRow wx w.heap.size gX cX n len ∧
  halves W0 t = (List.range n).map f ∧ HLen (halves W0 t) len ∧ (∀ j, j < n → f j ≤ 1073741824) ∧ (∀ q, q < t → ∃ L1, HLen (halves W0 q) L1 ∧ ∃ i, i < n ∧ most < L1 i) ∧ Below w.heap.size w wx
theorem half_range (n : Nat) (f : Nat → Nat) : half ((List.range n).map f) = (List.range n).map fun j => f j / 2 + 1 := by
  unfold half
  rw [List.map_map]
  rfl

end Go.Proofs.Ytgnlpbnodijkgaa
