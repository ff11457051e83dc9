/- Rows of numbers that are the call's own: made, appended to, stored into; the reference's greatest. Conditions: at most a million numbers. -/
import Derived.Test.YthpfmkknebnppaaYa
import Derived.Laws.OwnMore
import Derived.Laws.MakeOwn
import Derived.Maps.AppendAt
import Derived.Deep.Onto
namespace Go.Proofs.Ythpfmkknebnppaa
open Go.RowKit

/-- The numbers of a row, by their places. -/
def rowF (n : Nat) (f : Nat → Nat) : List Value := (List.range n).map fun j => iv (f j)
theorem rowF_length (n : Nat) (f : Nat → Nat) : (rowF n f).length = n := by simp [rowF]
theorem rowF_get (n : Nat) (f : Nat → Nat) (i : Nat) (h : i < n) : (rowF n f)[i]? = some (iv (f i)) := by
  unfold rowF
  rw [List.getElem?_map, List.getElem?_range h]
  rfl
theorem rowF_set (n : Nat) (f : Nat → Nat) (i v : Nat) : (rowF n f).set i (iv v) = rowF n fun j => if j = i then v else f j := by
  apply List.ext_getElem?
  intro j
  by_cases hj : j < n
  · rw [rowF_get n _ j hj]
    by_cases e : i = j
    · subst e
      rw [List.getElem?_set_self (by rw [rowF_length]; exact hj), if_pos rfl]
    · rw [List.getElem?_set_ne e, rowF_get n f j hj, if_neg (fun h => e h.symm)]
  · rw [List.getElem?_eq_none (by rw [List.length_set, rowF_length]; omega), List.getElem?_eq_none (by rw [rowF_length]; omega)]
theorem rowF_same (n : Nat) (f g : Nat → Nat) (h : ∀ j, j < n → f j = g j) : rowF n f = rowF n g := by
  unfold rowF
  refine List.map_congr_left fun j hj => ?_
  rw [h j (List.mem_range.1 hj)]
theorem rowF_snoc (n : Nat) (f : Nat → Nat) (v : Nat) : rowF n f ++ [iv v] = rowF (n + 1) fun j => if j = n then v else f j := by
  unfold rowF
  rw [List.range_succ, List.map_append]
  congr 1
  · refine List.map_congr_left fun j hj => ?_
    have := List.mem_range.1 hj
    show iv (f j) = iv (if j = n then v else f j)
    rw [if_neg (by omega)]
  · simp
theorem rowF_list (L : List Nat) : L.map iv = rowF L.length fun j => L.getD j 0 := by
  apply List.ext_getElem?
  intro j
  by_cases hj : j < L.length
  · rw [rowF_get _ _ j hj, List.getElem?_map, List.getElem?_eq_getElem hj, List.getD_eq_getElem?_getD, List.getElem?_eq_getElem hj]
    rfl
  · rw [List.getElem?_eq_none (by rw [List.length_map]; omega), List.getElem?_eq_none (by rw [rowF_length]; omega)]

/-- A row of n numbers that is the call's own, at block g. -/
def FRow (w : World) (B g c n : Nat) (f : Nat → Nat) : Prop := w.ownsRow B 3 1 (.slice (some ⟨g, 0, none⟩) n c) n (rowF n f)
theorem FRow.cell {w : World} {B g c n : Nat} {f : Nat → Nat} (h : FRow w B g c n f) (i : Nat) (hi : i < n) : w.cell? ⟨g, i, none⟩ = some (.int .i64 (f i : Nat)) := by
  rw [World.ownsRow.cellAt h i (by omega), rowF_get n f i hi]
  rfl
theorem FRow.frozen {w : World} {B g c n : Nat} {f : Nat → Nat} (h : FRow w B g c n f) (i : Nat) : w.frozen? ⟨g, i, none⟩ = false := World.ownsRow.frozenAt h i
theorem FRow.set {w : World} {B g c n : Nat} {f : Nat → Nat} (h : FRow w B g c n f) (i v : Nat) : FRow (w.setCell ⟨g, i, none⟩ (.int .i64 v)) B g c n fun j => if j = i then v else f j := by
  have := (World.ownsRow.stored h i (iv v)).1
  rw [rowF_set] at this
  exact this
theorem FRow.other {w : World} {B g c n : Nat} {f : Nat → Nat} (h : FRow w B g c n f) {g2 : Nat} (hne : g2 ≠ g) (i : Nat) (v : Value) : FRow (w.setCell ⟨g2, i, none⟩ v) B g c n f := by
  refine World.ownsRow.kept (row := some g2) h ⟨rfl, rfl, rfl, by simp, fun k _ hk => heap_setCell_other w ⟨g2, i, none⟩ k v (fun e => hk (by simp [e]))⟩ (.inr ?_)
  intro e
  exact hne (by simpa [Value.ownBlock] using e.symm)
theorem FRow.grown {w w' : World} {B g c n : Nat} {f : Nat → Nat} (h : FRow w B g c n f) {row : Option Nat} (hg : w.grownBy w' row) (hne : some g ≠ row) : FRow w' B g c n f :=
  World.ownsRow.kept h hg (.inr hne)
theorem FRow.lt {w : World} {B g c n : Nat} {f : Nat → Nat} (h : FRow w B g c n f) : B ≤ g ∧ g < w.heap.size := World.ownsRow.lt h g rfl
theorem FRow.drew {w : World} {B g c n : Nat} {f : Nat → Nat} (h : FRow w B g c n f) (m : Nat) : FRow (w.drewN m) B g c n f := h
theorem FRow.alloc {w : World} {B g c n : Nat} {f : Nat → Nat} (h : FRow w B g c n f) (o : Obj) : FRow (w.alloc o) B g c n f := World.ownsRow.alloc h o
theorem FRow.ints {w : World} {B g c n : Nat} {f : Nat → Nat} (h : FRow w B g c n f) : IntsIn w (some ⟨g, 0, none⟩) n ((List.range n).map f) := by
  refine ints_of_own (B := B) (cap := c) ?_
  rw [List.map_map]
  exact h
theorem FRow.below {w w' : World} {B C g c n : Nat} {f : Nat → Nat} (h : FRow w B g c n f) (hb : Below C w w') (hg : g < C) : FRow w' B g c n f := by
  rcases h.2 with ⟨h', _⟩ | ⟨g', cap', cur, h', hB, hgg, rest⟩
  · simp at h'
  · simp only [Value.slice.injEq, Option.some.injEq, Addr.mk.injEq, and_true, true_and] at h'
    obtain ⟨rfl, rfl⟩ := h'
    exact ⟨h.1, .inr ⟨g, c, cur, rfl, hB, (hb.block g hg).trans hgg, rest⟩⟩
theorem range_getD (n : Nat) (f : Nat → Nat) (j : Nat) (h : j < n) : ((List.range n).map f).getD j 0 = f j := by
  rw [List.getD_eq_getElem?_getD, List.getElem?_map, List.getElem?_range h]
  rfl
/-- A row of noughts that is made. -/
theorem made_noughts (w : World) (B n : Nat) (hB : B ≤ w.heap.size) (hn : n ≤ 1000000) : FRow (w.alloc (.cells (madeCells #[.int .i64 0] n) 3)) B w.heap.size n n fun _ => 0 := by
  refine ⟨by rw [rowF_length, Nat.mul_one], .inr ⟨w.heap.size, n, _, rfl, hB, heap_alloc_new w _, Nat.le_refl _, by unfold maxLen; omega, by rw [size_madeCells, Nat.mul_one], ?_⟩⟩
  rw [toList_madeCells_one, Nat.mul_one, List.take_of_length_le (by simp)]
  unfold rowF
  rw [List.map_const', List.length_range]
  rfl
theorem make_noughts (w : World) (n : Nat) (hn : n ≤ 1000000) : (Instr.makeSlice 22 (.int .i64 n) (.int .i64 n)).run Try.prog w = .ok (.slice (some ⟨w.heap.size, 0, none⟩) n n) (w.alloc (.cells (madeCells #[.int .i64 0] n) 3)) := by
  obtain ⟨i3, h3, hz0, hz1, hz2⟩ := info_parts Try.info3
  have h := run_make (P := Try.prog) w 22 3 i3 (.int .i64 0) Try.underlying22 h3 hz0 .i64 .i64 (n : Int) (n : Int) (by omega) (by omega) (by rw [hz2]; omega) (by omega)
  rw [hz1, Int.toNat_natCast, Nat.mul_one] at h
  exact h
/-- One number appended to such a row. -/
theorem append_one (w : World) (B g c n : Nat) (f : Nat → Nat) (h : FRow w B g c n f) (x : Nat) (hn : n ≤ 1000000) (hB : B ≤ w.heap.size) :
    ∃ g2 c2 w2, (Builtin.append_ #[22, 22] 22 #[.slice (some ⟨g, 0, none⟩) n c, .slice (some ⟨w.heap.size, 0, none⟩) 1 1]).run Try.prog (w.alloc (.cells #[.int .i64 x] 3)) = .ok (.slice (some ⟨g2, 0, none⟩) (n + 1) c2) w2 ∧
      FRow w2 B g2 c2 (n + 1) (fun j => if j = n then x else f j) ∧ (w.alloc (.cells #[.int .i64 x] 3)).grownBy w2 (some g) ∧ (g2 = g ∨ w.heap.size < g2) := by
  obtain ⟨i3, h3, hz0, hz1, hz2⟩ := info_parts Try.info3
  obtain ⟨v2, w2, hr, ho, hg, _, hat⟩ := run_append_own_at (P := Try.prog) (w.alloc (.cells #[.int .i64 x] 3)) B 22 22 3 i3 (.int .i64 0) 1 8 Try.underlying22 h3 hz0 hz1 hz2 rfl (by decide) _ _ _ (h.alloc _) ⟨w.heap.size, 0, none⟩ 1 1 [iv x] rfl (cell_one w (iv x) 3)
    (fun u hu => by rw [List.mem_singleton.1 hu]; rfl) (by unfold maxLen; omega) (by omega) (by simp; omega)
  obtain ⟨A, c2, rfl, hc, hm, hA⟩ := own_slice ho
  obtain ⟨g2, rfl⟩ := hA (by omega)
  rw [rowF_snoc] at ho
  refine ⟨g2, c2, w2, hr, ho, hg, ?_⟩
  rcases hat with e | e
  · left
    simpa [Value.ownBlock] using e
  · right
    have : g2 = (w.alloc (.cells #[.int .i64 x] 3)).heap.size := by simpa [Value.ownBlock] using e
    rw [this]
    simp

/-- The greatest of numbers. -/
def IsMax (n : Nat) (f : Nat → Nat) (g : Nat) : Prop := (∀ i, i < n → f i ≤ g) ∧ ∃ i, i < n ∧ f i = g
set_option maxHeartbeats 1600000 in
set_option maxRecDepth 100000 in
theorem greatest_any (w : World) (A : Option Addr) (n c : Nat) (L : List Nat) (hL : IntsIn w A n L) (h1 : 1 ≤ n) (hn : n ≤ 1000000) : Calls Try.prog 29 #[.slice A n c] w fun e w' => ∃ g : Nat, e = .returned (.int .i64 g) ∧ IsMax n (fun i => L.getD i 0) g ∧ w' = w := by
  obtain ⟨b, off, rfl, hc⟩ := hL.2 (by omega)
  obtain ⟨f, hf⟩ : ∃ f : Nat → Nat, f = fun i => L.getD i 0 := ⟨_, rfl⟩
  have hc' : ∀ i, i < n → w.cell? ⟨b, off + i, none⟩ = some (.int .i64 (f i : Nat)) := by rw [hf]; exact hc
  rw [← hf]
  have HC := Lib.hid hc'
  have c0 := hc' 0 (by omega)
  rw [Nat.add_zero] at c0
  obtain ⟨y, hy⟩ : ∃ y, y = f 0 := ⟨_, rfl⟩
  rw [← hy] at c0
  have HY := Lib.hid hy
  have hnI : (0 : Int) < (n : Int) := by omega
  have hP : Hid (∀ g : Nat, IsMax n f g → (fun e w' => ∃ g : Nat, e = Ending.returned (.int .i64 g) ∧ IsMax n f g ∧ w' = w) (.returned (.int .i64 g)) w) := Lib.hid fun g h => ⟨g, rfl, h, rfl⟩
  generalize (fun e w' => ∃ g : Nat, e = Ending.returned (.int .i64 g) ∧ IsMax n f g ∧ w' = w) = PO at *
  clear hL hc hf hc' hy
  go_enter Try.func29, Try.ntmps29
  go_wp2_with fail
  go_loopw [3, 4] (fun v i wx => ∃ q g : Nat, q ≤ n ∧ i = .int .i64 q ∧ v = .int .i64 g ∧ Hid ((∀ i, i < q → f i ≤ g) ∧ ∃ i, i < n ∧ f i = g) ∧ wx = w) (fun _ i _ => n - (intOf i).toNat)
  case atStart => exact ⟨0, y, Nat.zero_le _, rfl, rfl, ⟨fun i hi => by omega, 0, by omega, HY.out.symm⟩, rfl⟩
  case round =>
    obtain ⟨q, g, hq, rfl, rfl, hm, rfl⟩ := hrel
    by_cases e : q < n
    · have dq : decide ((q : Int) < (n : Int)) = true := decide_eq_true (by omega)
      have cq := HC.out q e
      obtain ⟨x, hx⟩ : ∃ x, x = f q := ⟨_, rfl⟩
      rw [← hx] at cq
      have HX := Lib.hid hx
      clear hx
      by_cases e2 : g < x
      · have d2 : decide ((g : Int) < (x : Int)) = true := decide_eq_true (by omega)
        have HM : Hid ((∀ i, i < q + 1 → f i ≤ x) ∧ ∃ i, i < n ∧ f i = x) := Lib.hid ⟨fun i hi => by
          by_cases ei : i = q
          · rw [ei, ← HX.out]
            exact Nat.le_refl _
          · have := hm.out.1 i (by omega)
            omega, q, e, HX.out.symm⟩
        have hmx : (if (g : Int) < (x : Int) then (x : Int) else (g : Int)) = (x : Int) := if_pos (by omega)
        have hmx2 : (if (g : Int) ≤ (x : Int) then (x : Int) else (g : Int)) = (x : Int) := if_pos (by omega)
        clear hm
        go_wp2_with fail
        go_roundw
        case rel => exact ⟨q + 1, x, by omega, by go_num, by go_num, HM, trivial⟩
        case measure => simp [intOf]; omega
      · have d2 : decide ((g : Int) < (x : Int)) = false := decide_eq_false (by omega)
        have HM : Hid ((∀ i, i < q + 1 → f i ≤ g) ∧ ∃ i, i < n ∧ f i = g) := Lib.hid ⟨fun i hi => by
          by_cases ei : i = q
          · rw [ei, ← HX.out]
            omega
          · exact hm.out.1 i (by omega), hm.out.2⟩
        clear hm
        go_wp2_with fail
        go_roundw
        case rel => exact ⟨q + 1, g, by omega, by go_num, by go_num, HM, trivial⟩
        case measure => simp [intOf]; omega
    · obtain rfl : q = n := by omega
      have dq : decide ((q : Int) < (q : Int)) = false := decide_eq_false (by omega)
      have HM : Hid (IsMax q f g) := Lib.hid hm.out
      clear hm
      go_wp2_with fail
      exact hP.out g HM.out

end Go.Proofs.Ythpfmkknebnppaa
