/- Out of a last column: the way through it, and the text that it meets: through, from, Back. Conditions: at most a million bytes. -/
import Derived.Test.YtglcideecelemaaBc
import Derived.Lib.AppendZeros
namespace Go.Proofs.Ytglcideecelemaa
open Go.RowKit

/-- What the closure holds: the places, in a variable of its own. -/
structure Way (w : World) (pb : Nat) (n : Nat) (L : List Nat) : Prop where
  var : ∃ pg, w.cell? ⟨pb, 0, none⟩ = some (.slice (some ⟨pg, 0, none⟩) n n) ∧ IRow w pg L
  len : L.length = n
theorem Way.below {w w' : World} {pb n : Nat} {L : List Nat} (h : Way w pb n L) (hb : Below w.heap.size w w') : Way w' pb n L := by
  obtain ⟨pg, hv, hr⟩ := h.var
  refine ⟨⟨pg, (hb.cell (p := ⟨pb, 0, none⟩) (World.block_lt_of_cell? w _ hv)).trans hv, ?_⟩, h.len⟩
  exact (step_of_below hb).irow hr List.not_mem_nil List.not_mem_nil

set_option maxRecDepth 100000 in
theorem next_any (w : World) (pb n r : Nat) (L : List Nat) (h : Way w pb n L) (hr : r < n) (_ : n ≤ 1000000) : Calls Try.prog 26 #[.int .i64 r, .pointer (some ⟨pb, 0, none⟩)] w fun e w' => e = .returned (.int .i64 (L.getD r 0 : Nat)) ∧ w = w' := by
  obtain ⟨pg, hv, hrow⟩ := h.var
  have hc := hrow.cell (i := r) (by rw [h.len]; exact hr)
  obtain ⟨x, hx⟩ : ∃ x, x = L.getD r 0 := ⟨_, rfl⟩
  rw [← hx] at hc ⊢
  clear h hx hrow
  go_enter Try.func26, Try.ntmps26
  go_wp2_with fail
  go_ret
  exact ⟨rfl, rfl⟩

set_option maxHeartbeats 1600000 in
set_option maxRecDepth 100000 in
theorem through_any (w : World) (s : ByteArray) (hs : s.size ≤ 1000000) : Calls Try.prog 18 #[.string s] w fun e w' => ∃ pb, e = .returned (.agg #[.string s, .func (.func 26) #[] #[.pointer (some ⟨pb, 0, none⟩)]]) ∧ Way w' pb s.size (placesL s.data.toList) ∧ Below w.heap.size w w' := by
  have HA := Lib.hid fun w1 : World => sorted_any w1 s hs
  have HL := Lib.hid (show (placesL s.data.toList).length = s.size from (places_length _).trans rfl)
  go_enter Try.func18, Try.ntmps18
  go_wp2_with fail
  refine (HA.out _).mono ?_
  rintro e w1 ⟨g, rfl, hrow, hg, hb⟩
  have hg' : w.heap.size + 1 ≤ g := by simpa using hg
  have hz1 : w.heap.size + 1 ≤ w1.heap.size := by simpa using hb.size
  have hb0 : Blk w1 w.heap.size 44 #[.string ⟨#[]⟩, Value.nilFunc] := (hb.block _ (by simp)).trans (blk_new w 44 _)
  have hb1 : Blk (w1.alloc (.cells #[.slice (some ⟨g, 0, none⟩) s.size s.size] 34)) w.heap.size 44 #[.string ⟨#[]⟩, Value.nilFunc] := by
    show (World.alloc _ _).heap[_]? = _
    rw [heap_alloc_past _ _ _ (by omega)]
    exact hb0
  have hb2 := blk_set hb1 0 (.string s)
  have hb3 := blk_set hb2 1 (.func (.func 26) #[] #[.pointer (some ⟨w1.heap.size, 0, none⟩)])
  have hp0 : Blk (w1.alloc (.cells #[.slice (some ⟨g, 0, none⟩) s.size s.size] 34)) w1.heap.size 34 #[.slice (some ⟨g, 0, none⟩) s.size s.size] := blk_new w1 34 _
  have hp3 := blk_apart (blk_apart hp0 (show w1.heap.size ≠ w.heap.size by omega) 0 (.string s)) (show w1.heap.size ≠ w.heap.size by omega) 1 (.func (.func 26) #[] #[.pointer (some ⟨w1.heap.size, 0, none⟩)])
  have hr3 := (((step_of_below ((Below.refl _ w1).alloc (Nat.le_refl _) (.cells #[.slice (some ⟨g, 0, none⟩) s.size s.size] 34))).irow hrow List.not_mem_nil List.not_mem_nil).apart (show g ≠ w.heap.size by omega) 0 (.string s)).apart (show g ≠ w.heap.size by omega) 1 (.func (.func 26) #[] #[.pointer (some ⟨w1.heap.size, 0, none⟩)])
  have hbz : Below w.heap.size w w1 := ((Below.refl _ w).alloc (Nat.le_refl _) (.cells #[.string ⟨#[]⟩, Value.nilFunc] 44)).trans (hb.mono (by simp))
  have hb9 := ((hbz.alloc (by omega) (.cells #[.slice (some ⟨g, 0, none⟩) s.size s.size] 34)).setCell (p := ⟨w.heap.size, 0, none⟩) (Nat.le_refl _) (.string s)).setCell (p := ⟨w.heap.size, 1, none⟩) (Nat.le_refl _) (.func (.func 26) #[] #[.pointer (some ⟨w1.heap.size, 0, none⟩)])
  have c0 : (w1.alloc (.cells #[.slice (some ⟨g, 0, none⟩) s.size s.size] 34)).cell? ⟨w.heap.size, 0, none⟩ = some (.string ⟨#[]⟩) := blk_cell hb1 0
  have f0 := blk_frozen hb1 0
  have c1 : ((w1.alloc (.cells #[.slice (some ⟨g, 0, none⟩) s.size s.size] 34)).setCell ⟨w.heap.size, 0, none⟩ (.string s)).cell? ⟨w.heap.size, 1, none⟩ = some Value.nilFunc := blk_cell hb2 1
  have f1 := blk_frozen hb2 1
  have q0 : (((w1.alloc (.cells #[.slice (some ⟨g, 0, none⟩) s.size s.size] 34)).setCell ⟨w.heap.size, 0, none⟩ (.string s)).setCell ⟨w.heap.size, 1, none⟩ (.func (.func 26) #[] #[.pointer (some ⟨w1.heap.size, 0, none⟩)])).cell? ⟨w.heap.size, 0, none⟩ = some (.string s) := blk_cell hb3 0
  have q1 : (((w1.alloc (.cells #[.slice (some ⟨g, 0, none⟩) s.size s.size] 34)).setCell ⟨w.heap.size, 0, none⟩ (.string s)).setCell ⟨w.heap.size, 1, none⟩ (.func (.func 26) #[] #[.pointer (some ⟨w1.heap.size, 0, none⟩)])).cell? ⟨w.heap.size, 1, none⟩ = some (.func (.func 26) #[] #[.pointer (some ⟨w1.heap.size, 0, none⟩)]) := blk_cell hb3 1
  have HP := Lib.hid (blk_cell hp3 0)
  have HR := Lib.hid hr3
  have HB := Lib.hid hb9
  have c2 : (w1.alloc (.cells #[.slice (some ⟨g, 0, none⟩) s.size s.size] 34)).cell? ⟨w.heap.size, 1, none⟩ = some Value.nilFunc := blk_cell hb1 1
  have f2 := blk_frozen hb1 1
  have hst := run_store Try.prog ((w1.alloc (.cells #[.slice (some ⟨g, 0, none⟩) s.size s.size] 34)).setCell ⟨w.heap.size, 0, none⟩ (.string s)) ⟨w.heap.size, 1, none⟩ (.func (.func 26) #[] #[.pointer (some ⟨w1.heap.size, 0, none⟩)]) .plain rfl
  clear hb0 hb1 hb2 hb3 hp0 hp3 hr3 hbz hb9 hrow hb hg
  go_wp2_with fail
  refine bodyPost_ret (v := .agg #[.string s, .func (.func 26) #[] #[.pointer (some ⟨w1.heap.size, 0, none⟩)]]) ?_ rfl ?_
  · simp [results, Try.results18, go_sem, q0, q1]
  · exact ⟨w1.heap.size, rfl, ⟨⟨g, HP.out, HR.out⟩, HL.out⟩, HB.out⟩

end Go.Proofs.Ytglcideecelemaa
