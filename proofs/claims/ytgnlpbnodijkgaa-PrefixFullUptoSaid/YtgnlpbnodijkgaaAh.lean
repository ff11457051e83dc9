/- lengths.alone: each symbol a tree by itself. Conditions: at least one weight, at most a million. -/
import Derived.Test.YtgnlpbnodijkgaaAg
import Derived.Test.YtgnlpbnodijkgaaAc
namespace Go.Proofs.Ytgnlpbnodijkgaa
open Go.RowKit

/-- Block g is a row for N trees that begins with T. -/
def TCap (w : World) (g N : Nat) (T : List (Nat × Nat)) : Prop :=
  ∃ cs, Blk w g 106 cs ∧ cs.size = N * 2 ∧ ∀ i, i < T.length → cs[i * 2]? = some (.int .i64 (T.getD i (0, 0)).1) ∧ cs[i * 2 + 1]? = some (.int .i64 (T.getD i (0, 0)).2)
theorem TCap.row {w : World} {g N : Nat} {T : List (Nat × Nat)} (h : TCap w g N T) : TRow w g T := by
  obtain ⟨cs, h1, _, h3⟩ := h
  exact ⟨cs, h1, h3⟩
theorem Step.tcap {B : Nat} {ps : List Nat} {w w' : World} (h : Step B ps [] w w') {g N : Nat} {T : List (Nat × Nat)} (hr : TCap w g N T) (hp : g ∉ ps) : TCap w' g N T := by
  obtain ⟨cs, hb, hc⟩ := hr
  exact ⟨cs, h.blk hb hp (by simp), hc⟩
theorem TCap.there {w : World} {g N : Nat} {T : List (Nat × Nat)} (h : TCap w g N T) (j : Nat) (hj : j < N * 2) : (w.cell? ⟨g, j, none⟩).isSome = true ∧ w.frozen? ⟨g, j, none⟩ = false := by
  obtain ⟨cs, hb, hs, _⟩ := h
  refine ⟨?_, blk_frozen hb j⟩
  rw [blk_cell hb, Array.getElem?_eq_getElem (by omega)]
  rfl
theorem TCap.store {w : World} {g N : Nat} {T : List (Nat × Nat)} (h : TCap w g N T) (x : Nat × Nat) (hN : T.length < N) :
    TCap ((w.setCell ⟨g, T.length * 2, none⟩ (.int .i64 x.1)).setCell ⟨g, T.length * 2 + 1, none⟩ (.int .i64 x.2)) g N (T ++ [x]) := by
  obtain ⟨cs, hb, hs, hc⟩ := h
  refine ⟨_, blk_set (blk_set hb (T.length * 2) (.int .i64 x.1)) (T.length * 2 + 1) (.int .i64 x.2), by simp [hs], fun i hi => ?_⟩
  rw [List.length_append, List.length_singleton] at hi
  by_cases e : i = T.length
  · subst e
    have e0 : (T ++ [x]).getD T.length (0, 0) = x := by simp
    rw [e0]
    constructor
    · rw [Array.getElem?_setIfInBounds_ne (by omega), Array.getElem?_setIfInBounds_self_of_lt (by omega)]
    · rw [Array.getElem?_setIfInBounds_self_of_lt (by simp; omega)]
  · have hi2 : i < T.length := by omega
    have e0 : (T ++ [x]).getD i (0, 0) = T.getD i (0, 0) := by
      rw [List.getD_eq_getElem?_getD, List.getD_eq_getElem?_getD, List.getElem?_append_left hi2]
    rw [e0]
    have h3 := hc i hi2
    constructor
    · rw [Array.getElem?_setIfInBounds_ne (by omega), Array.getElem?_setIfInBounds_ne (by omega)]
      exact h3.1
    · rw [Array.getElem?_setIfInBounds_ne (by omega), Array.getElem?_setIfInBounds_ne (by omega)]
      exact h3.2

theorem Try.infoTree : (Try.prog.info? 106).map (fun i => (i.zero, i.size, i.bytes)) = some (some (.agg #[.int .i64 0, .int .i64 0]), 2, 16) := by kernel_rfl
theorem make_trees (w : World) (n m : Nat) (hn : n ≤ m) (hm : m ≤ 1000000) : (Instr.makeSlice 102 (.int .i64 n) (.int .i64 m)).run Try.prog w = .ok (.slice (some ⟨w.heap.size, 0, none⟩) n m) (w.alloc (.cells (madeCells #[.int .i64 0, .int .i64 0] (m * 2)) 106)) := by
  obtain ⟨i3, h3, hz0, hz1, hz2⟩ := info_parts Try.infoTree
  have h := run_make (P := Try.prog) w 102 106 i3 (.agg #[.int .i64 0, .int .i64 0]) Try.underlying102 h3 hz0 .i64 .i64 (n : Int) (m : Int) (by omega) (by omega) (by rw [hz2]; omega) (by omega)
  rw [hz1, Int.toNat_natCast, Int.toNat_natCast] at h
  exact h
theorem made_trees (w : World) (m : Nat) : TCap (w.alloc (.cells (madeCells #[.int .i64 0, .int .i64 0] (m * 2)) 106)) w.heap.size m [] :=
  ⟨_, blk_new w _ _, by rw [size_madeCells], fun i hi => absurd hi (by simp)⟩

set_option maxHeartbeats 1600000 in
set_option maxRecDepth 100000 in
theorem alone_any (w : World) (A : Option Addr) (n c : Nat) (f : Nat → Nat) (hL : IntsIn w A n ((List.range n).map f)) (h1 : 1 ≤ n) (hn : n ≤ 1000000) :
    Calls Try.prog 60 #[.slice A n c] w fun e w' => e = .returned (.slice (some ⟨w.heap.size, 0, none⟩) n n) ∧ TCap w' w.heap.size n ((List.range n).map fun i => (f i, i)) ∧ Below w.heap.size w w' := by
  obtain ⟨b, off, rfl, hc⟩ := hL.2 (by omega)
  have hc2 : ∀ i, i < n → w.cell? ⟨b, off + i, none⟩ = some (.int .i64 (f i)) := fun i hi => by rw [hc i hi, range_getD n f i hi]
  have HC := Lib.hid hc2
  have hmk := make_trees w n n (Nat.le_refl _) hn
  have HM := Lib.hid (made_trees w n)
  clear hL hc hc2
  go_enter Try.func60, Try.ntmps60
  go_wp2_with fail
  have HB0 := Lib.hid ((Below.refl w.heap.size w).alloc (Nat.le_refl _) (.cells (madeCells #[.int .i64 0, .int .i64 0] (n * 2)) 106))
  go_loopw [4, 5, 11] (fun s4 s5 x wx => ∃ i : Nat, i ≤ n ∧ x = .int .i64 i ∧ TCap wx w.heap.size n ((List.range i).map fun i => (f i, i)) ∧ Below w.heap.size w wx) (fun _ _ x _ => n - (intOf x).toNat)
  case atStart => exact ⟨0, Nat.zero_le _, rfl, HM.out, HB0.out⟩
  case round =>
    clear HM HB0 hmk
    obtain ⟨i, hi, rfl, ht, hb⟩ := hrel
    by_cases e : i < n
    · have di : decide ((i : Int) < (n : Int)) = true := decide_eq_true (by omega)
      have hiI : (0 : Int) ≤ (i : Int) := by omega
      have ci := (hb.cell (p := ⟨b, off + i, none⟩) (World.block_lt_of_cell? w _ (HC.out i e))).trans (HC.out i e)
      have t0 := ht.there (i * 2) (by omega)
      have t1 := ht.there (i * 2 + 1) (by omega)
      have hs := ht.store (f i, i) (by simpa using e)
      have hl : ((List.range i).map fun i => (f i, i)).length = i := by simp
      rw [hl, show ((List.range i).map fun i => (f i, i)) ++ [(f i, i)] = (List.range (i + 1)).map fun i => (f i, i) by rw [List.range_succ, List.map_append]; rfl] at hs
      have HS := Lib.hid hs
      have HBS := Lib.hid ((hb.setCell (p := ⟨w.heap.size, i * 2, none⟩) (Nat.le_refl _) (.int .i64 (f i : Nat))).setCell (p := ⟨w.heap.size, i * 2 + 1, none⟩) (Nat.le_refl _) (.int .i64 (i : Nat)))
      obtain ⟨u0, hu0⟩ := Option.isSome_iff_exists.1 t0.1
      obtain ⟨u1, hu1⟩ := Option.isSome_iff_exists.1 t1.1
      have f0 := t0.2
      have f1 := t1.2
      dsimp only at HS
      generalize f i = x at *
      clear ht hb hs hl t0 t1
      go_wp2_with fail
      go_roundw
      case rel => exact ⟨i + 1, by omega, by go_num, HS.out, HBS.out⟩
      case measure => simp [intOf]; omega
    · obtain rfl : i = n := by omega
      have di : decide ((i : Int) < (i : Int)) = false := decide_eq_false (by omega)
      have HT := Lib.hid ht
      have HB := Lib.hid hb
      clear ht hb
      go_wp2_with fail
      go_ret
      exact ⟨rfl, HT.out, HB.out⟩

end Go.Proofs.Ytgnlpbnodijkgaa
