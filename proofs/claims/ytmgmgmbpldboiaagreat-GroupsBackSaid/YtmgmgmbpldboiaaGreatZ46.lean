/- Ah Ai: texts laid together, what is not used left out. -/
import Derived.Test.YtmgmgmbpldboiaaGreatZ44
import Derived.Test.YtmgmgmbpldboiaaGreatZ45
namespace Go.Proofs.YtmgmgmbpldboiaaGreat
open Go.RowKit

/-- Block g is a row for N trees that begins with T. -/
def TCap (w : World) (g N : Nat) (T : List (Nat × Nat)) : Prop :=
  ∃ cs, Blk w g 111 cs ∧ cs.size = N * 2 ∧ ∀ i, i < T.length → cs[i * 2]? = some (.int .i64 (T.getD i (0, 0)).1) ∧ cs[i * 2 + 1]? = some (.int .i64 (T.getD i (0, 0)).2)
theorem TCap.row {w : World} {g N : Nat} {T : List (Nat × Nat)} (h : TCap w g N T) : TRow w g T := by
  obtain ⟨cs, h1, _, h3⟩ := h
  exact ⟨cs, h1, h3⟩
set_option maxRecDepth 100000 in
theorem Step.tcap {B : Nat} {ps : List Nat} {w w' : World} (h : Step B ps [] w w') {g N : Nat} {T : List (Nat × Nat)} (hr : TCap w g N T) (hp : g ∉ ps) : TCap w' g N T := by
  obtain ⟨cs, hb, hc⟩ := hr
  exact ⟨cs, h.blk hb hp (by simp), hc⟩
theorem TCap.there {w : World} {g N : Nat} {T : List (Nat × Nat)} (h : TCap w g N T) (j : Nat) (hj : j < N * 2) : (w.cell? ⟨g, j, none⟩).isSome = true ∧ w.frozen? ⟨g, j, none⟩ = false := by
  obtain ⟨cs, hb, hs, _⟩ := h
  refine ⟨?_, blk_frozen hb j⟩
  rw [blk_cell hb, Array.getElem?_eq_getElem (by omega)]
  rfl
set_option maxRecDepth 100000 in
theorem TCap.store {w : World} {g N : Nat} {T : List (Nat × Nat)} (h : TCap w g N T) (x : Nat × Nat) (hN : T.length < N) :
    TCap ((w.setCell ⟨g, T.length * 2, none⟩ (.int .i64 x.1)).setCell ⟨g, T.length * 2 + 1, none⟩ (.int .i64 x.2)) g N (T ++ [x]) := by
  obtain ⟨cs, hb, hs, hc⟩ := h
  refine ⟨_, blk_set (blk_set hb (T.length * 2) (.int .i64 x.1)) (T.length * 2 + 1) (.int .i64 x.2), by simp [hs], fun i hi => ?_⟩
  rw [List.length_append, List.length_singleton] at hi
  by_cases e : i = T.length
  · subst e
    have e0 : (T ++ [x]).getD T.length (0, 0) = x := by simp
    rw [e0]
    constructor
    · rw [Array.getElem?_setIfInBounds_ne (by omega), Array.getElem?_setIfInBounds_self_of_lt (by omega)]
    · rw [Array.getElem?_setIfInBounds_self_of_lt (by simp; omega)]
  · have hi2 : i < T.length := by omega
    have e0 : (T ++ [x]).getD i (0, 0) = T.getD i (0, 0) := by
      rw [List.getD_eq_getElem?_getD, List.getD_eq_getElem?_getD, List.getElem?_append_left hi2]
    rw [e0]
    have h3 := hc i hi2
    constructor
    · rw [Array.getElem?_setIfInBounds_ne (by omega), Array.getElem?_setIfInBounds_ne (by omega)]
      exact h3.1
    · rw [Array.getElem?_setIfInBounds_ne (by omega), Array.getElem?_setIfInBounds_ne (by omega)]
      exact h3.2

theorem Tryz.infoTree : (Tryz.prog.info? 111).map (fun i => (i.zero, i.size, i.bytes)) = some (some (.agg #[.int .i64 0, .int .i64 0]), 2, 16) := by kernel_rfl
theorem make_trees (w : World) (n m : Nat) (hn : n ≤ m) (hm : m ≤ 1000000) : (Instr.makeSlice 107 (.int .i64 n) (.int .i64 m)).run Tryz.prog w = .ok (.slice (some ⟨w.heap.size, 0, none⟩) n m) (w.alloc (.cells (madeCells #[.int .i64 0, .int .i64 0] (m * 2)) 111)) := by
  obtain ⟨i3, h3, hz0, hz1, hz2⟩ := info_parts Tryz.infoTree
  have h := run_make (P := Tryz.prog) w 107 111 i3 (.agg #[.int .i64 0, .int .i64 0]) Tryz.underlying107 h3 hz0 .i64 .i64 (n : Int) (m : Int) (by omega) (by omega) (by rw [hz2]; omega) (by omega)
  rw [hz1, Int.toNat_natCast, Int.toNat_natCast] at h
  exact h
set_option maxRecDepth 100000 in
theorem made_trees (w : World) (m : Nat) : TCap (w.alloc (.cells (madeCells #[.int .i64 0, .int .i64 0] (m * 2)) 111)) w.heap.size m [] :=
  ⟨_, blk_new w _ _, by rw [size_madeCells], fun i hi => absurd hi (by simp)⟩

set_option maxHeartbeats 1600000 in
set_option maxRecDepth 100000 in
theorem alone_any (w : World) (A : Option Addr) (n c : Nat) (f : Nat → Nat) (hL : IntsIn w A n ((List.range n).map f)) (h1 : 1 ≤ n) (hn : n ≤ 1000000) :
    Calls Tryz.prog 81 #[.slice A n c] w fun e w' => e = .returned (.slice (some ⟨w.heap.size, 0, none⟩) n n) ∧ TCap w' w.heap.size n ((List.range n).map fun i => (f i, i)) ∧ Below w.heap.size w w' := by
  obtain ⟨b, off, rfl, hc⟩ := hL.2 (by omega)
  have hc2 : ∀ i, i < n → w.cell? ⟨b, off + i, none⟩ = some (.int .i64 (f i)) := fun i hi => by rw [hc i hi, range_getD n f i hi]
  have HC := Lib.hid hc2
  have hmk := make_trees w n n (Nat.le_refl _) hn
  have HM := Lib.hid (made_trees w n)
  clear hL hc hc2
  go_enter Tryz.func81, Tryz.ntmps81
  go_wp2_with fail
  have HB0 := Lib.hid ((Below.refl w.heap.size w).alloc (Nat.le_refl _) (.cells (madeCells #[.int .i64 0, .int .i64 0] (n * 2)) 111))
  go_loopw [4, 5, 11] (fun s4 s5 x wx => ∃ i : Nat, i ≤ n ∧ x = .int .i64 i ∧ TCap wx w.heap.size n ((List.range i).map fun i => (f i, i)) ∧ Below w.heap.size w wx) (fun _ _ x _ => n - (intOf x).toNat)
  case atStart => exact ⟨0, Nat.zero_le _, rfl, HM.out, HB0.out⟩
  case round =>
    clear HM HB0 hmk
    obtain ⟨i, hi, rfl, ht, hb⟩ := hrel
    by_cases e : i < n
    · have di : decide ((i : Int) < (n : Int)) = true := decide_eq_true (by omega)
      have hiI : (0 : Int) ≤ (i : Int) := by omega
      have ci := (hb.cell (p := ⟨b, off + i, none⟩) (World.block_lt_of_cell? w _ (HC.out i e))).trans (HC.out i e)
      have t0 := ht.there (i * 2) (by omega)
      have t1 := ht.there (i * 2 + 1) (by omega)
      have hs := ht.store (f i, i) (by simpa using e)
      have hl : ((List.range i).map fun i => (f i, i)).length = i := by simp
      rw [hl, show ((List.range i).map fun i => (f i, i)) ++ [(f i, i)] = (List.range (i + 1)).map fun i => (f i, i) by rw [List.range_succ, List.map_append]; rfl] at hs
      have HS := Lib.hid hs
      have HBS := Lib.hid ((hb.setCell (p := ⟨w.heap.size, i * 2, none⟩) (Nat.le_refl _) (.int .i64 (f i : Nat))).setCell (p := ⟨w.heap.size, i * 2 + 1, none⟩) (Nat.le_refl _) (.int .i64 (i : Nat)))
      obtain ⟨u0, hu0⟩ := Option.isSome_iff_exists.1 t0.1
      obtain ⟨u1, hu1⟩ := Option.isSome_iff_exists.1 t1.1
      have f0 := t0.2
      have f1 := t1.2
      dsimp only at HS
      generalize f i = x at *
      clear ht hb hs hl t0 t1
      go_wp2_with fail
      go_roundw
      case rel => exact ⟨i + 1, by omega, by go_num, HS.out, HBS.out⟩
      case measure => simp [intOf]; omega
    · obtain rfl : i = n := by omega
      have di : decide ((i : Int) < (i : Int)) = false := decide_eq_false (by omega)
      have HT := Lib.hid ht
      have HB := Lib.hid hb
      clear ht hb
      go_wp2_with fail
      go_ret
      exact ⟨rfl, HT.out, HB.out⟩

end Go.Proofs.YtmgmgmbpldboiaaGreat
namespace Go.Proofs.YtmgmgmbpldboiaaGreat
open Go.RowKit

/-- A row's first tree; of none one that all others stand ahead of. -/
def hd : List (Nat × Nat) → Nat × Nat
  | [] => (9223372036854775807, 0)
  | x :: _ => x
theorem hd_drop (L : List (Nat × Nat)) (p : Nat) (h : p < L.length) : hd (L.drop p) = L.getD p (0, 0) := by
  rw [List.drop_eq_getElem_cons h, List.getD_eq_getElem?_getD, List.getElem?_eq_getElem h]
  rfl

set_option maxHeartbeats 1600000 in
set_option maxRecDepth 100000 in
theorem head_any (w : World) (A : Option Addr) (g p c : Nat) (L : List (Nat × Nat)) (h : TRow w g L) (hA : p < L.length → A = some ⟨g, p * 2, none⟩) (hp : p ≤ L.length) (_hn : L.length ≤ 1000000) :
    Calls Tryz.prog 154 #[.slice A (L.length - p) c] w fun e w' => e = .returned (.agg #[.int .i64 (hd (L.drop p)).1, .int .i64 (hd (L.drop p)).2]) ∧ Below w.heap.size w w' := by
  by_cases e : p < L.length
  · obtain rfl := hA e
    rw [hd_drop L p e]
    have c0 := h.cell0 e
    have c1 := h.cell1 e
    have hz := h.lt
    generalize L.getD p (0, 0) = x at *
    obtain ⟨k, hk⟩ : ∃ k, k = L.length - p := ⟨_, rfl⟩
    rw [← hk]
    have d1 : ((k : Int) == 0) = false := by rw [beq_eq_false_iff_ne]; omega
    have hkI : (0 : Int) < (k : Int) := by omega
    have hkN : 0 < k := by omega
    have HB0 := Lib.hid ((Below.refl w.heap.size w).alloc (Nat.le_refl _) (.cells #[.int .i64 0, .int .i64 0] 111))
    clear h hA hk
    go_enter Tryz.func154, Tryz.ntmps154
    go_wp2_with fail
    have q0 := cell_pair0 w (.int .i64 x.1) (.int .i64 x.2) 111
    have q1 := cell_pair1 w (.int .i64 x.1) (.int .i64 x.2) 111
    refine bodyPost_ret (v := .agg #[.int .i64 x.1, .int .i64 x.2]) ?_ rfl ⟨rfl, ?_⟩
    · simp [results, Tryz.results154, go_sem, q0, q1]
    · exact (Below.refl w.heap.size w).alloc (Nat.le_refl _) _
  · have hpe : p = L.length := by omega
    subst hpe
    rw [List.drop_length, Nat.sub_self]
    clear h hA
    go_enter Tryz.func154, Tryz.ntmps154
    go_wp2_with fail
    have q0 := cell_pair0 w (.int .i64 9223372036854775807) (.int .i64 0) 111
    have q1 := cell_pair1 w (.int .i64 9223372036854775807) (.int .i64 0) 111
    refine bodyPost_ret (v := .agg #[.int .i64 9223372036854775807, .int .i64 0]) ?_ rfl ⟨rfl, ?_⟩
    · simp [results, Tryz.results154, go_sem, q0, q1]
    · exact (Below.refl w.heap.size w).alloc (Nat.le_refl _) _

set_option maxRecDepth 100000 in
theorem blk_two (w : World) (a b c d : Value) (t : TypeId) : Blk ((w.alloc (.cells #[a, b] t)).alloc (.cells #[c, d] t)) w.heap.size t #[a, b] ∧ Blk ((w.alloc (.cells #[a, b] t)).alloc (.cells #[c, d] t)) (w.heap.size + 1) t #[c, d] := by
  constructor
  · exact (heap_alloc_old _ _ (by simp)).trans (heap_alloc_new w _)
  · have h := heap_alloc_new (w.alloc (.cells #[a, b] t)) (.cells #[c, d] t)
    simpa [Blk] using h
set_option maxRecDepth 100000 in
theorem grow_step (B : Nat) (w : World) (q : Nat) (os : Array Obj) (hB : B ≤ w.heap.size) : Step B [] [] w (Go.Sort.grow (w.drewN q) os) := by
  have hold : ∀ k, k < w.heap.size → (Go.Sort.grow (w.drewN q) os).heap[k]? = w.heap[k]? := fun k hk => by
    show (w.heap ++ os)[k]? = _
    rw [Array.getElem?_append_left hk]
  refine ⟨⟨rfl, rfl, rfl, ?_, fun k hk => ?_⟩, fun k cs t fr hh _ _ => (hold k (Array.getElem?_eq_some_iff.1 hh).1).trans hh⟩
  · show w.heap.size ≤ (w.heap ++ os).size
    simp
  · exact hold k (by omega)

/-- The lesser of two trees, of equals the first. -/
def lesser (x y : Nat × Nat) : Nat × Nat := if riseN y x < 0 then y else x

set_option maxHeartbeats 3200000 in
set_option maxRecDepth 100000 in
theorem minTwo_any (w : World) (b c : Nat) (x y : Nat × Nat) (hx0 : w.cell? ⟨b, 0, none⟩ = some (.int .i64 x.1)) (hx1 : w.cell? ⟨b, 1, none⟩ = some (.int .i64 x.2)) (hy0 : w.cell? ⟨b, 2, none⟩ = some (.int .i64 y.1)) (hy1 : w.cell? ⟨b, 3, none⟩ = some (.int .i64 y.2)) :
    Calls Tryz.prog 153 #[.slice (some ⟨b, 0, none⟩) 2 c, .func (.func 151) #[] #[]] w fun e w' => e = .returned (.agg #[.int .i64 (lesser x y).1, .int .i64 (lesser x y).2]) ∧ Below w.heap.size w w' := by
  have hb := World.block_lt_of_cell? w ⟨b, 0, none⟩ hx0
  have HR := Lib.hid fun w1 : World => rising_any ((y.1 : Int), (y.2 : Int)) ((x.1 : Int), (x.2 : Int)) w1
  have hP : Hid (lesser x y = if riseN y x < 0 then y else x) := Lib.hid rfl
  have hr : riseI ((y.1 : Int), (y.2 : Int)) ((x.1 : Int), (x.2 : Int)) = riseN y x := rfl
  rw [hr] at HR
  clear hr
  generalize lesser x y = z at *
  generalize riseN y x = r at *
  obtain ⟨x0, x1⟩ := x
  obtain ⟨y0, y1⟩ := y
  dsimp only at *
  go_enter Tryz.func153, Tryz.ntmps153
  go_wp2_with fail
  have HS0 := Lib.hid (blk_two w (.int .i64 0) (.int .i64 0) (.int .i64 x0) (.int .i64 x1) 111)
  have HB0 := Lib.hid (((Below.refl w.heap.size w).alloc (Nat.le_refl _) (.cells #[.int .i64 0, .int .i64 0] 111)).alloc (by simp) (.cells #[.int .i64 x0, .int .i64 x1] 111))
  go_loopw [6] (fun i wx => (i = .int .i64 1 ∧ Blk wx (w.heap.size + 1) 111 #[.int .i64 x0, .int .i64 x1] ∨ i = .int .i64 2 ∧ Blk wx (w.heap.size + 1) 111 #[.int .i64 z.1, .int .i64 z.2]) ∧ Blk wx w.heap.size 111 #[.int .i64 0, .int .i64 0] ∧ Below w.heap.size w wx) (fun i _ => 2 - (intOf i).toNat)
  case atStart => exact ⟨.inl ⟨rfl, HS0.out.2⟩, HS0.out.1, HB0.out⟩
  case round =>
    clear HS0 HB0
    obtain ⟨hi, hr0, hb0⟩ := hrel
    have HR0 := Lib.hid hr0
    have HB := Lib.hid hb0
    rcases hi with ⟨rfl, hm⟩ | ⟨rfl, hm⟩
    · have cy0 := (hb0.cell (p := ⟨b, 2, none⟩) hb).trans hy0
      have cy1 := (hb0.cell (p := ⟨b, 3, none⟩) hb).trans hy1
      have cm0 : wr.cell? ⟨w.heap.size + 1, 0, none⟩ = some (.int .i64 x0) := blk_cell hm 0
      have cm1 : wr.cell? ⟨w.heap.size + 1, 1, none⟩ = some (.int .i64 x1) := blk_cell hm 1
      have dy0 : wr.drew.cell? ⟨b, 2, none⟩ = some (.int .i64 y0) := cy0
      have dy1 : wr.drew.cell? ⟨b, 3, none⟩ = some (.int .i64 y1) := cy1
      have dm0 : wr.drew.cell? ⟨w.heap.size + 1, 0, none⟩ = some (.int .i64 x0) := cm0
      have dm1 : wr.drew.cell? ⟨w.heap.size + 1, 1, none⟩ = some (.int .i64 x1) := cm1
      have HM := Lib.hid hm
      have zb : b < wr.heap.size := World.block_lt_of_cell? wr ⟨b, 2, none⟩ cy0
      have zm : w.heap.size + 1 < wr.heap.size := World.block_lt_of_cell? wr ⟨w.heap.size + 1, 0, none⟩ cm0
      clear hx0 hx1 hy0 hy1 hm hr0 hb0
      go_upto_region 7 with fail
      go_region_held3 (fun w' => w'.cell? ⟨b, 2, none⟩ = some (.int .i64 y0) ∧ w'.cell? ⟨b, 3, none⟩ = some (.int .i64 y1) ∧ w'.cell? ⟨w.heap.size + 1, 0, none⟩ = some (.int .i64 x0) ∧ w'.cell? ⟨w.heap.size + 1, 1, none⟩ = some (.int .i64 x1))
        (first | with_reducible exact ⟨cy0, cy1, cm0, cm1⟩ | with_reducible exact ⟨dy0, dy1, dm0, dm1⟩ | with_reducible exact ⟨ey0, ey1, em0, em1⟩)
        (first
          | (go_at_call 151; with_reducible refine (HR.out _).mono ?_; rintro e w2 ⟨rfl, q, os, hw2⟩
             have hstep := grow_step wr.heap.size wr.drew q os (Nat.le_refl _)
             rw [← hw2] at hstep
             have ey0 : w2.cell? ⟨b, 2, none⟩ = some (.int .i64 y0) := (hstep.below.cell (p := ⟨b, 2, none⟩) zb).trans dy0
             have ey1 : w2.cell? ⟨b, 3, none⟩ = some (.int .i64 y1) := (hstep.below.cell (p := ⟨b, 3, none⟩) zb).trans dy1
             have em0 : w2.cell? ⟨w.heap.size + 1, 0, none⟩ = some (.int .i64 x0) := (hstep.below.cell (p := ⟨w.heap.size + 1, 0, none⟩) zm).trans dm0
             have em1 : w2.cell? ⟨w.heap.size + 1, 1, none⟩ = some (.int .i64 x1) := (hstep.below.cell (p := ⟨w.heap.size + 1, 1, none⟩) zm).trans dm1
             have HW2 := Lib.hid hw2
             clear hw2))
      have hm2 : Blk w2 (w.heap.size + 1) 111 #[.int .i64 x0, .int .i64 x1] := hstep.blk HM.out (by simp) (by simp)
      have h02 : Blk w2 w.heap.size 111 #[.int .i64 0, .int .i64 0] := hstep.blk HR0.out (by simp) (by simp)
      have hb2 : Below w.heap.size w w2 := HB.out.trans (Below.mono (w := wr) ⟨hstep.below.os, hstep.below.tape, hstep.below.output, hstep.below.size, hstep.below.block⟩ HB.out.size)
      have fm0 := blk_frozen hm2 0
      have fm1 := blk_frozen hm2 1
      have H02 := Lib.hid h02
      have HB2 := Lib.hid hb2
      have HM2 := Lib.hid hm2
      clear cy0 cy1 cm0 cm1 dy0 dy1 dm0 dm1 hstep hm2 h02 hb2 HR HW2 zb zm HM HR0 HB
      by_cases e : r < 0
      · have dr : decide (r < 0) = true := decide_eq_true e
        have hz := hP.out
        rw [if_pos e] at hz
        subst hz
        have HS := Lib.hid (blk_set (blk_set HM2.out 0 (.int .i64 y0)) 1 (.int .i64 y1))
        have H03 : Hid (Blk ((w2.setCell ⟨w.heap.size + 1, 0, none⟩ (.int .i64 y0)).setCell ⟨w.heap.size + 1, 1, none⟩ (.int .i64 y1)) w.heap.size 111 #[.int .i64 0, .int .i64 0]) := Lib.hid (by
          have h3 : Step 0 [w.heap.size + 1] [] w2 ((w2.setCell ⟨w.heap.size + 1, 0, none⟩ (.int .i64 y0)).setCell ⟨w.heap.size + 1, 1, none⟩ (.int .i64 y1)) := ((Step.refl 0 [w.heap.size + 1] [] w2).set (p := ⟨w.heap.size + 1, 0, none⟩) (Nat.zero_le _) (by simp) (.int .i64 y0)).set (p := ⟨w.heap.size + 1, 1, none⟩) (Nat.zero_le _) (by simp) (.int .i64 y1)
          exact h3.blk H02.out (by simp) (by simp))
        have HB3 := Lib.hid ((HB2.out.setCell (p := ⟨w.heap.size + 1, 0, none⟩) (Nat.le_succ _) (.int .i64 y0)).setCell (p := ⟨w.heap.size + 1, 1, none⟩) (Nat.le_succ _) (.int .i64 y1))
        clear hP
        go_wp2_with fail
        go_roundw
        case rel => exact ⟨.inr ⟨by go_num, HS.out⟩, H03.out, HB3.out⟩
        case measure => simp [intOf]
      · have dr : decide (r < 0) = false := decide_eq_false e
        have hz := hP.out
        rw [if_neg e] at hz
        subst hz
        clear hP
        go_wp2_with fail
        go_roundw
        case rel => exact ⟨.inr ⟨by go_num, HM2.out⟩, H02.out, HB2.out⟩
        case measure => simp [intOf]
    · have cm0 : wr.cell? ⟨w.heap.size + 1, 0, none⟩ = some (.int .i64 z.1) := blk_cell hm 0
      have cm1 : wr.cell? ⟨w.heap.size + 1, 1, none⟩ = some (.int .i64 z.2) := blk_cell hm 1
      have k0 : wr.cell? ⟨w.heap.size, 0, none⟩ = some (.int .i64 0) := blk_cell hr0 0
      have k1 : wr.cell? ⟨w.heap.size, 1, none⟩ = some (.int .i64 0) := blk_cell hr0 1
      have f0 := blk_frozen hr0 0
      have f1 := blk_frozen hr0 1
      have hs := blk_set (blk_set hr0 0 (.int .i64 z.1)) 1 (.int .i64 z.2)
      have q0 : ((wr.setCell ⟨w.heap.size, 0, none⟩ (.int .i64 z.1)).setCell ⟨w.heap.size, 1, none⟩ (.int .i64 z.2)).cell? ⟨w.heap.size, 0, none⟩ = some (.int .i64 z.1) := blk_cell hs 0
      have q1 : ((wr.setCell ⟨w.heap.size, 0, none⟩ (.int .i64 z.1)).setCell ⟨w.heap.size, 1, none⟩ (.int .i64 z.2)).cell? ⟨w.heap.size, 1, none⟩ = some (.int .i64 z.2) := blk_cell hs 1
      have HB3 := Lib.hid ((HB.out.setCell (p := ⟨w.heap.size, 0, none⟩) (Nat.le_refl _) (.int .i64 z.1)).setCell (p := ⟨w.heap.size, 1, none⟩) (Nat.le_refl _) (.int .i64 z.2))
      clear hx0 hx1 hy0 hy1 hm hr0 hb0 hs HR hP HB HR0
      go_wp2_with fail
      (try simp only [Exit.inBlock, Exit.then])
      refine bodyPost_ret (v := .agg #[.int .i64 z.1, .int .i64 z.2]) ?_ rfl ⟨rfl, HB3.out⟩
      simp [results, Tryz.results153, go_sem, q0, q1]

end Go.Proofs.YtmgmgmbpldboiaaGreat
