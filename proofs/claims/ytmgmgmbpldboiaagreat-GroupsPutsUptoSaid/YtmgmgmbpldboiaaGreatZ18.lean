/- Uu Uv: texts laid together, what is not used left out. -/
import Derived.Test.YtmgmgmbpldboiaaGreatZ17
namespace Go.Proofs.YtmgmgmbpldboiaaGreat
open Go.RowKit

/-- What Best answers. -/
noncomputable def bestAns (L : List Int) (m : Int) : List (List Int) × List Int × Nat :=
  if MayG L m then (if (sizeG (flatAns L m).1 (flatAns L m).2.1 L).1 < (sizeG (chooseAns L m).1 (chooseAns L m).2.1 L).1 then flatAns L m else chooseAns L m) else ([], [], 2)
theorem good_long {T : List (List Int)} {P L : List Int} {m : Int} (h : GoodPlan T P L m) (hM : MayG L m) : ∀ t ∈ T, 0 < t.length := fun t ht => by
  have := (h.2.2 t ht).1
  have := hM.1
  omega

set_option maxHeartbeats 3200000 in
set_option maxRecDepth 100000 in
theorem rbest_out (w : World) (A : Option Addr) (n c : Nat) (L : List Int) (m : Int) (hL : ZIn w A n L) (hn : n ≤ maxLen) (h : ¬ MayG L m) :
    Calls Tryz.prog 17 #[.slice A n c, .int .i64 m] w (PlanPost w (bestAns L m)) := by
  have hans : bestAns L m = ([], [], 2) := if_neg h
  rw [hans]
  obtain ⟨w1, hw1⟩ : ∃ w1, w1 = w.alloc (.cells #[.slice none 0 0, .slice none 0 0] 26) := ⟨_, rfl⟩
  have hb1 : Below w.heap.size w w1 := by rw [hw1]; exact (Below.refl _ _).alloc (Nat.le_refl _) _
  have hk1 : Blk w1 w.heap.size 26 #[.slice none 0 0, .slice none 0 0] := by rw [hw1]; exact blk_new w _ _
  have HC := Lib.hid (rchoose_out w1 A n c L m (hL.below hb1) hn h)
  have HF := Lib.hid fun (wx : World) (hb : Below w1.heap.size w1 wx) => rflat_out wx A n c L m ((hL.below hb1).below hb) hn h
  rw [show chooseAns L m = ([], [], 2) from if_neg h] at HC
  rw [show flatAns L m = ([], [], 2) from if_neg h] at HF
  have HB1 := Lib.hid hb1
  have HK1 := Lib.hid hk1
  clear hL h hans hb1 hk1
  go_enter Tryz.func17, Tryz.ntmps17
  go_wp2_with fail
  rw [← hw1]
  clear hw1
  refine HC.out.mono ?_
  rintro e w2 ⟨v2, rfl, hp2, hb2⟩
  obtain ⟨A2, n2, c2, B2, m2, d2, rfl, _⟩ := hp2
  have hb23 : Below w2.heap.size w2 (w2.alloc (.cells #[.slice A2 n2 c2, .slice B2 m2 d2] 26)) := (Below.refl _ _).alloc (Nat.le_refl _) _
  have HB3 := Lib.hid (hb2.trans (hb23.mono hb2.size))
  have HF3 := Lib.hid (HF.out _ (hb2.trans (hb23.mono hb2.size)))
  clear hb2 hb23 HF HC
  go_upto_region 2 with fail
  generalize w2.alloc (.cells #[.slice A2 n2 c2, .slice B2 m2 d2] 26) = w3 at *
  go_wp2_with fail
  refine HF3.out.mono ?_
  rintro e w4 ⟨v4, rfl, hp4, hb4⟩
  obtain ⟨A4, n4, c4, B4, m4, d4, rfl, _⟩ := hp4
  have hb45 : Below w4.heap.size w4 (w4.alloc (.cells #[.slice A4 n4 c4, .slice B4 m4 d4] 26)) := (Below.refl _ _).alloc (Nat.le_refl _) _
  have hB5 := HB3.out.trans ((hb4.trans (hb45.mono hb4.size)).mono HB3.out.size)
  have hk5 := (step_of_below hB5).blk HK1.out List.not_mem_nil List.not_mem_nil
  have q0 := (blk_cell hk5 0).trans rfl
  have q1 := (blk_cell hk5 1).trans rfl
  have f0 := blk_frozen hk5 0
  have f1 := blk_frozen hk5 1
  have HB5 := Lib.hid (HB1.out.trans (hB5.mono HB1.out.size))
  clear hb4 hb45 hB5 hk5 HF3
  go_upto_region 3 with fail
  generalize w4.alloc (.cells #[.slice A4 n4 c4, .slice B4 m4 d4] 26) = w5 at *
  go_wp2_with fail
  refine bodyPost_ret (v := .tuple #[.agg #[.slice none 0 0, .slice none 0 0], .int .i64 2]) ?_ rfl ⟨_, rfl, plan_none _, (HB5.out.setCell (p := ⟨w.heap.size, 0, none⟩) (Nat.le_refl _) _).setCell (p := ⟨w.heap.size, 1, none⟩) (Nat.le_refl _) _⟩
  simp [results, Tryz.results17, go_sem, q0, q1]

/-- The two cells of a result. -/
theorem set_two_heap (w : World) (g : Nat) (u v : Value) : ∀ k, k ≠ g → ((w.setCell ⟨g, 0, none⟩ u).setCell ⟨g, 1, none⟩ v).heap[k]? = w.heap[k]? := by
  intro k hk
  rw [Below.heap_setCell _ ⟨g, 1, none⟩ v k hk, Below.heap_setCell _ ⟨g, 0, none⟩ u k hk]

set_option maxHeartbeats 3200000 in
set_option maxRecDepth 100000 in
theorem rbest_any (w : World) (A : Option Addr) (n c : Nat) (L : List Int) (m : Nat) (hL : ZIn w A n L) (hnc : n ≤ c) (hn : n ≤ 1000000) (hM : MayG L m) :
    Calls Tryz.prog 17 #[.slice A n c, .int .i64 m] w (PlanPost w (bestAns L m)) := by
  have hgc := good_choose w hM
  have hgf := good_flat hM
  obtain ⟨w1, hw1⟩ : ∃ w1, w1 = w.alloc (.cells #[.slice none 0 0, .slice none 0 0] 26) := ⟨_, rfl⟩
  have hb1 : Below w.heap.size w w1 := by rw [hw1]; exact (Below.refl _ _).alloc (Nat.le_refl _) _
  have hk1 : Blk w1 w.heap.size 26 #[.slice none 0 0, .slice none 0 0] := by rw [hw1]; exact blk_new w _ _
  have HC := Lib.hid (rchoose_any w1 A n c L m (hL.below hb1) hnc hn hM)
  have HF := Lib.hid fun (wx : World) (hb : Below w1.heap.size w1 wx) => rflat_any wx A n c L m ((hL.below hb1).below hb) hn hM
  have HLX := Lib.hid (hL.below hb1)
  have hca : (chooseAns L m).2.2 = 0 := by rw [chooseAns, if_pos hM]
  have hfa : (flatAns L m).2.2 = 0 := by rw [flatAns, if_pos hM]
  have hans : bestAns L m = if (sizeG (flatAns L m).1 (flatAns L m).2.1 L).1 < (sizeG (chooseAns L m).1 (chooseAns L m).2.1 L).1 then flatAns L m else chooseAns L m := if_pos hM
  have HLC := Lib.hid (good_long hgc hM)
  have HLF := Lib.hid (good_long hgf hM)
  have HS := Lib.hid fun (wx : World) (v : Value) (T : List (List Int)) (P : List Int) (h : PlanIn wx v T P) (hb : Below w1.heap.size w1 wx) => rsize_any wx v T P h A n c L ((hL.below hb1).below hb) (by omega)
  have hsC : (sizeG (chooseAns L m).1 (chooseAns L m).2.1 L).1 ≤ 41000000 := by
    have h1 := codesG_short (chooseAns L m).1 (chooseAns L m).2.1 L (by rw [hL.1]; omega)
    have h2 := bitsG_short (chooseAns L m).1 (chooseAns L m).2.1
    unfold sizeG
    split
    · show _ + _ ≤ _
      omega
    · exact Nat.zero_le _
  have hsF : (sizeG (flatAns L m).1 (flatAns L m).2.1 L).1 ≤ 41000000 := by
    have h1 := codesG_short (flatAns L m).1 (flatAns L m).2.1 L (by rw [hL.1]; omega)
    have h2 := bitsG_short (flatAns L m).1 (flatAns L m).2.1
    unfold sizeG
    split
    · show _ + _ ≤ _
      omega
    · exact Nat.zero_le _
  generalize bestAns L m = ba at *
  generalize chooseAns L m = ca at *
  generalize flatAns L m = fa at *
  obtain ⟨Tc, Pc, kc⟩ := ca
  obtain ⟨Tf, Pf, kf⟩ := fa
  dsimp only at hca hfa hans HLC HLF hsC hsF
  subst hca hfa
  obtain ⟨x, hx⟩ : ∃ x, x = (sizeG Tc Pc L).1 := ⟨_, rfl⟩
  obtain ⟨y, hy⟩ : ∃ y, y = (sizeG Tf Pf L).1 := ⟨_, rfl⟩
  obtain ⟨x2, hx2⟩ : ∃ x2, x2 = (sizeG Tc Pc L).2 := ⟨_, rfl⟩
  obtain ⟨y2, hy2⟩ : ∃ y2, y2 = (sizeG Tf Pf L).2 := ⟨_, rfl⟩
  rw [← hx, ← hy] at hans
  rw [← hx] at hsC
  rw [← hy] at hsF
  have HX := Lib.hid hx
  have HY := Lib.hid hy
  have HX2 := Lib.hid hx2
  have HY2 := Lib.hid hy2
  have HANS := Lib.hid hans
  have HB1 := Lib.hid hb1
  have HK1 := Lib.hid hk1
  clear hL hans hb1 hk1 hgc hgf hx hy hx2 hy2 hM
  go_enter Tryz.func17, Tryz.ntmps17
  go_wp2_with fail
  rw [← hw1]
  clear hw1
  refine HC.out.mono ?_
  rintro e w2 ⟨v2, rfl, hp2, hb2⟩
  obtain ⟨A2, n2, c2, B2, m2, d2, rfl, hpl2⟩ : ∃ A2 n2 c2 B2 m2 d2, v2 = .agg #[.slice A2 n2 c2, .slice B2 m2 d2] ∧ PlanIn w2 (.agg #[.slice A2 n2 c2, .slice B2 m2 d2]) Tc Pc := by
    obtain ⟨A2, n2, c2, B2, m2, d2, hv, hr⟩ := id hp2
    exact ⟨A2, n2, c2, B2, m2, d2, hv, by rw [← hv]; exact hp2⟩
  have hb23 : Below w2.heap.size w2 (w2.alloc (.cells #[.slice A2 n2 c2, .slice B2 m2 d2] 26)) := (Below.refl _ _).alloc (Nat.le_refl _) _
  have HK6 := Lib.hid (blk_new w2 26 #[.slice A2 n2 c2, .slice B2 m2 d2])
  have HB3 := Lib.hid (hb2.trans (hb23.mono hb2.size))
  have HF3 := Lib.hid (HF.out _ (hb2.trans (hb23.mono hb2.size)))
  have HPC := Lib.hid (hpl2.below hb23)
  clear hb2 hb23 HF HC hp2 hpl2
  go_upto_region 2 with fail
  generalize w2.alloc (.cells #[.slice A2 n2 c2, .slice B2 m2 d2] 26) = w3 at *
  generalize w2.heap.size = g6 at *
  go_wp2_with fail
  refine HF3.out.mono ?_
  rintro e w4 ⟨v4, rfl, hp4, hb4⟩
  obtain ⟨A4, n4, c4, B4, m4, d4, rfl, hpl4⟩ : ∃ A4 n4 c4 B4 m4 d4, v4 = .agg #[.slice A4 n4 c4, .slice B4 m4 d4] ∧ PlanIn w4 (.agg #[.slice A4 n4 c4, .slice B4 m4 d4]) Tf Pf := by
    obtain ⟨A4, n4, c4, B4, m4, d4, hv, hr⟩ := id hp4
    exact ⟨A4, n4, c4, B4, m4, d4, hv, by rw [← hv]; exact hp4⟩
  have hb45 : Below w4.heap.size w4 (w4.alloc (.cells #[.slice A4 n4 c4, .slice B4 m4 d4] 26)) := (Below.refl _ _).alloc (Nat.le_refl _) _
  have hb35 := hb4.trans (hb45.mono hb4.size)
  have HK8 := Lib.hid (blk_new w4 26 #[.slice A4 n4 c4, .slice B4 m4 d4])
  have HK65 := Lib.hid ((step_of_below hb35).blk HK6.out List.not_mem_nil List.not_mem_nil)
  have HPC5 := Lib.hid (HPC.out.below hb35)
  have HPF5 := Lib.hid (hpl4.below hb45)
  have HB5 := Lib.hid (HB3.out.trans (hb35.mono HB3.out.size))
  clear hb4 hb45 hb35 HF3 hp4 hpl4 HPC HB3 HK6
  go_upto_region 3 with fail
  generalize w4.alloc (.cells #[.slice A4 n4 c4, .slice B4 m4 d4] 26) = w5 at *
  generalize w4.heap.size = g8 at *
  have p0 := (blk_cell HK65.out 0).trans rfl
  have p1 := (blk_cell HK65.out 1).trans rfl
  have HS5 := Lib.hid (HS.out w5 _ Tc Pc HPC5.out HB5.out)
  rw [← HX.out, ← HX2.out] at HS5
  go_wp2_with fail
  clear p0 p1
  refine HS5.out.mono ?_
  rintro e w6 ⟨rfl, hb6⟩
  have HK66 := Lib.hid ((step_of_below hb6).blk HK65.out List.not_mem_nil List.not_mem_nil)
  have HK86 := Lib.hid ((step_of_below hb6).blk HK8.out List.not_mem_nil List.not_mem_nil)
  have HPC6 := Lib.hid (HPC5.out.below hb6)
  have HPF6 := Lib.hid (HPF5.out.below hb6)
  have HB6 := Lib.hid (HB5.out.trans (hb6.mono HB5.out.size))
  clear hb6 HS5 HK65 HK8 HPC5 HPF5 HB5
  have p0 := (blk_cell HK86.out 0).trans rfl
  have p1 := (blk_cell HK86.out 1).trans rfl
  have HS6 := Lib.hid (HS.out w6 _ Tf Pf HPF6.out HB6.out)
  rw [← HY.out, ← HY2.out] at HS6
  go_wp2_with fail
  clear p0 p1
  refine HS6.out.mono ?_
  rintro e w7 ⟨rfl, hb7⟩
  have hk67 := (step_of_below hb7).blk HK66.out List.not_mem_nil List.not_mem_nil
  have hk87 := (step_of_below hb7).blk HK86.out List.not_mem_nil List.not_mem_nil
  have HPC7 := Lib.hid (HPC6.out.below hb7)
  have HPF7 := Lib.hid (HPF6.out.below hb7)
  have hb17 := HB6.out.trans (hb7.mono HB6.out.size)
  have hkR := (step_of_below hb17).blk HK1.out List.not_mem_nil List.not_mem_nil
  have HKR := Lib.hid hkR
  have HB7 := Lib.hid (HB1.out.trans (hb17.mono HB1.out.size))
  have r0 := (blk_cell hkR 0).trans rfl
  have r1 := (blk_cell hkR 1).trans rfl
  have f0 := blk_frozen hkR 0
  have f1 := blk_frozen hkR 1
  by_cases e : y < x
  · have d0 : decide ((y : Int) < (x : Int)) = true := decide_eq_true (by omega)
    have p0 := (blk_cell hk87 0).trans rfl
    have p1 := (blk_cell hk87 1).trans rfl
    have ha := HANS.out
    rw [if_pos e] at ha
    have HPE : Hid (PlanPost w ba (.returned (.tuple #[.agg #[.slice A4 n4 c4, .slice B4 m4 d4], .int .i64 0])) ((w7.setCell ⟨w.heap.size, 0, none⟩ (.slice A4 n4 c4)).setCell ⟨w.heap.size, 1, none⟩ (.slice B4 m4 d4))) := Lib.hid (by
      rw [ha]
      exact ⟨_, rfl, HPF7.out.past HLF.out HKR.out (set_two_heap _ _ _ _), (HB7.out.setCell (p := ⟨w.heap.size, 0, none⟩) (Nat.le_refl _) _).setCell (p := ⟨w.heap.size, 1, none⟩) (Nat.le_refl _) _⟩)
    generalize PlanPost w ba = PO at *
    clear ha hk67 hk87 hb17 hkR hb7 HS6
    go_wp2_with fail
    refine bodyPost_ret (v := .tuple #[.agg #[.slice A4 n4 c4, .slice B4 m4 d4], .int .i64 0]) ?_ rfl HPE.out
    simp [results, Tryz.results17, go_sem, r0, r1]
  · have d0 : decide ((y : Int) < (x : Int)) = false := decide_eq_false (by omega)
    have p0 := (blk_cell hk67 0).trans rfl
    have p1 := (blk_cell hk67 1).trans rfl
    have ha := HANS.out
    rw [if_neg e] at ha
    have HPE : Hid (PlanPost w ba (.returned (.tuple #[.agg #[.slice A2 n2 c2, .slice B2 m2 d2], .int .i64 0])) ((w7.setCell ⟨w.heap.size, 0, none⟩ (.slice A2 n2 c2)).setCell ⟨w.heap.size, 1, none⟩ (.slice B2 m2 d2))) := Lib.hid (by
      rw [ha]
      exact ⟨_, rfl, HPC7.out.past HLC.out HKR.out (set_two_heap _ _ _ _), (HB7.out.setCell (p := ⟨w.heap.size, 0, none⟩) (Nat.le_refl _) _).setCell (p := ⟨w.heap.size, 1, none⟩) (Nat.le_refl _) _⟩)
    generalize PlanPost w ba = PO at *
    clear ha hk67 hk87 hb17 hkR hb7 HS6
    go_wp2_with fail
    refine bodyPost_ret (v := .tuple #[.agg #[.slice A2 n2 c2, .slice B2 m2 d2], .int .i64 0]) ?_ rfl HPE.out
    simp [results, Tryz.results17, go_sem, r0, r1]

end Go.Proofs.YtmgmgmbpldboiaaGreat
namespace Go.Proofs.YtmgmgmbpldboiaaGreat
open Go.RowKit

set_option maxRecDepth 100000 in
theorem num_short (w : World) (A : Option Addr) (n c : Nat) (a k : Nat) (_hn : n ≤ 1000000000000) (_ha : a ≤ n) (hk : k ≤ 64) (_h : n < a + k) :
    Calls Tryz.prog 54 #[.slice A n c, .int .i64 a, .int .i64 k] w fun e w' => e = .returned (.tuple #[.int .u64 0, .int .i64 10]) ∧ w = w' := by
  go_enter Tryz.func54, Tryz.ntmps54
  go_wp2
  go_ret2
  exact ⟨rfl, rfl⟩
set_option maxRecDepth 100000 in
theorem num_ok (w : World) (A : Option Addr) (n c : Nat) (L : List Nat) (a k : Nat) (hi : IntsIn w A n L) (hb : Bit01 L) (hc : n ≤ c) (hn : c ≤ maxLen) (hk : k ≤ 64) (hak : a + k ≤ n) :
    Calls Tryz.prog 54 #[.slice A n c, .int .i64 a, .int .i64 k] w fun e w' => e = .returned (.tuple #[.int .u64 (val ((L.drop a).take k)), .int .i64 0]) ∧ w = w' := by
  unfold maxLen at hn
  have hb2 := hb.drop a
  go_enter Tryz.func54, Tryz.ntmps54
  go_wp2_with fail
  · refine (number_any w A k 0 ((L.drop a).take k) (hi.nil (by omega) hak) (hb2.take k) hk).mono ?_
    rintro e w' ⟨rfl, rfl⟩
    go_wp2_with fail
    go_ret2
    exact ⟨rfl, rfl⟩
  · refine (number_any w (Option.map (fun x => x.add a) A) k (c - a) ((L.drop a).take k) (hi.cut hak) (hb2.take k) hk).mono ?_
    rintro e w' ⟨rfl, rfl⟩
    go_wp2_with fail
    go_ret2
    exact ⟨rfl, rfl⟩

set_option maxRecDepth 100000 in
/-- A row's block is none of another type's. -/
theorem own_beside {w : World} {B e n p : Nat} {v : Value} {xs : List Value} {u : TypeId} {ds : Array Value} (h : w.ownsRow B e 1 v n xs) (k : Blk w p u ds) (hne : e ≠ u) : ∀ j, v.ownBlock = some j → j ∉ [p] := by
  intro j hj hm
  rw [List.mem_singleton] at hm
  subst hm
  obtain ⟨c1, f1, e1⟩ := Lib.ownsRow_kind h j hj
  unfold Blk at k
  rw [e1] at k
  simp only [Option.some.injEq, Obj.cells.injEq] at k
  exact hne k.2.1

/-- Lists of lengths of one's own in a slice of one's own. -/
structure Lens (w0 w : World) (v : Value) (q : Nat) (F : Nat → Value) (C : Nat → List Nat) : Prop where
  row : w.ownsRow w0.heap.size 22 1 v q ((List.range q).map F)
  each : ∀ t, t < q → (∃ A k, F t = .slice A (C t).length k ∧ (C t).length ≤ k) ∧ w.ownsRow w0.heap.size 3 1 (F t) (C t).length ((C t).map iv)
  below : Below w0.heap.size w0 w
theorem Lens.nil (w0 w : World) (F : Nat → Value) (C : Nat → List Nat) (h : Below w0.heap.size w0 w) : Lens w0 w (.slice none 0 0) 0 F C :=
  ⟨World.ownsRow_nil _ _ _ _, fun _ ht => absurd ht (Nat.not_lt_zero _), h⟩
theorem Lens.past {w0 w w' : World} {v : Value} {q : Nat} {F : Nat → Value} {C : Nat → List Nat} (h : Lens w0 w v q F C) (hb : Below w.heap.size w w') : Lens w0 w' v q F C :=
  ⟨row_low h.row hb, fun t ht => ⟨(h.each t ht).1, row_low (h.each t ht).2 hb⟩, h.below.trans (hb.mono h.below.size)⟩
set_option maxRecDepth 100000 in
/-- A store into another type's block. -/
theorem Lens.store {w0 w : World} {v : Value} {q : Nat} {F : Nat → Value} {C : Nat → List Nat} (h : Lens w0 w v q F C) {g : Nat} {u : TypeId} {ds : Array Value} (hg : Blk w g u ds) (h1 : (22 : TypeId) ≠ u) (h2 : (3 : TypeId) ≠ u) (hlo : w0.heap.size ≤ g) (i : Nat) (x : Value) : Lens w0 (w.setCell ⟨g, i, none⟩ x) v q F C := by
  have hs : Step w0.heap.size [g] [] w (w.setCell ⟨g, i, none⟩ x) := (Step.refl _ _ _ w).set (p := ⟨g, i, none⟩) hlo (by simp) x
  exact ⟨hs.row h.row (own_beside h.row hg h1) List.not_mem_nil, fun t ht => ⟨(h.each t ht).1, hs.row (h.each t ht).2 (own_beside (h.each t ht).2 hg h2) List.not_mem_nil⟩, h.below.setCell (p := ⟨g, i, none⟩) hlo x⟩
set_option maxRecDepth 100000 in
/-- One more list. -/
theorem Lens.push {w0 w w1 : World} {A : Option Addr} {q cap : Nat} {F : Nat → Value} {C : Nat → List Nat} (h : Lens w0 w (.slice A q cap) q F C) {A1 : Option Addr} {n k1 : Nat} (ht : w1.ownsRow w.heap.size 3 1 (.slice A1 n k1) n ((C q).map iv)) (hb : Below w.heap.size w w1) (hq : q ≤ 1000) (hD : (C q).length = n) :
    ∃ A2 cap2 w2, (Builtin.append_ #[24, 24] 24 #[.slice A q cap, .slice (some ⟨w1.heap.size, 0, none⟩) 1 1]).run Tryz.prog (w1.alloc (.cells #[.slice A1 n k1] 22)) = .ok (.slice A2 (q + 1) cap2) w2 ∧
      Lens w0 w2 (.slice A2 (q + 1) cap2) (q + 1) (fun t => if t = q then .slice A1 n k1 else F t) C ∧ ∀ (g : Nat) (u : TypeId) (ds : Array Value), Blk w1 g u ds → (22 : TypeId) ≠ u → Blk w2 g u ds := by
  obtain ⟨i2, h2, hi2⟩ := Option.map_eq_some_iff.1 infoSl
  simp only [Prod.mk.injEq] at hi2
  obtain ⟨hz0, hz1, hz2⟩ := hi2
  have hsz := h.below.size
  have hb01 := h.below.trans (hb.mono hsz)
  have hrow1 := row_low h.row hb
  have hsz1 := hb01.size
  obtain ⟨_, _, hvv, hcap, _, _⟩ := own_slice ht
  simp only [Value.slice.injEq] at hvv
  obtain ⟨rfl, _, rfl⟩ := hvv
  obtain ⟨v2, w2, hr, ho, hg, _, _⟩ := run_append_own_at (P := Tryz.prog) (w1.alloc (.cells #[.slice A1 n k1] 22)) w0.heap.size 24 24 22 i2 (.slice none 0 0) 1 24 Tryz.underlying24 h2 hz0 hz1 hz2 rfl (by decide) _ _ _ (hrow1.alloc _) ⟨w1.heap.size, 0, none⟩ 1 1 [.slice A1 n k1] rfl (cell_one_new w1 _ _)
    (fun u hu => by rw [List.mem_singleton.1 hu]; rfl) (by unfold maxLen; omega) (by omega) (by simp; omega)
  obtain ⟨A2, cap2, rfl, _, _, _⟩ := own_slice ho
  have hrow2 := hrow1.alloc (.cells #[.slice A1 n k1] 22)
  refine ⟨A2, cap2, w2, hr, ⟨?_, fun t ht2 => ?_, ?_⟩, fun g u ds hgb hne => ?_⟩
  · have h3 := ho
    rw [show ((List.range q).map F) ++ [.slice A1 n k1] = (List.range (q + 1)).map fun t => if t = q then .slice A1 n k1 else F t by
      rw [List.range_succ, List.map_append, List.map_singleton, if_pos rfl]
      congr 1
      apply List.map_congr_left
      intro t ht2
      have := List.mem_range.1 ht2
      rw [if_neg (by omega)]] at h3
    exact h3
  · by_cases e : t = q
    · subst e
      simp only [if_true]
      have hal := (World.ownsRow.mono ht hsz).alloc (.cells #[.slice A1 n k1] 22)
      rw [hD]
      exact ⟨⟨A1, k1, rfl, hcap⟩, World.ownsRow.kept hal hg (kinds_apart hal hrow2 (by decide))⟩
    · simp only [if_neg e]
      have hal := (row_low (h.each t (by omega)).2 hb).alloc (.cells #[.slice A1 n k1] 22)
      exact ⟨(h.each t (by omega)).1, World.ownsRow.kept hal hg (kinds_apart hal hrow2 (by decide))⟩
  · exact (hb01.alloc hsz1 _).grown hg (by simp; omega) (fun k hk => (hrow1.lt k hk).1)
  · have hlt : g < w1.heap.size := (Array.getElem?_eq_some_iff.1 hgb).1
    have hgb2 : Blk (w1.alloc (.cells #[.slice A1 n k1] 22)) g u ds := by
      unfold Blk
      rw [heap_alloc_old _ _ hlt]
      exact hgb
    have hne2 : ∀ j, (Value.slice A q cap).ownBlock = some j → j ≠ g := fun j hj e => own_beside hrow2 hgb2 hne j hj (by rw [e]; simp)
    unfold Blk at hgb2 ⊢
    rw [hg.block g (by simp; omega) (fun e => hne2 g e.symm rfl)]
    exact hgb2
set_option maxRecDepth 100000 in
/-- As a plan's tables. -/
theorem Lens.tabZ {w0 w : World} {A : Option Addr} {q c : Nat} {F : Nat → Value} {C : Nat → List Nat} (h : Lens w0 w (.slice A q c) q F C) (hm : ∀ t, t < q → (C t).length ≤ 1000) : TabZ w A q ((List.range q).map fun t => zL (C t)) := by
  refine ⟨by simp, fun hq => ?_⟩
  obtain ⟨A', c', hv, _, _, hA⟩ := own_slice h.row
  simp only [Value.slice.injEq] at hv
  obtain ⟨rfl, _, rfl⟩ := hv
  obtain ⟨b, rfl⟩ := hA hq
  refine ⟨b, 0, rfl, fun i hi => ?_⟩
  obtain ⟨⟨A2, k2, e1, e2⟩, e3⟩ := h.each i hi
  have hget : ((List.range q).map fun t => zL (C t)).getD i [] = zL (C i) := by
    rw [List.getD_eq_getElem?_getD, List.getElem?_map, List.getElem?_range hi]
    rfl
  rw [hget, zL_length]
  refine ⟨A2, k2, ?_, ?_, e2, ?_⟩
  · rw [Nat.zero_add, World.ownsRow.cellAt h.row i (by omega), List.getElem?_map, List.getElem?_range hi, ← e1]
    rfl
  · rw [e1] at e3
    have := zin_of (ints_of_own e3)
    exact this
  · have := hm i hi
    unfold maxLen
    omega

end Go.Proofs.YtmgmgmbpldboiaaGreat
