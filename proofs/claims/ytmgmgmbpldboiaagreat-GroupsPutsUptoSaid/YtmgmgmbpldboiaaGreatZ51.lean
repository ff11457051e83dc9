/- Grk Grz: texts laid together, what is not used left out. -/
import Derived.Test.YtmgmgmbpldboiaaGreatZ27
import Derived.Test.YtmgmgmbpldboiaaGreatZ17
import Derived.Test.YtmgmgmbpldboiaaGreatZ11
import Derived.Test.YtmgmgmbpldboiaaGreatZ50
import Derived.Test.YtmgmgmbpldboiaaGreatZ41
import Derived.Test.YtmgmgmbpldboiaaGreatZ18
namespace Go.Proofs.YtmgmgmbpldboiaaGreat
open Go.RowKit

set_option maxHeartbeats 3200000 in
set_option maxRecDepth 100000 in
theorem cgflat_out (w : World) (A : Option Addr) (n c : Nat) (L : List Int) (m : Int) (hL : ZIn w A n L) (hn : n ≤ maxLen) (h : ¬ MayG L m) :
    Calls Tryz.prog 14 #[.slice A n c, .int .i64 m] w (PlanPost w (flatAns L m)) := by
  have hans : flatAns L m = ([], [], 2) := if_neg h
  rw [hans]
  have HM := Lib.hid fun (w1 : World) (hb : ZIn w1 A n L) => clist_any w1 A n c L m hb hn
  rw [show decide (MayG L m) = false from decide_eq_false h] at HM
  have hb0 : Below w.heap.size w (w.alloc (.cells #[.slice none 0 0, .slice none 0 0] 26)) := (Below.refl _ _).alloc (Nat.le_refl _) _
  have HL := Lib.hid (hL.below hb0)
  have hk0 := blk_new w 26 #[.slice none 0 0, .slice none 0 0]
  have HK0 := Lib.hid hk0
  have HB0 := Lib.hid hb0
  clear hL h hans hk0 hb0
  go_enter Tryz.func14, Tryz.ntmps14
  go_wp2_with fail
  refine (HM.out _ HL.out).mono ?_
  rintro e w' ⟨rfl, rfl⟩
  have q0 := (blk_cell HK0.out 0).trans rfl
  have q1 := (blk_cell HK0.out 1).trans rfl
  have f0 := blk_frozen HK0.out 0
  have f1 := blk_frozen HK0.out 1
  generalize w.alloc (.cells #[.slice none 0 0, .slice none 0 0] 26) = w1 at *
  go_wp2_with fail
  refine bodyPost_ret (v := .tuple #[.agg #[.slice none 0 0, .slice none 0 0], .int .i64 2]) ?_ rfl ⟨_, rfl, plan_none _, (HB0.out.setCell (p := ⟨w.heap.size, 0, none⟩) (Nat.le_refl _) _).setCell (p := ⟨w.heap.size, 1, none⟩) (Nat.le_refl _) _⟩
  simp [results, Tryz.results14, go_sem, q0, q1]

set_option maxRecDepth 100000 in
theorem count_nought (L : List Nat) (g s : Nat) : ∀ q, q ≤ L.length → countQ L (List.replicate g 0) 0 s q = (L.take q).count s
  | 0, _ => by simp [countQ]
  | q + 1, h => by
    rw [countQ_next, count_nought L g s q (by omega), count_next L q 0 (by omega) s]
    have e : (List.replicate g 0).getD (q / 50) 0 = 0 := by
      rw [List.getD_eq_getElem?_getD, List.getElem?_replicate]
      split <;> rfl
    simp only [e, true_and]
theorem count_flat (L : List Nat) (g s : Nat) : countF L (List.replicate g 0) 0 s = L.count s := by
  unfold countF
  rw [count_nought L g s L.length (Nat.le_refl _), List.take_of_length_le (Nat.le_refl _)]
set_option maxRecDepth 100000 in
theorem range_self (R : List Nat) (m : Nat) (h : R.length = m) : (List.range m).map (fun j => ((zL R).getD j 0).toNat) = R := by
  subst h
  apply List.ext_getElem?
  intro j
  by_cases hj : j < R.length
  · rw [List.getElem?_map, List.getElem?_range hj, List.getElem?_eq_getElem hj]
    unfold zL
    rw [Option.map_some, List.getD_eq_getElem?_getD, List.getElem?_map, List.getElem?_eq_getElem hj]
    simp
  · rw [List.getElem?_eq_none (by simp; omega), List.getElem?_eq_none (by omega)]

set_option maxHeartbeats 6400000 in
set_option maxRecDepth 100000 in
theorem cgflat_any (w : World) (A : Option Addr) (n c : Nat) (L : List Int) (m : Nat) (hL : ZIn w A n L) (hM : MayG L m) :
    Calls Tryz.prog 14 #[.slice A n c, .int .i64 m] w (PlanPost w (flatAns L m)) := by
  have hln := hL.1
  have h1n : 1 ≤ n := by have := hM.2.2.1; omega
  have hn : n ≤ 1638350 := by have := hM.2.2.2.1; omega
  have hm3 : 3 ≤ m := by have := hM.1; omega
  have hm258 : m ≤ 258 := by have := hM.2.1; omega
  obtain ⟨l, hl⟩ : ∃ l, l = natL L := ⟨_, rfl⟩
  have hll : l.length = n := by rw [hl]; unfold natL; rw [List.length_map, hln]
  have hlm : ∀ x ∈ l, x < m := by
    intro x hx
    rw [hl] at hx
    obtain ⟨y, hy, rfl⟩ := List.mem_map.1 hx
    have := hM.2.2.2.2 y hy
    omega
  have hin : IntsIn w A n l := by rw [hl]; exact ints_of_zin hL fun x hx => (hM.2.2.2.2 x hx).1
  have hAb : ∀ a, A = some a → a.block < w.heap.size := fun a ha => by
    obtain ⟨b, off, he, hc⟩ := hin.2 (by omega)
    rw [he] at ha
    cases ha
    exact World.block_lt_of_cell? w _ (hc 0 (by omega))
  obtain ⟨G, hG⟩ : ∃ G, G = groupsN n := ⟨_, rfl⟩
  have hGn : G ≤ 40000 ∧ n ≤ 50 * G ∧ 50 * G < n + 50 := by rw [hG]; unfold groupsN; omega
  obtain ⟨R, hR⟩ : ∃ R, R = flatPl l m := ⟨_, rfl⟩
  have hans : flatAns L m = ([zL R, zL R], zL (List.replicate G 0), 0) := by
    unfold flatAns
    rw [if_pos hM, ← hl, Int.toNat_natCast, hln, ← hG, hR]
  rw [hans]
  have HPO : Hid (∀ v w', PlanIn w' v [zL R, zL R] (zL (List.replicate G 0)) → Below w.heap.size w w' → PlanPost w ([zL R, zL R], zL (List.replicate G 0), 0) (.returned (.tuple #[v, .int .i64 0])) w') := Lib.hid fun v w' h1 h2 => ⟨v, rfl, h1, h2⟩
  generalize PlanPost w ([zL R, zL R], zL (List.replicate G 0), 0) = PO at *
  have HML := Lib.hid fun (w1 : World) (hb : ZIn w1 A n L) => clist_any w1 A n c L m hb (by unfold maxLen; omega)
  rw [show decide (MayG L m) = true from decide_eq_true hM] at HML
  have HGR := Lib.hid fun (w1 : World) => cgroups_any w1 n (by omega)
  rw [← hG] at HGR
  have hb0 : Below w.heap.size w (w.alloc (.cells #[.slice none 0 0, .slice none 0 0] 26)) := (Below.refl _ _).alloc (Nat.le_refl _) _
  have hr0 : Blk (w.alloc (.cells #[.slice none 0 0, .slice none 0 0] 26)) w.heap.size 26 #[.slice none 0 0, .slice none 0 0] := blk_new w _ _
  have HL := Lib.hid (hL.below hb0)
  have HIN := Lib.hid fun (w1 : World) (hb : Below w.heap.size w w1) => ints_low hin hb
  have HLL := Lib.hid hll
  have HLMM := Lib.hid hlm
  have HAB := Lib.hid hAb
  have HRE : Hid (R = flatG ((List.range m).map fun s => 0 + l.count s)) := Lib.hid (by
    rw [hR]
    unfold flatPl countsG
    congr 1
    apply List.map_congr_left
    intro s _
    rw [count_flat, Nat.zero_add])
  have HK0 := Lib.hid hr0
  have HB0 := Lib.hid hb0
  clear hL hin hM hln hl hll hlm hans hG hR hb0 hr0 hAb
  go_enter Tryz.func14, Tryz.ntmps14
  go_wp2_with fail
  refine (HML.out _ HL.out).mono ?_
  rintro e w1 ⟨rfl, rfl⟩
  generalize w.alloc (.cells #[.slice none 0 0, .slice none 0 0] 26) = w1 at *
  have hz1 : w.heap.size < w1.heap.size := blk_lt HK0.out
  clear HL HML
  have hmk := make_noughts w1 m (by omega)
  have hrow := made_noughts w1 w.heap.size m (Nat.le_of_lt hz1) (by omega)
  have hb2 : Below w1.heap.size w1 (w1.alloc (.cells (madeCells #[.int .i64 0] m) 3)) := (Below.refl _ _).alloc (Nat.le_refl _) _
  have hbw2 := HB0.out.trans (hb2.mono HB0.out.size)
  have HADD := Lib.hid (cadd_any w1.heap.size (w1.alloc (.cells (madeCells #[.int .i64 0] m) 3)) w1.heap.size m m _ (made_noughts w1 w1.heap.size m (Nat.le_refl _) (by omega)) A n c l (HIN.out _ hbw2) (fun a ha => by
    have := HAB.out a ha
    omega) (by omega) HLMM.out (fun s _ => Nat.zero_le _))
  have HK2 := Lib.hid ((step_of_below hb2).blk HK0.out List.not_mem_nil List.not_mem_nil)
  have HB2 := Lib.hid hbw2
  clear hrow hb2 hbw2 HK0 HB0
  go_wp2_with fail
  clear hmk
  refine HADD.out.mono ?_
  rintro e w3 ⟨rfl, hf3, hs3⟩
  have hk3 := hs3.blk HK2.out (by simp; omega) List.not_mem_nil
  have hz3 := hf3.lt
  have hbw3 := HB2.out.trans (hs3.below.mono (Nat.le_of_lt hz1))
  have hz := zin_of hf3.ints
  have hMay : MayW (((List.range m).map fun s => 0 + l.count s).map fun (x : Nat) => (x : Int)) := by
    refine ⟨by simp; omega, by simp; omega, fun x hx => ?_⟩
    obtain ⟨y, hy, rfl⟩ := List.mem_map.1 hx
    obtain ⟨s, _, rfl⟩ := List.mem_map.1 hy
    have h1 : l.count s ≤ l.length := List.count_le_length
    have := HLL.out
    omega
  have HFL := Lib.hid (cflat_any w3 (some ⟨w1.heap.size, 0, none⟩) m m _ hz hMay)
  have HMAY := Lib.hid hMay
  have HK3 := Lib.hid hk3
  have HB3 := Lib.hid hbw3
  clear hf3 hs3 hk3 hbw3 hz hMay HADD HK2 HB2
  go_wp2_with fail
  refine HFL.out.mono ?_
  intro e w5 hfp
  rcases hfp with ⟨hno, _⟩ | ⟨_, v, k, hk1, hk2, rfl, hown, hb5⟩
  · exact absurd HMAY.out hno
  · have hWl : (((List.range m).map fun s => 0 + l.count s).map fun (x : Nat) => (x : Int)).length = m := by simp
    rw [hWl] at hown hk1 hk2
    rw [oneW_cast] at hown
    have hkl := log_one hk1 hk2
    have hrow : w5.ownsRow w3.heap.size 3 1 v m (R.map iv) := by
      rw [HRE.out]
      unfold flatG
      rw [show ((List.range m).map fun s => 0 + l.count s).length = m by simp, ← hkl, List.map_map]
      exact hown
    have hRl : R.length = m := by rw [HRE.out]; unfold flatG; simp
    obtain ⟨A5, c5, rfl, hc5, hm5, hA5⟩ := own_slice hrow
    have hi5 : IntsIn w5 A5 m R := ints_of_own hrow
    have hbw5 := HB3.out.trans (hb5.mono HB3.out.size)
    have hk5 := (step_of_below hb5).blk HK3.out List.not_mem_nil List.not_mem_nil
    have HCL := Lib.hid (clone_any w5 A5 m c5 (zL R) (zin_of hi5) (fun x hx => by
      unfold zL at hx
      obtain ⟨y, _, rfl⟩ := List.mem_map.1 hx
      omega) (by omega) (by omega))
    have HI5 := Lib.hid hi5
    have HB5 := Lib.hid hbw5
    have HK5 := Lib.hid hk5
    have HRL := Lib.hid hRl
    have HROW5 := Lib.hid hrow
    have HZ3 := Lib.hid (show w.heap.size < w3.heap.size by omega)
    have HZ5 := Lib.hid (show w3.heap.size ≤ w5.heap.size from hb5.size)
    clear hown hkl hrow hRl hA5 hi5 hbw5 hk5 hb5 hWl HFL HMAY HK3 HB3
    go_wp2_with fail
    refine HCL.out.mono ?_
    rintro e w6 ⟨gC, cC, rfl, hfC, hb6⟩
    have hcC : m ≤ cC := by
      obtain ⟨A9, c9, he, hc9, _, _⟩ := own_slice hfC
      simp only [Value.slice.injEq] at he
      omega
    have hb7 : Below w6.heap.size w6 (w6.alloc (.cells #[.slice A5 m c5, .slice (some ⟨gC, 0, none⟩) m cC] 22)) := (Below.refl _ _).alloc (Nat.le_refl _) _
    have hk7 : Blk (w6.alloc (.cells #[.slice A5 m c5, .slice (some ⟨gC, 0, none⟩) m cC] 22)) w6.heap.size 22 #[.slice A5 m c5, .slice (some ⟨gC, 0, none⟩) m cC] := blk_new w6 _ _
    have hbw6 := HB5.out.trans (hb6.mono HB5.out.size)
    have hbw7 := hbw6.trans (hb7.mono hbw6.size)
    have hr7 := (step_of_below hb7).blk ((step_of_below hb6).blk HK5.out List.not_mem_nil List.not_mem_nil) List.not_mem_nil List.not_mem_nil
    have HI7 := Lib.hid ((step_of_below hb7).row ((step_of_below hb6).row HROW5.out (fun _ _ => List.not_mem_nil) List.not_mem_nil) (fun _ _ => List.not_mem_nil) List.not_mem_nil)
    have HC7 := Lib.hid ((step_of_below hb7).row hfC (fun _ _ => List.not_mem_nil) List.not_mem_nil)
    have HT7 := Lib.hid hk7
    have HR7 := Lib.hid hr7
    have HB7 := Lib.hid hbw7
    clear hfC hb6 hb7 hk7 hbw6 hbw7 hr7 HCL HI5 HB5 HK5 HROW5
    go_wp2_with fail
    refine (HGR.out _).mono ?_
    rintro e w8 ⟨rfl, rfl⟩
    generalize w6.alloc (.cells #[.slice A5 m c5, .slice (some ⟨gC, 0, none⟩) m cC] 22) = w7 at *
    generalize w6.heap.size = g7 at *
    have hrb := blk_lt HR7.out
    have k0 := (blk_cell HR7.out 0).trans (rfl : _ = some (Value.slice none 0 0))
    have k1 := (blk_cell HR7.out 1).trans (rfl : _ = some (Value.slice none 0 0))
    have f0 := blk_frozen HR7.out 0
    have f1 := blk_frozen HR7.out 1
    have hmk := make_noughts w7 G (by omega)
    have hm8 := made_noughts w7 w7.heap.size G (Nat.le_refl _) (by omega)
    have hb8 : Below w7.heap.size w7 (w7.alloc (.cells (madeCells #[.int .i64 0] G) 3)) := (Below.refl _ _).alloc (Nat.le_refl _) _
    have hst : Step w.heap.size [w.heap.size] [] (w7.alloc (.cells (madeCells #[.int .i64 0] G) 3)) (((w7.alloc (.cells (madeCells #[.int .i64 0] G) 3)).setCell ⟨w.heap.size, 0, none⟩ (.slice (some ⟨g7, 0, none⟩) 2 2)).setCell ⟨w.heap.size, 1, none⟩ (.slice (some ⟨w7.heap.size, 0, none⟩) G G)) :=
      ((Step.refl _ _ _ _).set (p := ⟨w.heap.size, 0, none⟩) (Nat.le_refl _) (by simp) _).set (p := ⟨w.heap.size, 1, none⟩) (Nat.le_refl _) (by simp) _
    have hr8 := (step_of_below hb8).blk HR7.out List.not_mem_nil List.not_mem_nil
    have hz3b := HZ3.out
    have hz5b := HZ5.out
    have hx8 := hst.row (HI7.out.alloc (.cells (madeCells #[.int .i64 0] G) 3)) (fun k hk => by
      have := (World.ownsRow.lt HI7.out k hk).1
      simp
      omega) List.not_mem_nil
    have hy8 := hst.row (World.ownsRow.alloc HC7.out (.cells (madeCells #[.int .i64 0] G) 3)) (fun k hk => by
      have := (World.ownsRow.lt HC7.out k hk).1
      simp
      omega) List.not_mem_nil
    have hT8 := hst.blk ((step_of_below hb8).blk HT7.out List.not_mem_nil List.not_mem_nil) (by
      have := blk_lt HT7.out
      simp
      intro e
      have h1 := HT7.out
      have h2 := HR7.out
      unfold Blk at h1 h2
      rw [e, h2] at h1
      simp at h1) List.not_mem_nil
    have hp8 : FRow _ w7.heap.size w7.heap.size G G fun _ => 0 := hst.row hm8 (fun k hk => by simp [Value.ownBlock] at hk; simp; omega) List.not_mem_nil
    have hpz := zin_of hp8.ints
    rw [show (List.range G).map (fun _ => 0) = List.replicate G 0 by rw [List.map_const', List.length_range]] at hpz
    have hfC8 := FRow.ints hy8
    rw [range_self R m HRL.out] at hfC8
    have hpl : PlanIn _ (.agg #[.slice (some ⟨g7, 0, none⟩) 2 2, .slice (some ⟨w7.heap.size, 0, none⟩) G G]) [zL R, zL R] (zL (List.replicate G 0)) :=
      ⟨_, 2, 2, _, G, G, rfl, tabZ_two hT8 (ints_of_own hx8) hc5 hfC8 hcC (by unfold maxLen; omega), Nat.le_refl _, by unfold maxLen; omega, hpz, Nat.le_refl _, by unfold maxLen; omega⟩
    have hend := HPO.out _ _ hpl ((HB7.out.trans (hb8.mono HB7.out.size)).trans hst.below)
    rw [World.setCell_alloc_past _ _ _ _ hrb, World.setCell_alloc_past _ _ _ _ (by simpa using hrb)] at hend
    have hrf := blk_set (blk_set hr8 0 (.slice (some ⟨g7, 0, none⟩) 2 2)) 1 (.slice (some ⟨w7.heap.size, 0, none⟩) G G)
    rw [World.setCell_alloc_past _ _ _ _ hrb, World.setCell_alloc_past _ _ _ _ (by simpa using hrb)] at hrf
    have q0 := (blk_cell hrf 0).trans (rfl : _ = some (Value.slice (some ⟨g7, 0, none⟩) 2 2))
    have q1 := (blk_cell hrf 1).trans (rfl : _ = some (Value.slice (some ⟨w7.heap.size, 0, none⟩) G G))
    have HEND := Lib.hid hend
    clear hrf hm8 hb8 hst hr8 hz3b hz5b hx8 hy8 hT8 hp8 hpz hfC8 hpl hend HI7 HC7 HT7 HR7 HB7 HPO HGR
    go_wp2_with fail
    clear hmk
    refine bodyPost_ret (v := .tuple #[.agg #[.slice (some ⟨g7, 0, none⟩) 2 2, .slice (some ⟨w7.heap.size, 0, none⟩) G G], .int .i64 0]) ?_ rfl HEND.out
    simp [results, Tryz.results14, go_sem, q0, q1]

end Go.Proofs.YtmgmgmbpldboiaaGreat
namespace Go.Proofs.YtmgmgmbpldboiaaGreat
open Go.RowKit

set_option maxHeartbeats 3200000 in
set_option maxRecDepth 100000 in
theorem cbest_out (w : World) (A : Option Addr) (n c : Nat) (L : List Int) (m : Int) (hL : ZIn w A n L) (hn : n ≤ maxLen) (h : ¬ MayG L m) :
    Calls Tryz.prog 16 #[.slice A n c, .int .i64 m] w (PlanPost w (bestAns L m)) := by
  have hans : bestAns L m = ([], [], 2) := if_neg h
  rw [hans]
  obtain ⟨w1, hw1⟩ : ∃ w1, w1 = w.alloc (.cells #[.slice none 0 0, .slice none 0 0] 26) := ⟨_, rfl⟩
  have hb1 : Below w.heap.size w w1 := by rw [hw1]; exact (Below.refl _ _).alloc (Nat.le_refl _) _
  have hk1 : Blk w1 w.heap.size 26 #[.slice none 0 0, .slice none 0 0] := by rw [hw1]; exact blk_new w _ _
  have HC := Lib.hid (cchoose_out w1 A n c L m (hL.below hb1) hn h)
  rw [show chooseAns L m = ([], [], 2) from if_neg h] at HC
  have HB1 := Lib.hid hb1
  have HK1 := Lib.hid hk1
  clear hL h hans hb1 hk1
  go_enter Tryz.func16, Tryz.ntmps16
  go_wp2_with fail
  rw [← hw1]
  clear hw1
  refine HC.out.mono ?_
  rintro e w2 ⟨v2, rfl, hp2, hb2⟩
  obtain ⟨A2, n2, c2, B2, m2, d2, rfl, _⟩ := hp2
  have hb23 : Below w2.heap.size w2 (w2.alloc (.cells #[.slice A2 n2 c2, .slice B2 m2 d2] 26)) := (Below.refl _ _).alloc (Nat.le_refl _) _
  have hB3 := hb2.trans (hb23.mono hb2.size)
  have hk3 := (step_of_below hB3).blk HK1.out List.not_mem_nil List.not_mem_nil
  have q0 := (blk_cell hk3 0).trans (rfl : _ = some (Value.slice none 0 0))
  have q1 := (blk_cell hk3 1).trans (rfl : _ = some (Value.slice none 0 0))
  have f0 := blk_frozen hk3 0
  have f1 := blk_frozen hk3 1
  have HB3 := Lib.hid (HB1.out.trans (hB3.mono HB1.out.size))
  clear hb2 hb23 hB3 hk3 HC HB1 HK1
  go_upto_region 2 with fail
  generalize w2.alloc (.cells #[.slice A2 n2 c2, .slice B2 m2 d2] 26) = w3 at *
  go_wp2_with fail
  refine bodyPost_ret (v := .tuple #[.agg #[.slice none 0 0, .slice none 0 0], .int .i64 2]) ?_ rfl ⟨_, rfl, plan_none _, (HB3.out.setCell (p := ⟨w.heap.size, 0, none⟩) (Nat.le_refl _) _).setCell (p := ⟨w.heap.size, 1, none⟩) (Nat.le_refl _) _⟩
  simp [results, Tryz.results16, go_sem, q0, q1]

set_option maxHeartbeats 3200000 in
set_option maxRecDepth 100000 in
theorem cbest_any (w : World) (A : Option Addr) (n c : Nat) (L : List Int) (m : Nat) (hL : ZIn w A n L) (hnc : n ≤ c) (hn : n ≤ 1000000) (hM : MayG L m) :
    Calls Tryz.prog 16 #[.slice A n c, .int .i64 m] w (PlanPost w (bestAns L m)) := by
  have hgc := good_choose w hM
  have hgf := good_flat hM
  obtain ⟨w1, hw1⟩ : ∃ w1, w1 = w.alloc (.cells #[.slice none 0 0, .slice none 0 0] 26) := ⟨_, rfl⟩
  have hb1 : Below w.heap.size w w1 := by rw [hw1]; exact (Below.refl _ _).alloc (Nat.le_refl _) _
  have hk1 : Blk w1 w.heap.size 26 #[.slice none 0 0, .slice none 0 0] := by rw [hw1]; exact blk_new w _ _
  have HC := Lib.hid (cchoose_any w1 A n c L m (hL.below hb1) hnc hM)
  have HF := Lib.hid fun (wx : World) (hb : Below w1.heap.size w1 wx) => cgflat_any wx A n c L m ((hL.below hb1).below hb) hM
  have HLX := Lib.hid (hL.below hb1)
  have hca : (chooseAns L m).2.2 = 0 := by rw [chooseAns, if_pos hM]
  have hfa : (flatAns L m).2.2 = 0 := by rw [flatAns, if_pos hM]
  have hans : bestAns L m = if (sizeG (flatAns L m).1 (flatAns L m).2.1 L).1 < (sizeG (chooseAns L m).1 (chooseAns L m).2.1 L).1 then flatAns L m else chooseAns L m := if_pos hM
  have HLC := Lib.hid (good_long hgc hM)
  have HLF := Lib.hid (good_long hgf hM)
  have HS := Lib.hid fun (wx : World) (v : Value) (T : List (List Int)) (P : List Int) (h : PlanIn wx v T P) (hb : Below w1.heap.size w1 wx) => csize_any wx v T P h A n c L ((hL.below hb1).below hb) hnc (by omega)
  have hsC : (sizeG (chooseAns L m).1 (chooseAns L m).2.1 L).1 ≤ 41000000 := by
    have h1 := codesG_short (chooseAns L m).1 (chooseAns L m).2.1 L (by rw [hL.1]; omega)
    have h2 := bitsG_short (chooseAns L m).1 (chooseAns L m).2.1
    unfold sizeG
    split
    · show _ + _ ≤ _
      omega
    · exact Nat.zero_le _
  have hsF : (sizeG (flatAns L m).1 (flatAns L m).2.1 L).1 ≤ 41000000 := by
    have h1 := codesG_short (flatAns L m).1 (flatAns L m).2.1 L (by rw [hL.1]; omega)
    have h2 := bitsG_short (flatAns L m).1 (flatAns L m).2.1
    unfold sizeG
    split
    · show _ + _ ≤ _
      omega
    · exact Nat.zero_le _
  generalize bestAns L m = ba at *
  generalize chooseAns L m = ca at *
  generalize flatAns L m = fa at *
  obtain ⟨Tc, Pc, kc⟩ := ca
  obtain ⟨Tf, Pf, kf⟩ := fa
  dsimp only at hca hfa hans HLC HLF hsC hsF
  subst hca hfa
  obtain ⟨x, hx⟩ : ∃ x, x = (sizeG Tc Pc L).1 := ⟨_, rfl⟩
  obtain ⟨y, hy⟩ : ∃ y, y = (sizeG Tf Pf L).1 := ⟨_, rfl⟩
  obtain ⟨x2, hx2⟩ : ∃ x2, x2 = (sizeG Tc Pc L).2 := ⟨_, rfl⟩
  obtain ⟨y2, hy2⟩ : ∃ y2, y2 = (sizeG Tf Pf L).2 := ⟨_, rfl⟩
  rw [← hx, ← hy] at hans
  rw [← hx] at hsC
  rw [← hy] at hsF
  have HX := Lib.hid hx
  have HY := Lib.hid hy
  have HX2 := Lib.hid hx2
  have HY2 := Lib.hid hy2
  have HANS := Lib.hid hans
  have HB1 := Lib.hid hb1
  have HK1 := Lib.hid hk1
  clear hL hans hb1 hk1 hgc hgf hx hy hx2 hy2 hM
  go_enter Tryz.func16, Tryz.ntmps16
  go_wp2_with fail
  rw [← hw1]
  clear hw1
  refine HC.out.mono ?_
  rintro e w2 ⟨v2, rfl, hp2, hb2⟩
  obtain ⟨A2, n2, c2, B2, m2, d2, rfl, hpl2⟩ : ∃ A2 n2 c2 B2 m2 d2, v2 = .agg #[.slice A2 n2 c2, .slice B2 m2 d2] ∧ PlanIn w2 (.agg #[.slice A2 n2 c2, .slice B2 m2 d2]) Tc Pc := by
    obtain ⟨A2, n2, c2, B2, m2, d2, hv, hr⟩ := id hp2
    exact ⟨A2, n2, c2, B2, m2, d2, hv, by rw [← hv]; exact hp2⟩
  have hb23 : Below w2.heap.size w2 (w2.alloc (.cells #[.slice A2 n2 c2, .slice B2 m2 d2] 26)) := (Below.refl _ _).alloc (Nat.le_refl _) _
  have HK6 := Lib.hid (blk_new w2 26 #[.slice A2 n2 c2, .slice B2 m2 d2])
  have HB3 := Lib.hid (hb2.trans (hb23.mono hb2.size))
  have HF3 := Lib.hid (HF.out _ (hb2.trans (hb23.mono hb2.size)))
  have HPC := Lib.hid (hpl2.below hb23)
  clear hb2 hb23 HF HC hp2 hpl2
  go_upto_region 2 with fail
  generalize w2.alloc (.cells #[.slice A2 n2 c2, .slice B2 m2 d2] 26) = w3 at *
  generalize w2.heap.size = g6 at *
  go_wp2_with fail
  refine HF3.out.mono ?_
  rintro e w4 ⟨v4, rfl, hp4, hb4⟩
  obtain ⟨A4, n4, c4, B4, m4, d4, rfl, hpl4⟩ : ∃ A4 n4 c4 B4 m4 d4, v4 = .agg #[.slice A4 n4 c4, .slice B4 m4 d4] ∧ PlanIn w4 (.agg #[.slice A4 n4 c4, .slice B4 m4 d4]) Tf Pf := by
    obtain ⟨A4, n4, c4, B4, m4, d4, hv, hr⟩ := id hp4
    exact ⟨A4, n4, c4, B4, m4, d4, hv, by rw [← hv]; exact hp4⟩
  have hb45 : Below w4.heap.size w4 (w4.alloc (.cells #[.slice A4 n4 c4, .slice B4 m4 d4] 26)) := (Below.refl _ _).alloc (Nat.le_refl _) _
  have hb35 := hb4.trans (hb45.mono hb4.size)
  have HK8 := Lib.hid (blk_new w4 26 #[.slice A4 n4 c4, .slice B4 m4 d4])
  have HK65 := Lib.hid ((step_of_below hb35).blk HK6.out List.not_mem_nil List.not_mem_nil)
  have HPC5 := Lib.hid (HPC.out.below hb35)
  have HPF5 := Lib.hid (hpl4.below hb45)
  have HB5 := Lib.hid (HB3.out.trans (hb35.mono HB3.out.size))
  clear hb4 hb45 hb35 HF3 hp4 hpl4 HPC HB3 HK6
  go_upto_region 5 with fail
  generalize w4.alloc (.cells #[.slice A4 n4 c4, .slice B4 m4 d4] 26) = w5 at *
  generalize w4.heap.size = g8 at *
  have p0 := (blk_cell HK65.out 0).trans rfl
  have p1 := (blk_cell HK65.out 1).trans rfl
  have HS5 := Lib.hid (HS.out w5 _ Tc Pc HPC5.out HB5.out)
  rw [← HX.out, ← HX2.out] at HS5
  go_wp2_with fail
  clear p0 p1
  refine HS5.out.mono ?_
  rintro e w6 ⟨rfl, hb6⟩
  have HK66 := Lib.hid ((step_of_below hb6).blk HK65.out List.not_mem_nil List.not_mem_nil)
  have HK86 := Lib.hid ((step_of_below hb6).blk HK8.out List.not_mem_nil List.not_mem_nil)
  have HPC6 := Lib.hid (HPC5.out.below hb6)
  have HPF6 := Lib.hid (HPF5.out.below hb6)
  have HB6 := Lib.hid (HB5.out.trans (hb6.mono HB5.out.size))
  clear hb6 HS5 HK65 HK8 HPC5 HPF5 HB5
  have p0 := (blk_cell HK86.out 0).trans rfl
  have p1 := (blk_cell HK86.out 1).trans rfl
  have HS6 := Lib.hid (HS.out w6 _ Tf Pf HPF6.out HB6.out)
  rw [← HY.out, ← HY2.out] at HS6
  go_wp2_with fail
  clear p0 p1
  refine HS6.out.mono ?_
  rintro e w7 ⟨rfl, hb7⟩
  have hk67 := (step_of_below hb7).blk HK66.out List.not_mem_nil List.not_mem_nil
  have hk87 := (step_of_below hb7).blk HK86.out List.not_mem_nil List.not_mem_nil
  have HPC7 := Lib.hid (HPC6.out.below hb7)
  have HPF7 := Lib.hid (HPF6.out.below hb7)
  have hb17 := HB6.out.trans (hb7.mono HB6.out.size)
  have hkR := (step_of_below hb17).blk HK1.out List.not_mem_nil List.not_mem_nil
  have HKR := Lib.hid hkR
  have HB7 := Lib.hid (HB1.out.trans (hb17.mono HB1.out.size))
  have r0 := (blk_cell hkR 0).trans rfl
  have r1 := (blk_cell hkR 1).trans rfl
  have f0 := blk_frozen hkR 0
  have f1 := blk_frozen hkR 1
  by_cases e : y < x
  · have d0 : decide ((y : Int) < (x : Int)) = true := decide_eq_true (by omega)
    have p0 := (blk_cell hk87 0).trans rfl
    have p1 := (blk_cell hk87 1).trans rfl
    have ha := HANS.out
    rw [if_pos e] at ha
    have HPE : Hid (PlanPost w ba (.returned (.tuple #[.agg #[.slice A4 n4 c4, .slice B4 m4 d4], .int .i64 0])) ((w7.setCell ⟨w.heap.size, 0, none⟩ (.slice A4 n4 c4)).setCell ⟨w.heap.size, 1, none⟩ (.slice B4 m4 d4))) := Lib.hid (by
      rw [ha]
      exact ⟨_, rfl, HPF7.out.past HLF.out HKR.out (set_two_heap _ _ _ _), (HB7.out.setCell (p := ⟨w.heap.size, 0, none⟩) (Nat.le_refl _) _).setCell (p := ⟨w.heap.size, 1, none⟩) (Nat.le_refl _) _⟩)
    generalize PlanPost w ba = PO at *
    clear ha hk67 hk87 hb17 hkR hb7 HS6
    go_wp2_with fail
    refine bodyPost_ret (v := .tuple #[.agg #[.slice A4 n4 c4, .slice B4 m4 d4], .int .i64 0]) ?_ rfl HPE.out
    simp [results, Tryz.results16, go_sem, r0, r1]
  · have d0 : decide ((y : Int) < (x : Int)) = false := decide_eq_false (by omega)
    have p0 := (blk_cell hk67 0).trans rfl
    have p1 := (blk_cell hk67 1).trans rfl
    have ha := HANS.out
    rw [if_neg e] at ha
    have HPE : Hid (PlanPost w ba (.returned (.tuple #[.agg #[.slice A2 n2 c2, .slice B2 m2 d2], .int .i64 0])) ((w7.setCell ⟨w.heap.size, 0, none⟩ (.slice A2 n2 c2)).setCell ⟨w.heap.size, 1, none⟩ (.slice B2 m2 d2))) := Lib.hid (by
      rw [ha]
      exact ⟨_, rfl, HPC7.out.past HLC.out HKR.out (set_two_heap _ _ _ _), (HB7.out.setCell (p := ⟨w.heap.size, 0, none⟩) (Nat.le_refl _) _).setCell (p := ⟨w.heap.size, 1, none⟩) (Nat.le_refl _) _⟩)
    generalize PlanPost w ba = PO at *
    clear ha hk67 hk87 hb17 hkR hb7 HS6
    go_wp2_with fail
    refine bodyPost_ret (v := .tuple #[.agg #[.slice A2 n2 c2, .slice B2 m2 d2], .int .i64 0]) ?_ rfl HPE.out
    simp [results, Tryz.results16, go_sem, r0, r1]

end Go.Proofs.YtmgmgmbpldboiaaGreat
