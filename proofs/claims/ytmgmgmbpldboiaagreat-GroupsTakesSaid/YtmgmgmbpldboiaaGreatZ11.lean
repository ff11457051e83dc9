/- Ui Uj: texts laid together, what is not used left out. -/
import Derived.Test.YtmgmgmbpldboiaaGreatZ10
import Derived.Test.YtmgmgmbpldboiaaGreatZ06
namespace Go.Proofs.YtmgmgmbpldboiaaGreat
open Go.RowKit

/-- What Flat answers. -/
def flatPl (l : List Nat) (m : Nat) : List Nat := flatG (countsG l (List.replicate (groupsN l.length) 0) 0 m)
def flatAns (L : List Int) (m : Int) : List (List Int) × List Int × Nat :=
  if MayG L m then ([zL (flatPl (natL L) m.toNat), zL (flatPl (natL L) m.toNat)], zL (List.replicate (groupsN L.length) 0), 0) else ([], [], 2)

set_option maxHeartbeats 3200000 in
set_option maxRecDepth 100000 in
theorem rflat_out (w : World) (A : Option Addr) (n c : Nat) (L : List Int) (m : Int) (hL : ZIn w A n L) (hn : n ≤ maxLen) (h : ¬ MayG L m) :
    Calls Tryz.prog 15 #[.slice A n c, .int .i64 m] w (PlanPost w (flatAns L m)) := by
  have hans : flatAns L m = ([], [], 2) := if_neg h
  rw [hans]
  have HM := Lib.hid fun (w1 : World) (hb : ZIn w1 A n L) => rmaylist_any w1 A n c L m hb hn
  rw [show decide (MayG L m) = false from decide_eq_false h] at HM
  have HL := Lib.hid (hL.below (w' := w.alloc (.cells #[.slice none 0 0, .slice none 0 0] 26)) ((Below.refl _ _).alloc (Nat.le_refl _) _))
  clear hL h hans
  go_enter Tryz.func15, Tryz.ntmps15
  go_wp2_with fail
  refine (HM.out _ HL.out).mono ?_
  rintro e w' ⟨rfl, rfl⟩
  go_wp2_with fail
  have q0 : (w.alloc (.cells #[.slice none 0 0, .slice none 0 0] 26)).cell? ⟨w.heap.size, 0, none⟩ = some (.slice none 0 0) := (blk_cell (blk_new w _ _) 0).trans rfl
  have q1 : (w.alloc (.cells #[.slice none 0 0, .slice none 0 0] 26)).cell? ⟨w.heap.size, 1, none⟩ = some (.slice none 0 0) := (blk_cell (blk_new w _ _) 1).trans rfl
  refine bodyPost_ret (v := .tuple #[.agg #[.slice none 0 0, .slice none 0 0], .int .i64 2]) ?_ rfl ⟨_, rfl, plan_none _, (Below.refl _ _).alloc (Nat.le_refl _) _⟩
  simp [results, Tryz.results15, go_sem, q0, q1]

/-- Two rows in a new block, read as tables. -/
theorem tabZ_two {w : World} {g : Nat} {A1 A2 : Option Addr} {m c1 c2 : Nat} {x y : List Nat} (hg : Blk w g 22 #[.slice A1 m c1, .slice A2 m c2]) (hx : IntsIn w A1 m x) (h1 : m ≤ c1) (hy : IntsIn w A2 m y) (h2 : m ≤ c2) (hm : m ≤ maxLen) :
    TabZ w (some ⟨g, 0, none⟩) 2 [zL x, zL y] := by
  refine ⟨rfl, fun _ => ⟨g, 0, rfl, fun i hi => ?_⟩⟩
  have hxl : (zL x).length = m := by unfold zL; rw [List.length_map, hx.1]
  have hyl : (zL y).length = m := by unfold zL; rw [List.length_map, hy.1]
  rw [Nat.zero_add]
  match i, hi with
  | 0, _ =>
    refine ⟨A1, c1, ?_, ?_, ?_, ?_⟩
    · show w.cell? ⟨g, 0, none⟩ = some (.slice A1 (zL x).length c1)
      rw [hxl]
      exact (blk_cell hg 0).trans rfl
    · show ZIn w A1 (zL x).length (zL x)
      rw [hxl]
      exact zin_of hx
    · show (zL x).length ≤ c1
      omega
    · show (zL x).length ≤ maxLen
      omega
  | 1, _ =>
    refine ⟨A2, c2, ?_, ?_, ?_, ?_⟩
    · show w.cell? ⟨g, 1, none⟩ = some (.slice A2 (zL y).length c2)
      rw [hyl]
      exact (blk_cell hg 1).trans rfl
    · show ZIn w A2 (zL y).length (zL y)
      rw [hyl]
      exact zin_of hy
    · show (zL y).length ≤ c2
      omega
    · show (zL y).length ≤ maxLen
      omega

set_option maxHeartbeats 3200000 in
set_option maxRecDepth 100000 in
theorem rflat_any (w : World) (A : Option Addr) (n c : Nat) (L : List Int) (m : Nat) (hL : ZIn w A n L) (hn : n ≤ 1000000) (hM : MayG L m) :
    Calls Tryz.prog 15 #[.slice A n c, .int .i64 m] w (PlanPost w (flatAns L m)) := by
  have hln := hL.1
  have h1n : 1 ≤ n := by have := hM.2.2.1; omega
  have hm3 : 3 ≤ m := by have := hM.1; omega
  have hm258 : m ≤ 258 := by have := hM.2.1; omega
  obtain ⟨l, hl⟩ : ∃ l, l = natL L := ⟨_, rfl⟩
  have hll : l.length = n := by rw [hl]; unfold natL; rw [List.length_map, hln]
  have hlm : ∀ x ∈ l, x < m := by
    intro x hx
    rw [hl] at hx
    obtain ⟨y, hy, rfl⟩ := List.mem_map.1 hx
    have := hM.2.2.2.2 y hy
    omega
  have hin : IntsIn w A n l := by rw [hl]; exact ints_of_zin hL fun x hx => (hM.2.2.2.2 x hx).1
  obtain ⟨G, hG⟩ : ∃ G, G = groupsN n := ⟨_, rfl⟩
  have hGn : G ≤ 40000 ∧ n ≤ 50 * G ∧ 50 * G < n + 50 := by rw [hG]; unfold groupsN; omega
  obtain ⟨R, hR⟩ : ∃ R, R = flatPl l m := ⟨_, rfl⟩
  have hans : flatAns L m = ([zL R, zL R], zL (List.replicate G 0), 0) := by
    unfold flatAns
    rw [if_pos hM, ← hl, Int.toNat_natCast, hln, ← hG, hR]
  rw [hans]
  have HPO : Hid (∀ v w', PlanIn w' v [zL R, zL R] (zL (List.replicate G 0)) → Below w.heap.size w w' → PlanPost w ([zL R, zL R], zL (List.replicate G 0), 0) (.returned (.tuple #[v, .int .i64 0])) w') := Lib.hid fun v w' h1 h2 => ⟨v, rfl, h1, h2⟩
  generalize PlanPost w ([zL R, zL R], zL (List.replicate G 0), 0) = PO at *
  have HML := Lib.hid fun (w1 : World) (hb : ZIn w1 A n L) => rmaylist_any w1 A n c L m hb (by unfold maxLen; omega)
  rw [show decide (MayG L m) = true from decide_eq_true hM] at HML
  have HGR := Lib.hid fun (w1 : World) => rgroups_any w1 n (by omega)
  rw [← hG] at HGR
  have HL := Lib.hid (hL.below (w' := w.alloc (.cells #[.slice none 0 0, .slice none 0 0] 26)) ((Below.refl _ _).alloc (Nat.le_refl _) _))
  have HIN := Lib.hid fun (w1 : World) (hb : Below w.heap.size w w1) => ints_low hin hb
  have HLL := Lib.hid hll
  have HLMM := Lib.hid hlm
  have HRE : Hid (R = flatG (countsG l (List.replicate G 0) 0 m)) := Lib.hid (by rw [hR]; unfold flatPl; rw [hll, ← hG])
  clear hL hin hM hln hl hll hlm hans hG hR
  go_enter Tryz.func15, Tryz.ntmps15
  go_wp2_with fail
  refine (HML.out _ HL.out).mono ?_
  rintro e w' ⟨rfl, rfl⟩
  have hr0 : Blk (w.alloc (.cells #[.slice none 0 0, .slice none 0 0] 26)) w.heap.size 26 #[.slice none 0 0, .slice none 0 0] := blk_new w _ _
  have hb0 : Below w.heap.size w (w.alloc (.cells #[.slice none 0 0, .slice none 0 0] 26)) := (Below.refl _ _).alloc (Nat.le_refl _) _
  generalize w.alloc (.cells #[.slice none 0 0, .slice none 0 0] 26) = w1 at *
  have HR0 := Lib.hid hr0
  have HB0 := Lib.hid hb0
  have hz1 : w.heap.size < w1.heap.size := blk_lt hr0
  clear hr0 hb0 HL HML
  go_wp2_with fail
  refine (HGR.out _).mono ?_
  rintro e w2 ⟨rfl, rfl⟩
  have hmk := make_noughts w2 G (by omega)
  have HMK := Lib.hid (made_noughts w2 w2.heap.size G (Nat.le_refl _) (by omega))
  have hb3 : Below w2.heap.size w2 (w2.alloc (.cells (madeCells #[.int .i64 0] G) 3)) := (Below.refl _ _).alloc (Nat.le_refl _) _
  have hpl : (List.range G).map (fun _ => 0) = List.replicate G 0 := by rw [List.map_const', List.length_range]
  have hpi := HMK.out.ints
  rw [hpl] at hpi
  have HB3 := Lib.hid hb3
  have HCO := Lib.hid (rcounts_any (w2.alloc (.cells (madeCells #[.int .i64 0] G) 3)) A n c l (HIN.out _ (HB0.out.trans (hb3.mono (Nat.le_of_lt hz1)))) (by omega) (some ⟨w2.heap.size, 0, none⟩) G G (List.replicate G 0) hpi hGn.2.1 0 m hm258 HLMM.out)
  clear hb3 hpl hpi HGR HIN
  go_wp2_with fail
  clear hmk
  have HZ3 : Hid ((w2.alloc (.cells (madeCells #[.int .i64 0] G) 3)).heap.size = w2.heap.size + 1) := Lib.hid (by simp)
  generalize w2.alloc (.cells (madeCells #[.int .i64 0] G) 3) = w3 at *
  refine HCO.out.mono ?_
  rintro e w4 ⟨rfl, hf4, hb4⟩
  have hz := zin_of hf4.ints
  have hcb : ∀ s, countF l (List.replicate G 0) 0 s ≤ 1000000 := fun s => by
    have := countQ_le l (List.replicate G 0) 0 s l.length
    unfold countF
    have := HLL.out
    omega
  have hMay : MayW (((List.range m).map (countF l (List.replicate G 0) 0)).map fun (x : Nat) => (x : Int)) := by
    refine ⟨by simp; omega, by simp; omega, fun x hx => ?_⟩
    obtain ⟨y, hy, rfl⟩ := List.mem_map.1 hx
    obtain ⟨s, _, rfl⟩ := List.mem_map.1 hy
    have := hcb s
    omega
  have HFL := Lib.hid (flat_any w4 _ m m _ hz hMay)
  have HMAY := Lib.hid hMay
  have HB4 : Hid (Below w2.heap.size w2 w4) := Lib.hid (HB3.out.trans (hb4.mono HB3.out.size))
  have HMK4 := Lib.hid (HMK.out.below hb4 HMK.out.lt.2)
  clear hf4 hb4 hz hMay hcb HCO HMK HB3
  go_wp2_with fail
  refine HFL.out.mono ?_
  intro e w5 hfp
  rcases hfp with ⟨hno, _⟩ | ⟨_, v, k, hk1, hk2, rfl, hown, hb5⟩
  · exact absurd HMAY.out hno
  · have hWl : (((List.range m).map (countF l (List.replicate G 0) 0)).map fun (x : Nat) => (x : Int)).length = m := by simp
    rw [hWl] at hown hk1 hk2
    rw [oneW_cast] at hown
    have hkl := log_one hk1 hk2
    have hrow : w5.ownsRow w4.heap.size 3 1 v m (R.map iv) := by
      rw [HRE.out]
      unfold flatG
      rw [show (countsG l (List.replicate G 0) 0 m).length = m by unfold countsG; simp, ← hkl, List.map_map]
      exact hown
    have hRl : R.length = m := by rw [HRE.out]; unfold flatG countsG; simp
    obtain ⟨A5, c5, rfl, hc5, hm5, hA5⟩ := own_slice hrow
    have hi5 : IntsIn w5 A5 m R := ints_of_own hrow
    have hown0 : (w5.alloc (.cells #[] 3)).ownsRow w5.heap.size 3 1 (.slice (some ⟨w5.heap.size, 0, none⟩) 0 0) 0 [] := World.ownsRow_made w5 #[] 0 (Nat.le_refl _) (Nat.zero_le _) rfl
    have hb6 : Below w5.heap.size w5 (w5.alloc (.cells #[] 3)) := (Below.refl _ w5).alloc (Nat.le_refl _) _
    obtain ⟨v6, w6, hr6, ho6, hg6⟩ := append_ints (w5.alloc (.cells #[] 3)) w5.heap.size _ 0 [] hown0 A5 m c5 R (ints_low hi5 hb6) (by omega) (by simp)
    have hb7 : Below w5.heap.size w5 w6 := hb6.grown hg6 (by simp) (fun k hk => (hown0.lt k hk).1)
    rw [Nat.zero_add, List.nil_append] at ho6
    obtain ⟨A6, c6, rfl, hc6, hm6, hA6⟩ := own_slice ho6
    have hz4 : w2.heap.size ≤ w4.heap.size := HB4.out.size
    have hz5 : w4.heap.size ≤ w5.heap.size := hb5.size
    have hb26 : Below w2.heap.size w2 w6 := (HB4.out.trans (hb5.mono hz4)).trans (hb7.mono (by omega))
    have hz6 : w2.heap.size ≤ w6.heap.size := hb26.size
    -- the last world
    have hT7 : Blk (w6.alloc (.cells #[.slice A5 m c5, .slice A6 m c6] 22)) w6.heap.size 22 #[.slice A5 m c5, .slice A6 m c6] := blk_new w6 _ _
    have hr7 : Blk (w6.alloc (.cells #[.slice A5 m c5, .slice A6 m c6] 22)) w.heap.size 26 #[.slice none 0 0, .slice none 0 0] := (heap_alloc_old w6 _ (by omega)).trans ((hb26.block w.heap.size hz1).trans HR0.out)
    have hst : Step w.heap.size [w.heap.size] [] (w6.alloc (.cells #[.slice A5 m c5, .slice A6 m c6] 22)) (((w6.alloc (.cells #[.slice A5 m c5, .slice A6 m c6] 22)).setCell ⟨w.heap.size, 0, none⟩ (.slice (some ⟨w6.heap.size, 0, none⟩) 2 2)).setCell ⟨w.heap.size, 1, none⟩ (.slice (some ⟨w2.heap.size, 0, none⟩) G G)) :=
      ((Step.refl _ _ _ _).set (p := ⟨w.heap.size, 0, none⟩) (Nat.le_refl _) (by simp) _).set (p := ⟨w.heap.size, 1, none⟩) (Nat.le_refl _) (by simp) _
    have hTf := hst.blk hT7 (by simp; omega) (by simp)
    have hx7 := ((hrow.alloc (.cells #[] 3)))
    have hbe67 : Below w6.heap.size w6 (w6.alloc (.cells #[.slice A5 m c5, .slice A6 m c6] 22)) := (Below.refl _ _).alloc (Nat.le_refl _) _
    have hrow6 : w6.ownsRow w4.heap.size 3 1 (.slice A5 m c5) m (R.map iv) := (step_of_below hb7).row hrow (fun _ _ => List.not_mem_nil) List.not_mem_nil
    have hrowf := hst.row (hrow6.alloc (.cells #[.slice A5 m c5, .slice A6 m c6] 22)) (fun k hk => by have := (World.ownsRow.lt hrow6 k hk).1; simp; omega) (by simp)
    have horf := hst.row (ho6.alloc (.cells #[.slice A5 m c5, .slice A6 m c6] 22)) (fun k hk => by have := (World.ownsRow.lt ho6 k hk).1; simp; omega) (by simp)
    have hpk6 : FRow w6 w2.heap.size w2.heap.size G G fun _ => 0 := (HMK4.out.below hb5 HMK4.out.lt.2).below hb7 (by have := HMK4.out.lt.2; omega)
    have hpkf : FRow _ w2.heap.size w2.heap.size G G fun _ => 0 := hst.row (hpk6.alloc (.cells #[.slice A5 m c5, .slice A6 m c6] 22)) (fun k hk => by simp [Value.ownBlock] at hk; simp; omega) (by simp)
    have hpz := zin_of hpkf.ints
    rw [show (List.range G).map (fun _ => 0) = List.replicate G 0 by rw [List.map_const', List.length_range]] at hpz
    have HPL := Lib.hid (show PlanIn _ (.agg #[.slice (some ⟨w6.heap.size, 0, none⟩) 2 2, .slice (some ⟨w2.heap.size, 0, none⟩) G G]) [zL R, zL R] (zL (List.replicate G 0)) from
      ⟨_, 2, 2, _, G, G, rfl, tabZ_two hTf (ints_of_own hrowf) hc5 (ints_of_own horf) hc6 (by unfold maxLen; omega), Nat.le_refl _, by unfold maxLen; omega, hpz, Nat.le_refl _, by unfold maxLen; omega⟩)
    have HBE := Lib.hid (((HB0.out.trans (hb26.mono (Nat.le_of_lt hz1))).alloc (by omega) (.cells #[.slice A5 m c5, .slice A6 m c6] 22)).trans hst.below)
    have hrf := blk_set (blk_set hr7 0 (.slice (some ⟨w6.heap.size, 0, none⟩) 2 2)) 1 (.slice (some ⟨w2.heap.size, 0, none⟩) G G)
    have k0 := (blk_cell hr7 0).trans (rfl : _ = some (Value.slice none 0 0))
    have k1 := (blk_cell hr7 1).trans (rfl : _ = some (Value.slice none 0 0))
    have f0 := blk_frozen hr7 0
    have f1 := blk_frozen hr7 1
    have q0 := (blk_cell hrf 0).trans (rfl : _ = some (Value.slice (some ⟨w6.heap.size, 0, none⟩) 2 2))
    have q1 := (blk_cell hrf 1).trans (rfl : _ = some (Value.slice (some ⟨w2.heap.size, 0, none⟩) G G))
    have HR6 := Lib.hid hr6
    clear hown hkl hrow hRl hA5 hi5 hown0 hb6 hr6 ho6 hg6 hb7 hA6 hb26 hT7 hr7 hst hTf hx7 hbe67 hrow6 hrowf horf hpk6 hpkf hpz hrf hWl hb5
    go_wp2_with (at_builtin; refine Lib.wpList_append_run _ rfl (.tmp 27) (.tmp 28) 22 22 rfl (.slice (some ⟨w5.heap.size, 0, none⟩) 0 0) (.slice A5 m c5) rfl rfl _ _ HR6.out ?_)
    (try simp only [Exit.inBlock, Exit.then])
    refine bodyPost_ret (v := .tuple #[.agg #[.slice (some ⟨w6.heap.size, 0, none⟩) 2 2, .slice (some ⟨w2.heap.size, 0, none⟩) G G], .int .i64 0]) ?_ rfl (HPO.out _ _ HPL.out HBE.out)
    simp [results, Tryz.results15, go_sem, q0, q1]

end Go.Proofs.YtmgmgmbpldboiaaGreat
namespace Go.Proofs.YtmgmgmbpldboiaaGreat
open Go.RowKit

theorem list_at {T : List (List Int)} {q : Nat} (h : q < T.length) : T.getD q [] ∈ T := by
  rw [List.getD_eq_getElem?_getD, List.getElem?_eq_getElem h]
  exact List.getElem_mem h

set_option maxHeartbeats 3200000 in
set_option maxRecDepth 100000 in
theorem rmay_any (w : World) (v : Value) (T : List (List Int)) (P : List Int) (h : PlanIn w v T P) :
    Calls Tryz.prog 105 #[v] w fun e w' => e = .returned (.bool (decide (MayPlan T P))) ∧ Below w.heap.size w w' := by
  obtain ⟨A, n, c, B, m, d, rfl, hT, hnc, hn, hP, hmd, hm⟩ := h
  have hTn := hT.1
  have hPn := hP.1
  unfold maxLen at hn hm
  obtain ⟨n0, hn0⟩ : ∃ n0, n0 = (T.getD 0 []).length := ⟨_, rfl⟩
  have HN1 : Hid (n < 2 → decide (MayPlan T P) = false) := Lib.hid fun h => decide_eq_false fun k => by have := k.1; omega
  have HN2 : Hid (6 < n → decide (MayPlan T P) = false) := Lib.hid fun h => decide_eq_false fun k => by have := k.2.1; omega
  have HN3 : Hid (m < 1 → decide (MayPlan T P) = false) := Lib.hid fun h => decide_eq_false fun k => by have := k.2.2.1; omega
  have HN4 : Hid (32767 < m → decide (MayPlan T P) = false) := Lib.hid fun h => decide_eq_false fun k => by have := k.2.2.2.1; omega
  have HNT : Hid (∀ q, q < n → ((T.getD q []).length ≠ n0 ∨ ¬ LenOk (T.getD q [])) → decide (MayPlan T P) = false) := Lib.hid fun q hq h => decide_eq_false fun k => by
    have := k.2.2.2.2.1 (T.getD q []) (list_at (by omega))
    rw [← hn0] at this
    rcases h with h | h
    · exact h this.1
    · exact h this.2
  have HNP : Hid (∀ x ∈ P, (x < 0 ∨ (n : Int) ≤ x) → decide (MayPlan T P) = false) := Lib.hid fun x hx h => decide_eq_false fun k => by
    have := k.2.2.2.2.2.1 x hx
    omega
  have HNZ : Hid (n0 < 3 → decide (MayPlan T P) = false) := Lib.hid fun h => decide_eq_false fun k => by
    have := k.2.2.2.2.2.2
    omega
  have HYES : Hid (2 ≤ n → n ≤ 6 → 1 ≤ m → m ≤ 32767 → (∀ q, q < n → (T.getD q []).length = n0 ∧ LenOk (T.getD q [])) → (∀ x ∈ P, 0 ≤ x ∧ x < (n : Int)) → 3 ≤ n0 → decide (MayPlan T P) = true) := Lib.hid fun h1 h2 h3 h4 h5 h6 h7 =>
    decide_eq_true ⟨by omega, by omega, by omega, by omega, fun t ht => by
      obtain ⟨q, hq, rfl⟩ := List.mem_iff_getElem.1 ht
      have := h5 q (by omega)
      rw [List.getD_eq_getElem?_getD, List.getElem?_eq_getElem hq] at this
      rw [← hn0]
      exact this, fun x hx => by have := h6 x hx; omega, by omega⟩
  generalize decide (MayPlan T P) = ans at *
  have q0 : (w.alloc (.cells #[.slice A n c, .slice B m d] 26)).cell? ⟨w.heap.size, 0, none⟩ = some (.slice A n c) := (blk_cell (blk_new w _ _) 0).trans rfl
  have q1 : (w.alloc (.cells #[.slice A n c, .slice B m d] 26)).cell? ⟨w.heap.size, 1, none⟩ = some (.slice B m d) := (blk_cell (blk_new w _ _) 1).trans rfl
  have HB : Hid (Below w.heap.size w (w.alloc (.cells #[.slice A n c, .slice B m d] 26))) := Lib.hid ((Below.refl _ _).alloc (Nat.le_refl _) _)
  have HT := Lib.hid (hT.below HB.out)
  have HP := Lib.hid (hP.below HB.out)
  have HN0 := Lib.hid hn0
  have HPN := Lib.hid hPn
  clear hT hP hTn hPn hn0
  go_enter Tryz.func105, Tryz.ntmps105
  by_cases e1 : n < 2
  · have hans := HN1.out e1
    have d1 : decide ((n : Int) < 2) = true := decide_eq_true (by omega)
    subst hans
    go_wp2_with fail
    go_ret
    exact ⟨rfl, HB.out⟩
  have d1 : decide ((n : Int) < 2) = false := decide_eq_false (by omega)
  by_cases e2 : 6 < n
  · have hans := HN2.out e2
    have d2 : decide ((6 : Int) < (n : Int)) = true := decide_eq_true (by omega)
    subst hans
    go_wp2_with fail
    go_ret
    exact ⟨rfl, HB.out⟩
  have d2 : decide ((6 : Int) < (n : Int)) = false := decide_eq_false (by omega)
  by_cases e3 : m < 1
  · have hans := HN3.out e3
    have d3 : decide ((m : Int) < 1) = true := decide_eq_true (by omega)
    subst hans
    go_wp2_with fail
    go_ret
    exact ⟨rfl, HB.out⟩
  have d3 : decide ((m : Int) < 1) = false := decide_eq_false (by omega)
  by_cases e4 : 32767 < m
  · have hans := HN4.out e4
    have d4 : decide ((32767 : Int) < (m : Int)) = true := decide_eq_true (by omega)
    subst hans
    clear e4
    go_wp2_with fail
    go_ret
    exact ⟨rfl, HB.out⟩
  have d4 : decide ((32767 : Int) < (m : Int)) = false := decide_eq_false (by omega)
  have HYES2 : Hid ((∀ q, q < n → (T.getD q []).length = n0 ∧ LenOk (T.getD q [])) → (∀ x ∈ P, 0 ≤ x ∧ x < (n : Int)) → 3 ≤ n0 → ans = true) := Lib.hid (HYES.out (by omega) (by omega) (by omega) (by omega))
  have hm2 : m ≤ 100000 := by omega
  have hn2 : n ≤ 6 := by omega
  have hn3 : 2 ≤ n := by omega
  clear e1 e2 e3 e4 HN1 HN2 HN3 HN4 HYES hn hm hnc hmd
  obtain ⟨b, off, rfl, hc⟩ := HT.out.2 (by omega)
  obtain ⟨A0, c0, h01, _⟩ := hc 0 (by omega)
  rw [← HN0.out] at h01
  have h02 := h01
  rw [Nat.add_zero] at h02
  have hnI : (0 : Int) < (n : Int) := by omega
  clear hc
  go_wp2_with fail
  clear h01 h02
  generalize w.alloc (.cells #[.slice (some ⟨b, off, none⟩) n c, .slice B m d] 26) = w1 at *
  go_loopw [4] (fun i wx => ∃ q : Nat, q ≤ n ∧ i = .int .i64 q ∧ Hid (∀ j, j < q → (T.getD j []).length = n0 ∧ LenOk (T.getD j [])) ∧ w1 = wx) (fun i _ => n - (intOf i).toNat)
  case atStart => exact ⟨0, Nat.zero_le _, rfl, by intro j hj; omega, rfl⟩
  case round =>
    obtain ⟨q, hq, rfl, hv, rfl⟩ := hrel
    by_cases e : q < n
    · have dq : decide ((q : Int) < (n : Int)) = true := decide_eq_true (by omega)
      have hqI : (0 : Int) ≤ (q : Int) := by omega
      have hqn : (q : Int) < (n : Int) := by omega
      obtain ⟨b', off', hbo, hc⟩ := HT.out.2 (by omega)
      simp only [Option.some.injEq, Addr.mk.injEq, and_true] at hbo
      obtain ⟨rfl, rfl⟩ := hbo
      obtain ⟨A2, c2, h1, h2, h3, h4⟩ := hc q e
      obtain ⟨L, hL⟩ : ∃ L, L = T.getD q [] := ⟨_, rfl⟩
      rw [← hL] at h1 h2 h3 h4
      obtain ⟨k, hk⟩ : ∃ k, k = L.length := ⟨_, rfl⟩
      rw [← hk] at h1 h2 h3 h4
      have HCK := Lib.hid (check_any _ A2 k c2 L h2 h4)
      have HNO : Hid ((k ≠ n0 ∨ ¬ LenOk L) → ans = false) := Lib.hid fun h => HNT.out q e (by rw [← hL, ← hk]; exact h)
      have HV2 : Hid (k = n0 → LenOk L → ∀ j, j < q + 1 → (T.getD j []).length = n0 ∧ LenOk (T.getD j [])) := Lib.hid fun a b j hj => by
        rcases Nat.lt_or_ge j q with hj2 | hj2
        · exact hv.out j hj2
        · obtain rfl : j = q := by omega
          rw [← hL, ← hk]
          exact ⟨a, b⟩
      clear hc hL hk h2 h3 h4
      by_cases ek : k = n0
      · have d1 : ((k : Int) != (n0 : Int)) = false := by rw [ek]; simp
        by_cases el : LenOk L
        · rw [if_pos el] at HCK
          have HV3 := Lib.hid (HV2.out ek el)
          clear ek el HNO HV2
          go_wp2_with fail
          refine HCK.out.mono ?_
          rintro e w' ⟨rfl, rfl⟩
          go_wp2_with fail
          go_roundw
          case rel => exact ⟨q + 1, by omega, by go_num, HV3, trivial⟩
          case measure => simp [intOf]; omega
        · rw [if_neg el] at HCK
          have hans := HNO.out (.inr el)
          subst hans
          clear ek el HNO HV2
          go_wp2_with fail
          refine HCK.out.mono ?_
          rintro e w' ⟨rfl, rfl⟩
          go_wp2_with fail
          go_ret
          exact ⟨rfl, HB.out⟩
      · have d1 : ((k : Int) != (n0 : Int)) = true := by
          rw [bne_iff_ne]
          omega
        have hans := HNO.out (.inl ek)
        subst hans
        clear ek HNO HV2
        go_wp2_with fail
        go_ret
        exact ⟨rfl, HB.out⟩
    · obtain rfl : q = n := by omega
      have dq : decide ((q : Int) < (q : Int)) = false := decide_eq_false (by omega)
      have HV := Lib.hid (HYES2.out hv.out)
      clear hv HNT HYES2
      go_wp2_with fail
      go_loopw [5] (fun i wx => ∃ z : Nat, z ≤ m ∧ i = .int .i64 z ∧ Hid (∀ x ∈ P.take z, 0 ≤ x ∧ x < (q : Int)) ∧ Below w1.heap.size w1 wx) (fun i _ => m - (intOf i).toNat)
      case atStart => exact ⟨0, Nat.zero_le _, rfl, by simp [Hid], Below.refl _ _⟩
      case round =>
        obtain ⟨z, hz, rfl, hv, hbx⟩ := hrel
        have HBX := Lib.hid hbx
        have p0 := (hbx.cell (World.block_lt_of_cell? w1 _ q0)).trans q0
        have p1 := (hbx.cell (World.block_lt_of_cell? w1 _ q1)).trans q1
        have HPX := Lib.hid (HP.out.below hbx)
        clear hbx
        by_cases e : z < m
        · have dz : decide ((z : Int) < (m : Int)) = true := decide_eq_true (by omega)
          have hzI : (0 : Int) ≤ (z : Int) := by omega
          have hzn : (z : Int) < (m : Int) := by omega
          obtain ⟨b', off', rfl, hc⟩ := HPX.out.2 (by omega)
          have hcw := hc z e
          have htk := take_snoc_int P z (by rw [HPN.out]; exact e)
          have hmem := getD_mem_int P z (by rw [HPN.out]; exact e)
          obtain ⟨x, hx⟩ : ∃ x, x = P.getD z 0 := ⟨_, rfl⟩
          rw [← hx] at hcw htk hmem
          have HTK := Lib.hid htk
          have HM := Lib.hid hmem
          clear hc hx htk hmem
          by_cases e1 : x < 0
          · have d1 : decide (x < 0) = true := decide_eq_true e1
            have hans := HNP.out x HM.out (.inl e1)
            subst hans
            go_wp2_with fail
            go_quiet (fail)
            go_wp2_with fail
            go_ret
            exact ⟨rfl, HB.out.trans (below_drewN (HBX.out.mono HB.out.size) _)⟩
          · have d1 : decide (x < 0) = false := decide_eq_false e1
            by_cases e2 : (q : Int) ≤ x
            · have d2 : decide ((q : Int) ≤ x) = true := decide_eq_true e2
              have hans := HNP.out x HM.out (.inr e2)
              subst hans
              go_wp2_with fail
              go_quiet (fail)
              go_wp2_with fail
              go_ret
              exact ⟨rfl, HB.out.trans (below_drewN (HBX.out.mono HB.out.size) _)⟩
            · have d2 : decide ((q : Int) ≤ x) = false := decide_eq_false e2
              have HV2 : Hid (∀ y ∈ P.take (z + 1), 0 ≤ y ∧ y < (q : Int)) := Lib.hid (by
                rw [HTK.out]
                intro y hy
                rcases List.mem_append.1 hy with hy | hy
                · exact hv.out y hy
                · rw [List.mem_singleton.1 hy]
                  omega)
              go_wp2_with fail
              go_quiet (fail)
              go_wp2_with fail
              go_roundw
              case rel => exact ⟨z + 1, by omega, by go_num, HV2, below_drewN HBX.out _⟩
              case measure => simp [intOf]; omega
        · obtain rfl : z = m := by omega
          have dz : decide ((z : Int) < (z : Int)) = false := decide_eq_false (by omega)
          have hv2 := hv.out
          rw [List.take_of_length_le (Nat.le_of_eq HPN.out)] at hv2
          have HYS := Lib.hid (HV.out hv2)
          clear hv hv2 HV
          by_cases e3 : 3 ≤ n0
          · have d3 : decide ((3 : Int) ≤ (n0 : Int)) = true := decide_eq_true (by omega)
            have hans := HYS.out e3
            subst hans
            go_wp2_with fail
            go_ret
            exact ⟨rfl, HB.out.trans (HBX.out.mono HB.out.size)⟩
          · have d3 : decide ((3 : Int) ≤ (n0 : Int)) = false := decide_eq_false (by omega)
            have hans := HNZ.out (by omega)
            subst hans
            go_wp2_with fail
            go_ret
            exact ⟨rfl, HB.out.trans (HBX.out.mono HB.out.size)⟩
end Go.Proofs.YtmgmgmbpldboiaaGreat
