/- Ustar: the reference's Decode. Written ahead of stage 16. -/
import Derived.Test.YtdjmfkodjjjhfaaGreatDoorUsd
import Derived.Laws.ResultCell
import Derived.Laws.Tables
import Derived.Laws.CopyRow
namespace Go.Proofs.YtdjmfkodjjjhfaaGreatDoor
open Go.RowKit

/-- A head's cells, all of them nothing. -/
def zeroCs : Array Value := #[.string ⟨#[]⟩, .int .i64 0, .int .u8 0, .int .i64 0, .int .i64 0, .string ⟨#[]⟩, .string ⟨#[]⟩, .string ⟨#[]⟩, .int .i64 0, .int .i64 0]

set_option maxRecDepth 100000 in
/-- What is told of a head in a variable of the call's own. -/
theorem ret_head (wx : World) (B : Nat) (h : HeadP) (k : Int) (hk : Blk wx B 65 (headCs h)) (tmps : Array Value) (h2 : tmps.getD 2 undef = .pointer (some ⟨B, 0, none⟩)) (h3 : tmps.getD 3 undef = .int .i64 k) :
    (results Tryz.f67 tmps).run Tryz.prog wx = .ok (.tuple #[headV h, .int .i64 k]) wx := by
  have c0 : wx.cell? ⟨B, 0, none⟩ = some (.string h.path) := blk_cell hk 0
  have c1 : wx.cell? ⟨B, 1, none⟩ = some (.int .i64 h.size) := blk_cell hk 1
  have c2 : wx.cell? ⟨B, 2, none⟩ = some (.int .u8 h.kind) := blk_cell hk 2
  have c3 : wx.cell? ⟨B, 3, none⟩ = some (.int .i64 h.mode) := blk_cell hk 3
  have c4 : wx.cell? ⟨B, 4, none⟩ = some (.int .i64 h.time) := blk_cell hk 4
  have c5 : wx.cell? ⟨B, 5, none⟩ = some (.string h.link) := blk_cell hk 5
  have c6 : wx.cell? ⟨B, 6, none⟩ = some (.string h.user) := blk_cell hk 6
  have c7 : wx.cell? ⟨B, 7, none⟩ = some (.string h.group) := blk_cell hk 7
  have c8 : wx.cell? ⟨B, 8, none⟩ = some (.int .i64 h.uid) := blk_cell hk 8
  have c9 : wx.cell? ⟨B, 9, none⟩ = some (.int .i64 h.gid) := blk_cell hk 9
  rw [results_cell_tmp rfl, h2, h3]
  simp [asAddr, loadVar, go_sem, c0, c1, c2, c3, c4, c5, c6, c7, c8, c9, headV, headCs]

set_option maxHeartbeats 3200000 in
set_option maxRecDepth 100000 in
theorem rdec_no (w : World) (t : ByteArray) (_ : t.size ≤ 9223372036854775807) (hno : t.size ≠ 512 ∨ fld t.data.toList 257 265 ≠ ustarL) : Calls Tryz.prog 67 #[.string t] w fun e w' => e = .returned (.tuple #[headV zeroHead, .int .i64 160]) ∧ Below w.heap.size w w' := by
  by_cases h : t.size = 512
  · have d0 : ((t.size : Int) != 512) = false := by rw [h]; rfl
    have hu : fld t.data.toList 257 265 ≠ ustarL := hno.resolve_left fun k => k h
    have d1 : ((t.extract 257 265).toList == [117, 115, 116, 97, 114, 0, 48, 48]) = false := by
      rw [ByteArray.toList_eq]
      refine beq_false_of_ne fun e => hu ?_
      unfold fld
      rw [← ext_list]
      exact e
    have b1 : (265 : Int) ≤ (t.size : Int) := by omega
    clear hno hu
    go_enter Tryz.func67, Tryz.ntmps67
    go_wp2_with fail
    refine bodyPost_ret (ret_head _ w.heap.size zeroHead 160 ?_ _ rfl rfl) rfl ⟨rfl, (Below.refl _ _).alloc (Nat.le_refl _) _⟩
    exact blk_new w 65 _
  · have d0 : ((t.size : Int) != 512) = true := bne_iff_ne.2 (by omega)
    clear hno
    go_enter Tryz.func67, Tryz.ntmps67
    go_wp2_with fail
    refine bodyPost_ret (ret_head _ w.heap.size zeroHead 160 ?_ _ rfl rfl) rfl ⟨rfl, (Below.refl _ _).alloc (Nat.le_refl _) _⟩
    exact blk_new w 65 _
set_option maxRecDepth 100000 in
/-- A number behind a row of the call's own. -/
theorem num_one (w : World) (B n c : Nat) (A : Option Addr) (L : List Nat) (h : w.ownsRow B 3 1 (.slice A n c) n (L.map iv)) (x : Nat) (hn : n ≤ 1000000) (hB : B ≤ w.heap.size) :
    ∃ g2 c2 w2, (Builtin.append_ #[148, 148] 148 #[.slice A n c, .slice (some ⟨w.heap.size, 0, none⟩) 1 1]).run Tryz.prog (w.alloc (.cells #[.int .i64 x] 3)) = .ok (.slice (some ⟨g2, 0, none⟩) (n + 1) c2) w2 ∧
      w2.ownsRow B 3 1 (.slice (some ⟨g2, 0, none⟩) (n + 1) c2) (n + 1) ((L ++ [x]).map iv) ∧ Below B w w2 := by
  obtain ⟨i3, h3, hz0, hz1, hz2⟩ := info_parts Tryz.info3
  obtain ⟨v2, w2, hr, ho, hg, _, _⟩ := run_append_own_at (P := Tryz.prog) (w.alloc (.cells #[.int .i64 x] 3)) B 148 148 3 i3 (.int .i64 0) 1 8 Tryz.underlying148 h3 hz0 hz1 hz2 rfl (by decide) _ _ _ (h.alloc _) ⟨w.heap.size, 0, none⟩ 1 1 [iv x] rfl (cell_alone w (iv x) 3)
    (fun u hu => by rw [List.mem_singleton.1 hu]; rfl) (by unfold maxLen; omega) (by omega) (by simp; omega)
  obtain ⟨A2, c2, rfl, hc, hm, hA⟩ := own_slice ho
  obtain ⟨g2, rfl⟩ := hA (by omega)
  refine ⟨g2, c2, w2, hr, by rw [List.map_append]; exact ho, ((Below.refl B w).alloc hB _).grown hg (by simp; omega) fun k hk => (World.ownsRow.lt h k hk).1⟩
theorem cutZ_le : ∀ s : List UInt8, (cutZ s).length ≤ s.length
  | [] => Nat.le_refl _
  | c :: s => by
    rw [cutZ]
    split
    · exact Nat.zero_le _
    · rw [List.length_cons, List.length_cons]
      exact Nat.succ_le_succ (cutZ_le s)
theorem cut_fld (s : List UInt8) (a b : Nat) : (cutZ (fld s a b)).length ≤ b - a := by
  refine Nat.le_trans (cutZ_le _) ?_
  unfold fld
  rw [List.length_drop, List.length_take]
  omega
theorem below_row {B : Nat} {w w' : World} (h : Below B w w') {g : Nat} (hg : B ≤ g) (cs : Array Value) : Below B w (w'.setRow g cs) :=
  ⟨h.os, h.tape, h.output, by rw [size_setRow]; exact h.size, fun k hk => by rw [setRow_other _ _ _ _ (by omega)]; exact h.block k hk⟩
def atsV : Array Value := #[.int .i64 100, .int .i64 108, .int .i64 116, .int .i64 124, .int .i64 136, .int .i64 148, .int .i64 156]
set_option maxRecDepth 100000 in
theorem ats_cell {w : World} {g : Nat} (h : Blk w g 3 atsV) (i : Nat) (hi : i < 7) : w.cell? ⟨g, i, none⟩ = some (.int .i64 (numAt i : Nat)) := by
  rw [blk_cell h i]
  have : i = 0 ∨ i = 1 ∨ i = 2 ∨ i = 3 ∨ i = 4 ∨ i = 5 ∨ i = 6 := by omega
  rcases this with rfl | rfl | rfl | rfl | rfl | rfl | rfl <;> rfl
set_option maxRecDepth 100000 in
theorem numAt_next (i : Nat) (hi : i < 6) : numAt i ≤ numAt (i + 1) ∧ numAt (i + 1) ≤ 156 := by
  have : i = 0 ∨ i = 1 ∨ i = 2 ∨ i = 3 ∨ i = 4 ∨ i = 5 := by omega
  rcases this with rfl | rfl | rfl | rfl | rfl | rfl <;> exact ⟨by decide, by decide⟩
theorem range_snoc (f : Nat → Nat) (q : Nat) : (List.range q).map f ++ [f q] = (List.range (q + 1)).map f := by
  rw [List.range_succ, List.map_append]
  rfl

set_option maxHeartbeats 25600000 in
set_option maxRecDepth 100000 in
theorem rdec_yes (w : World) (t : ByteArray) (hs : t.size = 512) (hu : fld t.data.toList 257 265 = ustarL) : Calls Tryz.prog 67 #[.string t] w fun e w' => e = .returned (.tuple #[headV (decA t.data.toList).1, .int .i64 (decA t.data.toList).2]) ∧ Below w.heap.size w w' := by
  have d0 : ((t.size : Int) != 512) = false := by rw [hs]; rfl
  have d1 : ((t.extract 257 265).toList == [117, 115, 116, 97, 114, 0, 48, 48]) = true := by
    rw [ByteArray.toList_eq, beq_iff_eq]
    unfold fld at hu
    rw [← ext_list] at hu
    exact hu
  have b1 : (265 : Int) ≤ (t.size : Int) := by omega
  have HS := Lib.hid hs
  have HNUM : Hid (∀ (wx : World) (a b : Nat) (i : Nat), a = numAt i → b = numAt (i + 1) → Calls Tryz.prog 106 #[.string (t.extract a b)] wx fun e w' => e = .returned (.tuple #[.int .i64 (numL t.data.toList i).1, .int .i64 (numL t.data.toList i).2]) ∧ w' = wx) := Lib.hid fun wx a b i ha hb => by
    have := rnumber_any wx (t.extract a b) (by rw [ByteArray.size_extract]; omega)
    rw [ext_list, ha, hb] at this
    rw [ha, hb]
    exact this
  have HP : Hid (∀ (X : HeadP) (k : Nat) (w' : World), decA t.data.toList = (X, k) → Below w.heap.size w w' → (fun e w' => e = Ending.returned (.tuple #[headV (decA t.data.toList).1, .int .i64 (decA t.data.toList).2]) ∧ Below w.heap.size w w') (.returned (.tuple #[headV X, .int .i64 k])) w') := Lib.hid fun X k w' h hb => ⟨by rw [h], hb⟩
  generalize (fun e w' => e = Ending.returned (.tuple #[headV (decA t.data.toList).1, .int .i64 (decA t.data.toList).2]) ∧ Below w.heap.size w w') = PO at *
  have HSU := Lib.hid fun wx => rsum15_any wx t (by omega)
  have HLEN : Hid (t.data.toList.length = 512) := Lib.hid hs
  have HU := Lib.hid hu
  have HNO : Hid (¬ decOk t.data.toList → decA t.data.toList = (zeroHead, 160)) := Lib.hid fun h => by unfold decA; rw [if_neg h]
  have HCUT : Hid (∀ (wx : World) (a b : Nat), Calls Tryz.prog 107 #[.string (t.extract a b)] wx fun e w' => e = .returned (.string (strP (cutZ (fld t.data.toList a b)))) ∧ w' = wx) := Lib.hid fun wx a b => by
    have := rcutz_any wx (t.extract a b) (by rw [ByteArray.size_extract]; omega)
    rw [ext_list] at this
    exact this
  obtain ⟨B, hB⟩ : ∃ B, B = w.heap.size := ⟨_, rfl⟩
  have hw0 := blk_new w 65 zeroCs
  have hw1 := blk_new (w.alloc (.cells zeroCs 65)) 3 atsV
  have hw2 : Blk ((w.alloc (.cells zeroCs 65)).alloc (.cells atsV 3)) w.heap.size 65 zeroCs := (Below.heap_alloc _ _ _ (blk_lt hw0)).trans hw0
  have hz1 : (w.alloc (.cells zeroCs 65)).heap.size = w.heap.size + 1 := by simp
  have hbl : Below w.heap.size w ((w.alloc (.cells zeroCs 65)).alloc (.cells atsV 3)) := ((Below.refl _ _).alloc (Nat.le_refl _) _).alloc (by simp) _
  have hz2 : ((w.alloc (.cells zeroCs 65)).alloc (.cells atsV 3)).heap.size = w.heap.size + 2 := by simp
  rw [hz1] at hw1
  obtain ⟨w1, hw⟩ : ∃ w1, w1 = (w.alloc (.cells zeroCs 65)).alloc (.cells atsV 3) := ⟨_, rfl⟩
  rw [← hw] at hw1 hw2 hbl hz2
  have HK0 := Lib.hid hw2
  have HK1 := Lib.hid hw1
  have HB1 := Lib.hid hbl
  have HZ2 := Lib.hid hz2
  have HW := Lib.hid hw
  clear hw0 hw1 hw2 hbl hz1 hz2 hw hu hs
  go_enter Tryz.func67, Tryz.ntmps67
  go_wp2_with fail
  rw [show (w.alloc (.cells #[.string ⟨#[]⟩, .int .i64 0, .int .u8 0, .int .i64 0, .int .i64 0, .string ⟨#[]⟩, .string ⟨#[]⟩, .string ⟨#[]⟩, .int .i64 0, .int .i64 0] 65)).alloc (.cells #[.int .i64 100, .int .i64 108, .int .i64 116, .int .i64 124, .int .i64 136, .int .i64 148, .int .i64 156] 3) = w1 from HW.out.symm]
  clear HW
  generalize w.heap.size + 1 = g1 at *
  go_loopw [4, 6] (fun sn si wx => ∃ (q c : Nat) (A : Option Addr), sn = .slice A q c ∧ si = .int .i64 q ∧ q ≤ 6 ∧ Below w1.heap.size w1 wx ∧
    Hid (wx.ownsRow w1.heap.size 3 1 (.slice A q c) q (((List.range q).map fun j => (numL t.data.toList j).1).map iv) ∧ ∀ j, j < q → (numL t.data.toList j).2 = 0)) (fun _ si _ => 6 - (intOf si).toNat)
  case atStart => exact ⟨0, 0, none, rfl, rfl, Nat.zero_le _, Below.refl _ _, Lib.hid ⟨World.ownsRow_nil _ _ _ _, fun j hj => absurd hj (Nat.not_lt_zero _)⟩⟩
  case round =>
    obtain ⟨q, c, A, rfl, rfl, hq, hbx, hJ⟩ := hrel
    have HBX := Lib.hid hbx
    have hk1 := (step_of_below hbx).blk HK1.out List.not_mem_nil List.not_mem_nil
    have hk0 := (step_of_below hbx).blk HK0.out List.not_mem_nil List.not_mem_nil
    have HKH := Lib.hid hk0
    clear hbx hk0
    by_cases e : q < 6
    · have dq : decide ((q : Int) < 6) = true := decide_eq_true (by omega)
      have hc1 := ats_cell hk1 q (by omega)
      have hc2 := ats_cell hk1 (q + 1) (by omega)
      obtain ⟨hab, hb156⟩ := numAt_next q e
      have HN := Lib.hid fun wx => HNUM.out wx _ _ q rfl rfl
      obtain ⟨q1, hq1⟩ : ∃ q1, q1 = q + 1 := ⟨_, rfl⟩
      rw [← hq1] at hc2 hab hb156 HN
      generalize numAt q = a at *
      generalize numAt q1 = b at *
      have hq1z : (q : Int) + 1 = (q1 : Int) := by omega
      have z1 : (0 : Int) ≤ (q : Int) := by omega
      have z2 : (q : Int) < 7 := by omega
      have z3 : (0 : Int) ≤ (q1 : Int) := by omega
      have z4 : (q1 : Int) < 7 := by omega
      have z5 : (0 : Int) ≤ (a : Int) := by omega
      have z6 : (a : Int) ≤ (b : Int) := by omega
      have z7 : (b : Int) ≤ (t.size : Int) := by have := HS.out; omega
      have HQ1 := Lib.hid hq1
      clear hk1 hq1 hab hb156
      obtain ⟨X, hX⟩ : ∃ X, X = numL t.data.toList q := ⟨_, rfl⟩
      have HX := Lib.hid hX
      rw [← hX] at HN
      clear hX
      obtain ⟨v, k⟩ := X
      dsimp only at HN
      go_wp2_with fail
      go_quiet (first | (go_at_call 106; exact Calls.quiet_of_same (HN.out _)))
      by_cases hk : k = 0
      · have dk : ((k : Int) != 0) = false := by rw [hk]; rfl
        have hown := hJ.out.1
        obtain ⟨g2, c2, w6, hr2, ho2, hb2⟩ := num_one (wr.drewN nq) w1.heap.size q c A _ (show (wr.drewN nq).ownsRow _ _ _ _ _ _ from hown) v (by omega) (below_drewN HBX.out nq).size
        have HR2 : Hid ((Builtin.append_ #[148, 148] 148 #[.slice A q c, .slice (some ⟨(wr.drewN nq).heap.size, 0, none⟩) 1 1]).run Tryz.prog ((wr.drewN nq).alloc (.cells #[.int .i64 v] 3)) = .ok (.slice (some ⟨g2, 0, none⟩) q1 c2) w6) := Lib.hid (by rw [HQ1.out]; exact hr2)
        have HJ2 : Hid (w6.ownsRow w1.heap.size 3 1 (.slice (some ⟨g2, 0, none⟩) q1 c2) q1 (((List.range q1).map fun j => (numL t.data.toList j).1).map iv) ∧ ∀ j, j < q1 → (numL t.data.toList j).2 = 0) := Lib.hid (by
          rw [HQ1.out]
          refine ⟨?_, fun j hj => ?_⟩
          · rw [← range_snoc, show (numL t.data.toList q).1 = v from by rw [← HX.out]]
            exact ho2
          · by_cases ej : j = q
            · rw [ej, ← HX.out]
              exact hk
            · exact hJ.out.2 j (by omega))
        have HB2 := Lib.hid ((below_drewN HBX.out nq).trans hb2)
        clear hJ hown hr2 ho2 hb2 hk
        generalize wr.drewN nq = w5 at *
        go_wp2_with (at_builtin; refine Lib.wpList_append_run _ rfl (.tmp 45) (.tmp 47) 148 148 rfl (.slice A q c) (.slice (some ⟨w5.heap.size, 0, none⟩) 1 1) rfl rfl (.slice (some ⟨g2, 0, none⟩) q1 c2) w6 HR2.out ?_)
        go_roundw
        case rel => exact ⟨q1, c2, some ⟨g2, 0, none⟩, rfl, by go_num, by have := HQ1.out; omega, HB2.out, HJ2⟩
        case measure => simp [intOf]; have := HQ1.out; omega
      · have dk : ((k : Int) != 0) = true := bne_iff_ne.2 (by omega)
        have HF := Lib.hid (fun wx => HP.out zeroHead 160 wx (HNO.out fun hok => hk (by have := hok.2.2.1 q e; rw [← HX.out] at this; exact this)))
        clear hJ hk
        have HKD : Hid (Blk (wr.drewN nq) w.heap.size 65 zeroCs) := HKH
        have HBD := Lib.hid (HB1.out.trans ((below_drewN HBX.out nq).mono HB1.out.size))
        go_upto_region 10 with fail
        apply wp_region_lit
        refine wpList_build rfl 65 #[] rfl (by kernel_rfl) ?_
        refine wpList_store_row rfl 65 (.tmp 2) (.tmp 44) rfl w.heap.size zeroCs rfl (by kernel_rfl) 65 zeroCs HKD.out (by kernel_rfl) rfl (by kernel_rfl) ?_
        rw [setRow_self _ _ _ _ _ HKD.out]
        go_wp2_with fail
        exact bodyPost_ret (ret_head _ w.heap.size zeroHead 160 HKD.out _ rfl rfl) rfl (HF.out _ HBD.out)
    · obtain rfl : q = 6 := by omega
      have dq : decide (((6 : Nat) : Int) < 6) = false := decide_eq_false (by omega)
      obtain ⟨hown, hall⟩ := hJ.out
      obtain ⟨A0, c0, hv, _, _, hA⟩ := own_slice hown
      injection hv with hv1 hv2 hv3
      subst hv1 hv3
      obtain ⟨g, rfl⟩ := hA (by omega)
      have hcell : ∀ i, i < 6 → wr.cell? ⟨g, i, none⟩ = some (.int .i64 (numL t.data.toList i).1) := fun i hi => by
        rw [World.ownsRow.cellAt hown i (by omega), List.getElem?_map, List.getElem?_map, List.getElem?_range hi]
        rfl
      have HALL := Lib.hid hall
      have HCELL := Lib.hid hcell
      clear hJ hown hA hall hcell hk1
      have HBW := Lib.hid (HB1.out.trans (HBX.out.mono HB1.out.size))
      go_wp2_with fail
      refine (HSU.out _).mono ?_
      rintro e w2 ⟨rfl, rfl⟩
      generalize (sumA t.data.toList).2 = k2 at *
      obtain ⟨sn, hsn⟩ : ∃ n, n = (sumA t.data.toList).1 := ⟨_, rfl⟩
      rw [← hsn]
      have HN0 := Lib.hid hsn
      clear hsn HSU
      have k0 := HCELL.out 0 (by omega)
      have k1 := HCELL.out 1 (by omega)
      have k3 := HCELL.out 2 (by omega)
      have k4 := HCELL.out 3 (by omega)
      have k5 := HCELL.out 4 (by omega)
      have k6 := HCELL.out 5 (by omega)
      have HV : Hid (∃ v0 v1 v2 v3 v4 v5 : Nat, v0 = (numL t.data.toList 0).1 ∧ v1 = (numL t.data.toList 1).1 ∧ v2 = (numL t.data.toList 2).1 ∧ v3 = (numL t.data.toList 3).1 ∧ v4 = (numL t.data.toList 4).1 ∧ v5 = (numL t.data.toList 5).1) := Lib.hid ⟨_, _, _, _, _, _, rfl, rfl, rfl, rfl, rfl, rfl⟩
      obtain ⟨v0, v1, v2, v3, v4, v5, e0, e1, e2, e3, e4, e5⟩ := HV.out
      rw [← e0] at k0
      rw [← e1] at k1
      rw [← e2] at k3
      rw [← e3] at k4
      rw [← e4] at k5
      rw [← e5] at k6
      have E0 := Lib.hid e0
      have E1 := Lib.hid e1
      have E2 := Lib.hid e2
      have E3 := Lib.hid e3
      have E4 := Lib.hid e4
      have E5 := Lib.hid e5
      clear e0 e1 e2 e3 e4 e5 HV HCELL
      have h156 : 156 < t.size := by have := HS.out; omega
      have y1 : (156 : Int) < (t.size : Int) := by omega
      have y2 : (257 : Int) ≤ (t.size : Int) := by have := HS.out; omega
      have y3 : (329 : Int) ≤ (t.size : Int) := by have := HS.out; omega
      have y5 : (297 : Int) ≤ (t.size : Int) := by have := HS.out; omega
      have y6 : (100 : Int) ≤ (t.size : Int) := by have := HS.out; omega
      have y4 : (500 : Int) ≤ (t.size : Int) := by have := HS.out; omega
      have hbyte := byte_at t 156 h156
      obtain ⟨kb, hkb⟩ : ∃ kb : Nat, kb = (t[156]).toNat := ⟨_, rfl⟩
      have HKB : Hid (kb = (t.data.toList.getD 156 0).toNat) := Lib.hid (by rw [hbyte]; exact hkb)
      have H0 := Lib.hid fun wx => HCUT.out wx 157 257
      obtain ⟨TL, hTL⟩ : ∃ TL, TL = strP (cutZ (fld t.data.toList 157 257)) := ⟨_, rfl⟩
      rw [← hTL] at H0
      have HTL := Lib.hid hTL
      clear hTL
      clear hbyte
      have HFR := Lib.hid (Below.refl w2.heap.size w2)
      go_upto_region 13 with fail
      go_cut [11] (fun s11 wx => s11 = .pointer (some ⟨w2.heap.size, 0, none⟩) ∧ wx = (w2.alloc (.cells #[.string ⟨#[]⟩, .int .i64 v3, .int .u8 kb, .int .i64 v0, .int .i64 v4, .string TL, .string ⟨#[]⟩, .string ⟨#[]⟩, .int .i64 v1, .int .i64 v2] 65)).drew)
      case first =>
        go_region_held3 (fun w' => w'.cell? ⟨g, 0, none⟩ = some (.int .i64 v0) ∧ w'.cell? ⟨g, 1, none⟩ = some (.int .i64 v1) ∧ w'.cell? ⟨g, 2, none⟩ = some (.int .i64 v2) ∧ w'.cell? ⟨g, 3, none⟩ = some (.int .i64 v3) ∧ w'.cell? ⟨g, 4, none⟩ = some (.int .i64 v4)) (first | with_reducible exact ⟨k0, k1, k3, k4, k5⟩ | go_keep)
          (first
            | (go_at_call 107; refine (H0.out _).mono ?_; rintro e w5 ⟨rfl, rfl⟩))
        all_goals (go_wp2_with fail; go_meet)
        all_goals (case rel => exact ⟨rfl, by rw [hkb]⟩)
      case rest =>
        obtain ⟨rfl, rfl⟩ := hcut
        clear hkb
        have hk : Blk (w2.alloc (.cells #[.string ⟨#[]⟩, .int .i64 v3, .int .u8 kb, .int .i64 v0, .int .i64 v4, .string TL, .string ⟨#[]⟩, .string ⟨#[]⟩, .int .i64 v1, .int .i64 v2] 65)).drew w2.heap.size 65 #[.string ⟨#[]⟩, .int .i64 v3, .int .u8 kb, .int .i64 v0, .int .i64 v4, .string TL, .string ⟨#[]⟩, .string ⟨#[]⟩, .int .i64 v1, .int .i64 v2] := blk_new w2 65 _
        have hb3 : Below w2.heap.size w2 (w2.alloc (.cells #[.string ⟨#[]⟩, .int .i64 v3, .int .u8 kb, .int .i64 v0, .int .i64 v4, .string TL, .string ⟨#[]⟩, .string ⟨#[]⟩, .int .i64 v1, .int .i64 v2] 65)).drew := (HFR.out.alloc (Nat.le_refl _) _).drew
        have hz := (step_of_below hb3).blk HKH.out List.not_mem_nil List.not_mem_nil
        have hlt := blk_lt HKH.out
        have hc5 := (hb3.cell (p := ⟨g, 5, none⟩) (World.block_lt_of_cell? w2 _ k6)).trans k6
        have hgl := World.block_lt_of_cell? w2 _ k6
        have HBW3 := Lib.hid (HBW.out.trans (hb3.mono HBW.out.size))
        generalize (w2.alloc (.cells #[.string ⟨#[]⟩, .int .i64 v3, .int .u8 kb, .int .i64 v0, .int .i64 v4, .string TL, .string ⟨#[]⟩, .string ⟨#[]⟩, .int .i64 v1, .int .i64 v2] 65)).drew = w3 at *
        generalize hhb : w2.heap.size = hb at *
        have hbg : g ≠ hb := by
          have : g < hb := hgl
          omega
        have hbw : w.heap.size ≠ hb := by omega
        have HBB : Hid (w.heap.size ≤ hb) := Lib.hid (by omega)
        clear hb3 hlt hgl hhb k0 k1 k3 k4 k5 k6 HFR HKH HBW HBX
        have J1 := Lib.hid fun wx => HCUT.out wx 265 297
        have J2 := Lib.hid fun wx => HCUT.out wx 297 329
        have J3 := Lib.hid fun wx => HCUT.out wx 0 100
        have J4 := Lib.hid fun wx => HCUT.out wx 345 500
        have HTU : Hid (∃ TU TG TN TP : ByteArray, TU = strP (cutZ (fld t.data.toList 265 297)) ∧ TG = strP (cutZ (fld t.data.toList 297 329)) ∧ TN = strP (cutZ (fld t.data.toList 0 100)) ∧ TP = strP (cutZ (fld t.data.toList 345 500))) := Lib.hid ⟨_, _, _, _, rfl, rfl, rfl, rfl⟩
        obtain ⟨TU, TG, TN, TP, hTU, hTG, hTN, hTP⟩ := HTU.out
        rw [← hTU] at J1
        rw [← hTG] at J2
        rw [← hTN] at J3
        rw [← hTP] at J4
        have HTUs := Lib.hid hTU
        have HTGs := Lib.hid hTG
        have HTNs := Lib.hid hTN
        have HTPs := Lib.hid hTP
        clear hTU hTG hTN hTP HTU
        have x6 : w3.drew.cell? ⟨hb, 6, none⟩ = some (.string ⟨#[]⟩) := blk_cell hk 6
        have f6 : w3.drew.frozen? ⟨hb, 6, none⟩ = false := blk_frozen hk 6
        have hk4 := blk_set (show Blk w3.drew hb _ _ from hk) 6 (.string TU)
        have x7 : (w3.drew.setCell ⟨hb, 6, none⟩ (.string TU)).cell? ⟨hb, 7, none⟩ = some (.string ⟨#[]⟩) := blk_cell hk4 7
        have f7 : (w3.drew.setCell ⟨hb, 6, none⟩ (.string TU)).frozen? ⟨hb, 7, none⟩ = false := blk_frozen hk4 7
        have hk5 := blk_set hk4 7 (.string TG)
        have x6b : w3.cell? ⟨hb, 6, none⟩ = some (.string ⟨#[]⟩) := x6
        have f6b : w3.frozen? ⟨hb, 6, none⟩ = false := f6
        have x7b : (w3.setCell ⟨hb, 6, none⟩ (.string TU)).cell? ⟨hb, 7, none⟩ = some (.string ⟨#[]⟩) := blk_cell (blk_set hk 6 (.string TU)) 7
        have f7b : (w3.setCell ⟨hb, 6, none⟩ (.string TU)).frozen? ⟨hb, 7, none⟩ = false := blk_frozen (blk_set hk 6 (.string TU)) 7
        have HK5 := Lib.hid hk5
        have HK := Lib.hid hk
        have HZ := Lib.hid hz
        have HC5 := Lib.hid hc5
        clear hk hk4 hk5 hz hc5
        go_upto_region 14 with fail
        go_region_held3 (fun _ => True) (first | trivial | go_keep)
          (first
            | (go_at_call_of 107 (Value.string (t.extract 265 297)); refine (J1.out _).mono ?_; rintro e w5 ⟨rfl, rfl⟩)
            | (go_at_call_of 107 (Value.string (t.extract 297 329)); refine (J2.out _).mono ?_; rintro e w5 ⟨rfl, rfl⟩))
        have HK6 : Hid (Blk ((w3.setCell ⟨hb, 6, none⟩ (.string TU)).setCell ⟨hb, 7, none⟩ (.string TG)).drew hb 65 #[.string ⟨#[]⟩, .int .i64 v3, .int .u8 kb, .int .i64 v0, .int .i64 v4, .string TL, .string TU, .string TG, .int .i64 v1, .int .i64 v2]) := HK5
        have HZ6 : Hid (Blk ((w3.setCell ⟨hb, 6, none⟩ (.string TU)).setCell ⟨hb, 7, none⟩ (.string TG)).drew w.heap.size 65 zeroCs) := Lib.hid ((Below.heap_setCell _ ⟨hb, 7, none⟩ _ _ hbw).trans ((Below.heap_setCell _ ⟨hb, 6, none⟩ _ _ hbw).trans HZ.out))
        have HC6 : Hid (((w3.setCell ⟨hb, 6, none⟩ (.string TU)).setCell ⟨hb, 7, none⟩ (.string TG)).drew.cell? ⟨g, 5, none⟩ = some (.int .i64 v5)) := Lib.hid ((World.cell?_of_block (a := ⟨g, 5, none⟩) (Below.heap_setCell _ ⟨hb, 7, none⟩ _ _ hbg)).trans ((World.cell?_of_block (a := ⟨g, 5, none⟩) (Below.heap_setCell _ ⟨hb, 6, none⟩ _ _ hbg)).trans HC5.out))
        have HB6 := Lib.hid (((HBW3.out.setCell (p := ⟨hb, 6, none⟩) HBB.out (.string TU)).setCell (p := ⟨hb, 7, none⟩) HBB.out (.string TG)).drew)
        clear x6 f6 x7 f7 x6b f6b x7b f7b HK5 HK HZ HC5 HBW3 J1 J2
        generalize ((w3.setCell ⟨hb, 6, none⟩ (.string TU)).setCell ⟨hb, 7, none⟩ (.string TG)).drew = w6 at *
        have x0 : w6.cell? ⟨hb, 0, none⟩ = some (.string ⟨#[]⟩) := blk_cell HK6.out 0
        have f0 : w6.frozen? ⟨hb, 0, none⟩ = false := blk_frozen HK6.out 0
        have hk7 := blk_set HK6.out 0 (.string TN)
        have HK7 : Hid (Blk (w6.setCell ⟨hb, 0, none⟩ (.string TN)) hb 65 #[.string TN, .int .i64 v3, .int .u8 kb, .int .i64 v0, .int .i64 v4, .string TL, .string TU, .string TG, .int .i64 v1, .int .i64 v2]) := Lib.hid hk7
        have HZ7 : Hid (Blk (w6.setCell ⟨hb, 0, none⟩ (.string TN)) w.heap.size 65 zeroCs) := Lib.hid ((Below.heap_setCell _ ⟨hb, 0, none⟩ _ _ hbw).trans HZ6.out)
        have HC7 : Hid ((w6.setCell ⟨hb, 0, none⟩ (.string TN)).cell? ⟨g, 5, none⟩ = some (.int .i64 v5)) := Lib.hid ((World.cell?_of_block (a := ⟨g, 5, none⟩) (Below.heap_setCell _ ⟨hb, 0, none⟩ _ _ hbg)).trans HC6.out)
        have HB7 := Lib.hid (HB6.out.setCell (p := ⟨hb, 0, none⟩) HBB.out (.string TN))
        clear hk7
        go_wp2_with fail
        refine (J3.out _).mono ?_
        rintro e w7 ⟨rfl, rfl⟩
        go_wp2_with fail
        refine (J4.out _).mono ?_
        rintro e w8 ⟨rfl, hw8⟩
        rw [hw8]
        clear hw8 x0 f0 HK6 HZ6 HC6 HB6 J3 J4
        generalize w7.setCell ⟨hb, 0, none⟩ (.string TN) = w7 at *
        have hPL : pathL t.data.toList = joinP (cutZ (fld t.data.toList 345 500)) (cutZ (fld t.data.toList 0 100)) := rfl
        by_cases et : cutZ (fld t.data.toList 345 500) = []
        · have dt : TP.toList.isEmpty = true := by rw [HTPs.out, strP_toList, et]; rfl
          have HPT : Hid (TN = strP (pathL t.data.toList)) := Lib.hid (by rw [hPL, HTNs.out]; unfold joinP; rw [if_pos et])
          clear et hPL
          go_upto_region 19 with fail
          have HK8 := HK7
          have HZ8 := HZ7
          have HC8 := HC7
          have HB8 := HB7
          generalize w7 = w8 at *
          generalize TN = PT at *
          have c2 : w8.cell? ⟨hb, 2, none⟩ = some (.int .u8 kb) := blk_cell HK8.out 2
          have g2 : w8.frozen? ⟨hb, 2, none⟩ = false := blk_frozen HK8.out 2
          by_cases ek : kb = 0
          · have dk : ((kb : Int) == 0) = true := by rw [ek]; rfl
            have HKL : Hid (((48 : Nat) : Nat) = kindL (t.data.toList.getD 156 0)) := Lib.hid (by
              unfold kindL
              rw [if_pos]
              apply UInt8.toNat_inj.1
              rw [← HKB.out, ek]
              rfl)
            have HK9 : Hid (Blk (w8.setCell ⟨hb, 2, none⟩ (.int .u8 48)) hb 65 #[.string PT, .int .i64 v3, .int .u8 ((48 : Nat) : Int), .int .i64 v0, .int .i64 v4, .string TL, .string TU, .string TG, .int .i64 v1, .int .i64 v2]) := Lib.hid (blk_set HK8.out 2 (.int .u8 48))
            have HZ9 : Hid (Blk (w8.setCell ⟨hb, 2, none⟩ (.int .u8 48)) w.heap.size 65 zeroCs) := Lib.hid ((Below.heap_setCell _ ⟨hb, 2, none⟩ _ _ hbw).trans HZ8.out)
            have HC9 : Hid ((w8.setCell ⟨hb, 2, none⟩ (.int .u8 48)).cell? ⟨g, 5, none⟩ = some (.int .i64 v5)) := Lib.hid ((World.cell?_of_block (a := ⟨g, 5, none⟩) (Below.heap_setCell _ ⟨hb, 2, none⟩ _ _ hbg)).trans HC8.out)
            have HB9 := Lib.hid (HB8.out.setCell (p := ⟨hb, 2, none⟩) HBB.out (.int .u8 48))
            clear ek
            go_upto_region 21 with fail
            clear c2 g2
            generalize w8.setCell ⟨hb, 2, none⟩ (.int .u8 48) = w9 at *
            have c0 : w9.cell? ⟨hb, 0, none⟩ = some (.string PT) := blk_cell HK9.out 0
            have c5 := HC9.out
            by_cases es : v5 = sn
            · have ds : ((v5 : Int) != (sn : Int)) = false := by rw [es]; exact bne_self_eq_false _
              by_cases ep : pathL t.data.toList = []
              · have dp : PT.toList.isEmpty = true := by rw [HPT.out, strP_toList, ep]; rfl
                have HF := Lib.hid fun wx => HP.out zeroHead 160 wx (HNO.out fun hok => hok.2.2.2.2 ep)
                clear es ep
                go_upto_region 22 with fail
                clear c0 c5
                apply wp_region_lit
                refine wpList_build rfl 65 #[] rfl (by kernel_rfl) ?_
                refine wpList_store_row rfl 65 (.tmp 2) (.tmp 113) rfl w.heap.size zeroCs rfl (by kernel_rfl) 65 zeroCs HZ9.out (by kernel_rfl) rfl (by kernel_rfl) ?_
                rw [setRow_self _ _ _ _ _ HZ9.out]
                go_wp2_with fail
                exact bodyPost_ret (ret_head _ w.heap.size zeroHead 160 HZ9.out _ rfl rfl) rfl (HF.out _ HB9.out)
              · have dp : PT.toList.isEmpty = false := by
                  rw [HPT.out, strP_toList]
                  cases hq : pathL t.data.toList with
                  | nil => exact absurd hq ep
                  | cons x l => rfl
                have HF := Lib.hid fun wx => HP.out (decH t.data.toList) 0 wx (by
                  unfold decA
                  rw [if_pos]
                  exact ⟨HLEN.out, HU.out, HALL.out, by rw [← E5.out, ← HN0.out]; exact es, ep⟩)
                have hcs : #[.string PT, .int .i64 v3, .int .u8 ((48 : Nat) : Int), .int .i64 v0, .int .i64 v4, .string TL, .string TU, .string TG, .int .i64 v1, .int .i64 v2] = headCs (decH t.data.toList) := by
                  unfold headCs decH
                  dsimp only
                  rw [← E0.out, ← E1.out, ← E2.out, ← E3.out, ← E4.out, ← HPT.out, ← HTL.out, ← HTUs.out, ← HTGs.out, ← HKL.out]
                have HCS := Lib.hid hcs
                have c1 : w9.cell? ⟨hb, 1, none⟩ = some (.int .i64 v3) := blk_cell HK9.out 1
                have c2 : w9.cell? ⟨hb, 2, none⟩ = some (.int .u8 ((48 : Nat) : Int)) := blk_cell HK9.out 2
                have c3 : w9.cell? ⟨hb, 3, none⟩ = some (.int .i64 v0) := blk_cell HK9.out 3
                have c4 : w9.cell? ⟨hb, 4, none⟩ = some (.int .i64 v4) := blk_cell HK9.out 4
                have c6 : w9.cell? ⟨hb, 5, none⟩ = some (.string TL) := blk_cell HK9.out 5
                have c7 : w9.cell? ⟨hb, 6, none⟩ = some (.string TU) := blk_cell HK9.out 6
                have c8 : w9.cell? ⟨hb, 7, none⟩ = some (.string TG) := blk_cell HK9.out 7
                have c9 : w9.cell? ⟨hb, 8, none⟩ = some (.int .i64 v1) := blk_cell HK9.out 8
                have c10 : w9.cell? ⟨hb, 9, none⟩ = some (.int .i64 v2) := blk_cell HK9.out 9
                clear es ep hcs
                go_upto_region 23 with fail
                apply wp_region_lit
                refine wpList_plain rfl fun KK hKK => ?_
                go_simp
                refine hKK _ _ ?_
                clear hKK KK
                refine wpList_store_row rfl 65 (.tmp 2) (.tmp 114) rfl w.heap.size #[.string PT, .int .i64 v3, .int .u8 ((48 : Nat) : Int), .int .i64 v0, .int .i64 v4, .string TL, .string TU, .string TG, .int .i64 v1, .int .i64 v2] rfl (by kernel_rfl) 65 zeroCs HZ9.out (by kernel_rfl) rfl (by kernel_rfl) ?_
                have hfin : Blk (w9.setRow w.heap.size #[.string PT, .int .i64 v3, .int .u8 ((48 : Nat) : Int), .int .i64 v0, .int .i64 v4, .string TL, .string TU, .string TG, .int .i64 v1, .int .i64 v2]) w.heap.size 65 #[.string PT, .int .i64 v3, .int .u8 ((48 : Nat) : Int), .int .i64 v0, .int .i64 v4, .string TL, .string TU, .string TG, .int .i64 v1, .int .i64 v2] := setRow_heap w9 w.heap.size zeroCs #[.string PT, .int .i64 v3, .int .u8 ((48 : Nat) : Int), .int .i64 v0, .int .i64 v4, .string TL, .string TU, .string TG, .int .i64 v1, .int .i64 v2] _ _ HZ9.out
                have HFIN := Lib.hid hfin
                have HBF := Lib.hid (below_row HB9.out (Nat.le_refl w.heap.size) #[.string PT, .int .i64 v3, .int .u8 ((48 : Nat) : Int), .int .i64 v0, .int .i64 v4, .string TL, .string TU, .string TG, .int .i64 v1, .int .i64 v2])
                clear hfin c0 c1 c2 c3 c4 c5 c6 c7 c8 c9 c10
                rw [HCS.out] at *
                go_wp2_with fail
                exact bodyPost_ret (ret_head _ w.heap.size (decH t.data.toList) 0 HFIN.out _ rfl rfl) rfl (HF.out _ HBF.out)
            · have ds : ((v5 : Int) != (sn : Int)) = true := bne_iff_ne.2 (by omega)
              have HF := Lib.hid fun wx => HP.out zeroHead 160 wx (HNO.out fun hok => es (by rw [E5.out, HN0.out]; exact hok.2.2.2.1))
              clear es
              go_upto_region 22 with fail
              clear c0 c5
              apply wp_region_lit
              refine wpList_build rfl 65 #[] rfl (by kernel_rfl) ?_
              refine wpList_store_row rfl 65 (.tmp 2) (.tmp 113) rfl w.heap.size zeroCs rfl (by kernel_rfl) 65 zeroCs HZ9.out (by kernel_rfl) rfl (by kernel_rfl) ?_
              rw [setRow_self _ _ _ _ _ HZ9.out]
              go_wp2_with fail
              exact bodyPost_ret (ret_head _ w.heap.size zeroHead 160 HZ9.out _ rfl rfl) rfl (HF.out _ HB9.out)
          · have dk : ((kb : Int) == 0) = false := beq_false_of_ne (by omega)
            have HKL : Hid (kb = kindL (t.data.toList.getD 156 0)) := Lib.hid (by
              unfold kindL
              rw [if_neg]
              · exact HKB.out
              · intro h0
                have := HKB.out
                rw [h0] at this
                exact ek this)
            clear ek
            go_upto_region 21 with fail
            clear c2 g2
            have HK9 := HK8
            have HZ9 := HZ8
            have HC9 := HC8
            have HB9 := HB8
            generalize w8 = w9 at *
            have c0 : w9.cell? ⟨hb, 0, none⟩ = some (.string PT) := blk_cell HK9.out 0
            have c5 := HC9.out
            by_cases es : v5 = sn
            · have ds : ((v5 : Int) != (sn : Int)) = false := by rw [es]; exact bne_self_eq_false _
              by_cases ep : pathL t.data.toList = []
              · have dp : PT.toList.isEmpty = true := by rw [HPT.out, strP_toList, ep]; rfl
                have HF := Lib.hid fun wx => HP.out zeroHead 160 wx (HNO.out fun hok => hok.2.2.2.2 ep)
                clear es ep
                go_upto_region 22 with fail
                clear c0 c5
                apply wp_region_lit
                refine wpList_build rfl 65 #[] rfl (by kernel_rfl) ?_
                refine wpList_store_row rfl 65 (.tmp 2) (.tmp 113) rfl w.heap.size zeroCs rfl (by kernel_rfl) 65 zeroCs HZ9.out (by kernel_rfl) rfl (by kernel_rfl) ?_
                rw [setRow_self _ _ _ _ _ HZ9.out]
                go_wp2_with fail
                exact bodyPost_ret (ret_head _ w.heap.size zeroHead 160 HZ9.out _ rfl rfl) rfl (HF.out _ HB9.out)
              · have dp : PT.toList.isEmpty = false := by
                  rw [HPT.out, strP_toList]
                  cases hq : pathL t.data.toList with
                  | nil => exact absurd hq ep
                  | cons x l => rfl
                have HF := Lib.hid fun wx => HP.out (decH t.data.toList) 0 wx (by
                  unfold decA
                  rw [if_pos]
                  exact ⟨HLEN.out, HU.out, HALL.out, by rw [← E5.out, ← HN0.out]; exact es, ep⟩)
                have hcs : #[.string PT, .int .i64 v3, .int .u8 kb, .int .i64 v0, .int .i64 v4, .string TL, .string TU, .string TG, .int .i64 v1, .int .i64 v2] = headCs (decH t.data.toList) := by
                  unfold headCs decH
                  dsimp only
                  rw [← E0.out, ← E1.out, ← E2.out, ← E3.out, ← E4.out, ← HPT.out, ← HTL.out, ← HTUs.out, ← HTGs.out, ← HKL.out]
                have HCS := Lib.hid hcs
                have c1 : w9.cell? ⟨hb, 1, none⟩ = some (.int .i64 v3) := blk_cell HK9.out 1
                have c2 : w9.cell? ⟨hb, 2, none⟩ = some (.int .u8 kb) := blk_cell HK9.out 2
                have c3 : w9.cell? ⟨hb, 3, none⟩ = some (.int .i64 v0) := blk_cell HK9.out 3
                have c4 : w9.cell? ⟨hb, 4, none⟩ = some (.int .i64 v4) := blk_cell HK9.out 4
                have c6 : w9.cell? ⟨hb, 5, none⟩ = some (.string TL) := blk_cell HK9.out 5
                have c7 : w9.cell? ⟨hb, 6, none⟩ = some (.string TU) := blk_cell HK9.out 6
                have c8 : w9.cell? ⟨hb, 7, none⟩ = some (.string TG) := blk_cell HK9.out 7
                have c9 : w9.cell? ⟨hb, 8, none⟩ = some (.int .i64 v1) := blk_cell HK9.out 8
                have c10 : w9.cell? ⟨hb, 9, none⟩ = some (.int .i64 v2) := blk_cell HK9.out 9
                clear es ep hcs
                go_upto_region 23 with fail
                apply wp_region_lit
                refine wpList_plain rfl fun KK hKK => ?_
                go_simp
                refine hKK _ _ ?_
                clear hKK KK
                refine wpList_store_row rfl 65 (.tmp 2) (.tmp 114) rfl w.heap.size #[.string PT, .int .i64 v3, .int .u8 kb, .int .i64 v0, .int .i64 v4, .string TL, .string TU, .string TG, .int .i64 v1, .int .i64 v2] rfl (by kernel_rfl) 65 zeroCs HZ9.out (by kernel_rfl) rfl (by kernel_rfl) ?_
                have hfin : Blk (w9.setRow w.heap.size #[.string PT, .int .i64 v3, .int .u8 kb, .int .i64 v0, .int .i64 v4, .string TL, .string TU, .string TG, .int .i64 v1, .int .i64 v2]) w.heap.size 65 #[.string PT, .int .i64 v3, .int .u8 kb, .int .i64 v0, .int .i64 v4, .string TL, .string TU, .string TG, .int .i64 v1, .int .i64 v2] := setRow_heap w9 w.heap.size zeroCs #[.string PT, .int .i64 v3, .int .u8 kb, .int .i64 v0, .int .i64 v4, .string TL, .string TU, .string TG, .int .i64 v1, .int .i64 v2] _ _ HZ9.out
                have HFIN := Lib.hid hfin
                have HBF := Lib.hid (below_row HB9.out (Nat.le_refl w.heap.size) #[.string PT, .int .i64 v3, .int .u8 kb, .int .i64 v0, .int .i64 v4, .string TL, .string TU, .string TG, .int .i64 v1, .int .i64 v2])
                clear hfin c0 c1 c2 c3 c4 c5 c6 c7 c8 c9 c10
                rw [HCS.out] at *
                go_wp2_with fail
                exact bodyPost_ret (ret_head _ w.heap.size (decH t.data.toList) 0 HFIN.out _ rfl rfl) rfl (HF.out _ HBF.out)
            · have ds : ((v5 : Int) != (sn : Int)) = true := bne_iff_ne.2 (by omega)
              have HF := Lib.hid fun wx => HP.out zeroHead 160 wx (HNO.out fun hok => es (by rw [E5.out, HN0.out]; exact hok.2.2.2.1))
              clear es
              go_upto_region 22 with fail
              clear c0 c5
              apply wp_region_lit
              refine wpList_build rfl 65 #[] rfl (by kernel_rfl) ?_
              refine wpList_store_row rfl 65 (.tmp 2) (.tmp 113) rfl w.heap.size zeroCs rfl (by kernel_rfl) 65 zeroCs HZ9.out (by kernel_rfl) rfl (by kernel_rfl) ?_
              rw [setRow_self _ _ _ _ _ HZ9.out]
              go_wp2_with fail
              exact bodyPost_ret (ret_head _ w.heap.size zeroHead 160 HZ9.out _ rfl rfl) rfl (HF.out _ HB9.out)
        · have dt : TP.toList.isEmpty = false := by
            rw [HTPs.out, strP_toList]
            cases hq : cutZ (fld t.data.toList 345 500) with
            | nil => exact absurd hq et
            | cons x l => rfl
          have HPT : Hid (TP ++ ⟨#[47]⟩ ++ TN = strP (pathL t.data.toList)) := Lib.hid (by
            rw [hPL, HTNs.out, HTPs.out, show (⟨#[47]⟩ : ByteArray) = strP [47] from rfl, strP_app, strP_app]
            unfold joinP
            rw [if_neg et, List.append_assoc]
            rfl)
          have q1 : TP.size ≤ 155 := by
            rw [HTPs.out, strP_size]
            exact cut_fld t.data.toList 345 500
          have q2 : TN.size ≤ 100 := by
            rw [HTNs.out, strP_size]
            exact cut_fld t.data.toList 0 100
          have q3 : (TP ++ (⟨#[47]⟩ : ByteArray)).size ≤ 156 := by
            rw [ByteArray.size_append]
            exact Nat.add_le_add_right q1 1
          have c0 : w7.cell? ⟨hb, 0, none⟩ = some (.string TN) := blk_cell HK7.out 0
          have g0 : w7.frozen? ⟨hb, 0, none⟩ = false := blk_frozen HK7.out 0
          have HK8 : Hid (Blk (w7.setCell ⟨hb, 0, none⟩ (.string (TP ++ ⟨#[47]⟩ ++ TN))) hb 65 #[.string (TP ++ ⟨#[47]⟩ ++ TN), .int .i64 v3, .int .u8 kb, .int .i64 v0, .int .i64 v4, .string TL, .string TU, .string TG, .int .i64 v1, .int .i64 v2]) := Lib.hid (blk_set HK7.out 0 (.string (TP ++ ⟨#[47]⟩ ++ TN)))
          have HZ8 : Hid (Blk (w7.setCell ⟨hb, 0, none⟩ (.string (TP ++ ⟨#[47]⟩ ++ TN))) w.heap.size 65 zeroCs) := Lib.hid ((Below.heap_setCell _ ⟨hb, 0, none⟩ _ _ hbw).trans HZ7.out)
          have HC8 : Hid ((w7.setCell ⟨hb, 0, none⟩ (.string (TP ++ ⟨#[47]⟩ ++ TN))).cell? ⟨g, 5, none⟩ = some (.int .i64 v5)) := Lib.hid ((World.cell?_of_block (a := ⟨g, 5, none⟩) (Below.heap_setCell _ ⟨hb, 0, none⟩ _ _ hbg)).trans HC7.out)
          have HB8 := Lib.hid (HB7.out.setCell (p := ⟨hb, 0, none⟩) HBB.out (.string (TP ++ ⟨#[47]⟩ ++ TN)))
          clear et hPL
          go_upto_region 19 with fail
          clear c0 g0 q1 q2 q3 HK7 HZ7 HC7 HB7
          generalize w7.setCell ⟨hb, 0, none⟩ (.string (TP ++ ⟨#[47]⟩ ++ TN)) = w8 at *
          generalize TP ++ ⟨#[47]⟩ ++ TN = PT at *
          have c2 : w8.cell? ⟨hb, 2, none⟩ = some (.int .u8 kb) := blk_cell HK8.out 2
          have g2 : w8.frozen? ⟨hb, 2, none⟩ = false := blk_frozen HK8.out 2
          by_cases ek : kb = 0
          · have dk : ((kb : Int) == 0) = true := by rw [ek]; rfl
            have HKL : Hid (((48 : Nat) : Nat) = kindL (t.data.toList.getD 156 0)) := Lib.hid (by
              unfold kindL
              rw [if_pos]
              apply UInt8.toNat_inj.1
              rw [← HKB.out, ek]
              rfl)
            have HK9 : Hid (Blk (w8.setCell ⟨hb, 2, none⟩ (.int .u8 48)) hb 65 #[.string PT, .int .i64 v3, .int .u8 ((48 : Nat) : Int), .int .i64 v0, .int .i64 v4, .string TL, .string TU, .string TG, .int .i64 v1, .int .i64 v2]) := Lib.hid (blk_set HK8.out 2 (.int .u8 48))
            have HZ9 : Hid (Blk (w8.setCell ⟨hb, 2, none⟩ (.int .u8 48)) w.heap.size 65 zeroCs) := Lib.hid ((Below.heap_setCell _ ⟨hb, 2, none⟩ _ _ hbw).trans HZ8.out)
            have HC9 : Hid ((w8.setCell ⟨hb, 2, none⟩ (.int .u8 48)).cell? ⟨g, 5, none⟩ = some (.int .i64 v5)) := Lib.hid ((World.cell?_of_block (a := ⟨g, 5, none⟩) (Below.heap_setCell _ ⟨hb, 2, none⟩ _ _ hbg)).trans HC8.out)
            have HB9 := Lib.hid (HB8.out.setCell (p := ⟨hb, 2, none⟩) HBB.out (.int .u8 48))
            clear ek
            go_upto_region 21 with fail
            clear c2 g2
            generalize w8.setCell ⟨hb, 2, none⟩ (.int .u8 48) = w9 at *
            have c0 : w9.cell? ⟨hb, 0, none⟩ = some (.string PT) := blk_cell HK9.out 0
            have c5 := HC9.out
            by_cases es : v5 = sn
            · have ds : ((v5 : Int) != (sn : Int)) = false := by rw [es]; exact bne_self_eq_false _
              by_cases ep : pathL t.data.toList = []
              · have dp : PT.toList.isEmpty = true := by rw [HPT.out, strP_toList, ep]; rfl
                have HF := Lib.hid fun wx => HP.out zeroHead 160 wx (HNO.out fun hok => hok.2.2.2.2 ep)
                clear es ep
                go_upto_region 22 with fail
                clear c0 c5
                apply wp_region_lit
                refine wpList_build rfl 65 #[] rfl (by kernel_rfl) ?_
                refine wpList_store_row rfl 65 (.tmp 2) (.tmp 113) rfl w.heap.size zeroCs rfl (by kernel_rfl) 65 zeroCs HZ9.out (by kernel_rfl) rfl (by kernel_rfl) ?_
                rw [setRow_self _ _ _ _ _ HZ9.out]
                go_wp2_with fail
                exact bodyPost_ret (ret_head _ w.heap.size zeroHead 160 HZ9.out _ rfl rfl) rfl (HF.out _ HB9.out)
              · have dp : PT.toList.isEmpty = false := by
                  rw [HPT.out, strP_toList]
                  cases hq : pathL t.data.toList with
                  | nil => exact absurd hq ep
                  | cons x l => rfl
                have HF := Lib.hid fun wx => HP.out (decH t.data.toList) 0 wx (by
                  unfold decA
                  rw [if_pos]
                  exact ⟨HLEN.out, HU.out, HALL.out, by rw [← E5.out, ← HN0.out]; exact es, ep⟩)
                have hcs : #[.string PT, .int .i64 v3, .int .u8 ((48 : Nat) : Int), .int .i64 v0, .int .i64 v4, .string TL, .string TU, .string TG, .int .i64 v1, .int .i64 v2] = headCs (decH t.data.toList) := by
                  unfold headCs decH
                  dsimp only
                  rw [← E0.out, ← E1.out, ← E2.out, ← E3.out, ← E4.out, ← HPT.out, ← HTL.out, ← HTUs.out, ← HTGs.out, ← HKL.out]
                have HCS := Lib.hid hcs
                have c1 : w9.cell? ⟨hb, 1, none⟩ = some (.int .i64 v3) := blk_cell HK9.out 1
                have c2 : w9.cell? ⟨hb, 2, none⟩ = some (.int .u8 ((48 : Nat) : Int)) := blk_cell HK9.out 2
                have c3 : w9.cell? ⟨hb, 3, none⟩ = some (.int .i64 v0) := blk_cell HK9.out 3
                have c4 : w9.cell? ⟨hb, 4, none⟩ = some (.int .i64 v4) := blk_cell HK9.out 4
                have c6 : w9.cell? ⟨hb, 5, none⟩ = some (.string TL) := blk_cell HK9.out 5
                have c7 : w9.cell? ⟨hb, 6, none⟩ = some (.string TU) := blk_cell HK9.out 6
                have c8 : w9.cell? ⟨hb, 7, none⟩ = some (.string TG) := blk_cell HK9.out 7
                have c9 : w9.cell? ⟨hb, 8, none⟩ = some (.int .i64 v1) := blk_cell HK9.out 8
                have c10 : w9.cell? ⟨hb, 9, none⟩ = some (.int .i64 v2) := blk_cell HK9.out 9
                clear es ep hcs
                go_upto_region 23 with fail
                apply wp_region_lit
                refine wpList_plain rfl fun KK hKK => ?_
                go_simp
                refine hKK _ _ ?_
                clear hKK KK
                refine wpList_store_row rfl 65 (.tmp 2) (.tmp 114) rfl w.heap.size #[.string PT, .int .i64 v3, .int .u8 ((48 : Nat) : Int), .int .i64 v0, .int .i64 v4, .string TL, .string TU, .string TG, .int .i64 v1, .int .i64 v2] rfl (by kernel_rfl) 65 zeroCs HZ9.out (by kernel_rfl) rfl (by kernel_rfl) ?_
                have hfin : Blk (w9.setRow w.heap.size #[.string PT, .int .i64 v3, .int .u8 ((48 : Nat) : Int), .int .i64 v0, .int .i64 v4, .string TL, .string TU, .string TG, .int .i64 v1, .int .i64 v2]) w.heap.size 65 #[.string PT, .int .i64 v3, .int .u8 ((48 : Nat) : Int), .int .i64 v0, .int .i64 v4, .string TL, .string TU, .string TG, .int .i64 v1, .int .i64 v2] := setRow_heap w9 w.heap.size zeroCs #[.string PT, .int .i64 v3, .int .u8 ((48 : Nat) : Int), .int .i64 v0, .int .i64 v4, .string TL, .string TU, .string TG, .int .i64 v1, .int .i64 v2] _ _ HZ9.out
                have HFIN := Lib.hid hfin
                have HBF := Lib.hid (below_row HB9.out (Nat.le_refl w.heap.size) #[.string PT, .int .i64 v3, .int .u8 ((48 : Nat) : Int), .int .i64 v0, .int .i64 v4, .string TL, .string TU, .string TG, .int .i64 v1, .int .i64 v2])
                clear hfin c0 c1 c2 c3 c4 c5 c6 c7 c8 c9 c10
                rw [HCS.out] at *
                go_wp2_with fail
                exact bodyPost_ret (ret_head _ w.heap.size (decH t.data.toList) 0 HFIN.out _ rfl rfl) rfl (HF.out _ HBF.out)
            · have ds : ((v5 : Int) != (sn : Int)) = true := bne_iff_ne.2 (by omega)
              have HF := Lib.hid fun wx => HP.out zeroHead 160 wx (HNO.out fun hok => es (by rw [E5.out, HN0.out]; exact hok.2.2.2.1))
              clear es
              go_upto_region 22 with fail
              clear c0 c5
              apply wp_region_lit
              refine wpList_build rfl 65 #[] rfl (by kernel_rfl) ?_
              refine wpList_store_row rfl 65 (.tmp 2) (.tmp 113) rfl w.heap.size zeroCs rfl (by kernel_rfl) 65 zeroCs HZ9.out (by kernel_rfl) rfl (by kernel_rfl) ?_
              rw [setRow_self _ _ _ _ _ HZ9.out]
              go_wp2_with fail
              exact bodyPost_ret (ret_head _ w.heap.size zeroHead 160 HZ9.out _ rfl rfl) rfl (HF.out _ HB9.out)
          · have dk : ((kb : Int) == 0) = false := beq_false_of_ne (by omega)
            have HKL : Hid (kb = kindL (t.data.toList.getD 156 0)) := Lib.hid (by
              unfold kindL
              rw [if_neg]
              · exact HKB.out
              · intro h0
                have := HKB.out
                rw [h0] at this
                exact ek this)
            clear ek
            go_upto_region 21 with fail
            clear c2 g2
            have HK9 := HK8
            have HZ9 := HZ8
            have HC9 := HC8
            have HB9 := HB8
            generalize w8 = w9 at *
            have c0 : w9.cell? ⟨hb, 0, none⟩ = some (.string PT) := blk_cell HK9.out 0
            have c5 := HC9.out
            by_cases es : v5 = sn
            · have ds : ((v5 : Int) != (sn : Int)) = false := by rw [es]; exact bne_self_eq_false _
              by_cases ep : pathL t.data.toList = []
              · have dp : PT.toList.isEmpty = true := by rw [HPT.out, strP_toList, ep]; rfl
                have HF := Lib.hid fun wx => HP.out zeroHead 160 wx (HNO.out fun hok => hok.2.2.2.2 ep)
                clear es ep
                go_upto_region 22 with fail
                clear c0 c5
                apply wp_region_lit
                refine wpList_build rfl 65 #[] rfl (by kernel_rfl) ?_
                refine wpList_store_row rfl 65 (.tmp 2) (.tmp 113) rfl w.heap.size zeroCs rfl (by kernel_rfl) 65 zeroCs HZ9.out (by kernel_rfl) rfl (by kernel_rfl) ?_
                rw [setRow_self _ _ _ _ _ HZ9.out]
                go_wp2_with fail
                exact bodyPost_ret (ret_head _ w.heap.size zeroHead 160 HZ9.out _ rfl rfl) rfl (HF.out _ HB9.out)
              · have dp : PT.toList.isEmpty = false := by
                  rw [HPT.out, strP_toList]
                  cases hq : pathL t.data.toList with
                  | nil => exact absurd hq ep
                  | cons x l => rfl
                have HF := Lib.hid fun wx => HP.out (decH t.data.toList) 0 wx (by
                  unfold decA
                  rw [if_pos]
                  exact ⟨HLEN.out, HU.out, HALL.out, by rw [← E5.out, ← HN0.out]; exact es, ep⟩)
                have hcs : #[.string PT, .int .i64 v3, .int .u8 kb, .int .i64 v0, .int .i64 v4, .string TL, .string TU, .string TG, .int .i64 v1, .int .i64 v2] = headCs (decH t.data.toList) := by
                  unfold headCs decH
                  dsimp only
                  rw [← E0.out, ← E1.out, ← E2.out, ← E3.out, ← E4.out, ← HPT.out, ← HTL.out, ← HTUs.out, ← HTGs.out, ← HKL.out]
                have HCS := Lib.hid hcs
                have c1 : w9.cell? ⟨hb, 1, none⟩ = some (.int .i64 v3) := blk_cell HK9.out 1
                have c2 : w9.cell? ⟨hb, 2, none⟩ = some (.int .u8 kb) := blk_cell HK9.out 2
                have c3 : w9.cell? ⟨hb, 3, none⟩ = some (.int .i64 v0) := blk_cell HK9.out 3
                have c4 : w9.cell? ⟨hb, 4, none⟩ = some (.int .i64 v4) := blk_cell HK9.out 4
                have c6 : w9.cell? ⟨hb, 5, none⟩ = some (.string TL) := blk_cell HK9.out 5
                have c7 : w9.cell? ⟨hb, 6, none⟩ = some (.string TU) := blk_cell HK9.out 6
                have c8 : w9.cell? ⟨hb, 7, none⟩ = some (.string TG) := blk_cell HK9.out 7
                have c9 : w9.cell? ⟨hb, 8, none⟩ = some (.int .i64 v1) := blk_cell HK9.out 8
                have c10 : w9.cell? ⟨hb, 9, none⟩ = some (.int .i64 v2) := blk_cell HK9.out 9
                clear es ep hcs
                go_upto_region 23 with fail
                apply wp_region_lit
                refine wpList_plain rfl fun KK hKK => ?_
                go_simp
                refine hKK _ _ ?_
                clear hKK KK
                refine wpList_store_row rfl 65 (.tmp 2) (.tmp 114) rfl w.heap.size #[.string PT, .int .i64 v3, .int .u8 kb, .int .i64 v0, .int .i64 v4, .string TL, .string TU, .string TG, .int .i64 v1, .int .i64 v2] rfl (by kernel_rfl) 65 zeroCs HZ9.out (by kernel_rfl) rfl (by kernel_rfl) ?_
                have hfin : Blk (w9.setRow w.heap.size #[.string PT, .int .i64 v3, .int .u8 kb, .int .i64 v0, .int .i64 v4, .string TL, .string TU, .string TG, .int .i64 v1, .int .i64 v2]) w.heap.size 65 #[.string PT, .int .i64 v3, .int .u8 kb, .int .i64 v0, .int .i64 v4, .string TL, .string TU, .string TG, .int .i64 v1, .int .i64 v2] := setRow_heap w9 w.heap.size zeroCs #[.string PT, .int .i64 v3, .int .u8 kb, .int .i64 v0, .int .i64 v4, .string TL, .string TU, .string TG, .int .i64 v1, .int .i64 v2] _ _ HZ9.out
                have HFIN := Lib.hid hfin
                have HBF := Lib.hid (below_row HB9.out (Nat.le_refl w.heap.size) #[.string PT, .int .i64 v3, .int .u8 kb, .int .i64 v0, .int .i64 v4, .string TL, .string TU, .string TG, .int .i64 v1, .int .i64 v2])
                clear hfin c0 c1 c2 c3 c4 c5 c6 c7 c8 c9 c10
                rw [HCS.out] at *
                go_wp2_with fail
                exact bodyPost_ret (ret_head _ w.heap.size (decH t.data.toList) 0 HFIN.out _ rfl rfl) rfl (HF.out _ HBF.out)
            · have ds : ((v5 : Int) != (sn : Int)) = true := bne_iff_ne.2 (by omega)
              have HF := Lib.hid fun wx => HP.out zeroHead 160 wx (HNO.out fun hok => es (by rw [E5.out, HN0.out]; exact hok.2.2.2.1))
              clear es
              go_upto_region 22 with fail
              clear c0 c5
              apply wp_region_lit
              refine wpList_build rfl 65 #[] rfl (by kernel_rfl) ?_
              refine wpList_store_row rfl 65 (.tmp 2) (.tmp 113) rfl w.heap.size zeroCs rfl (by kernel_rfl) 65 zeroCs HZ9.out (by kernel_rfl) rfl (by kernel_rfl) ?_
              rw [setRow_self _ _ _ _ _ HZ9.out]
              go_wp2_with fail
              exact bodyPost_ret (ret_head _ w.heap.size zeroHead 160 HZ9.out _ rfl rfl) rfl (HF.out _ HB9.out)
end Go.Proofs.YtdjmfkodjjjhfaaGreatDoor
