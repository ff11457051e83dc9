/- Grr Xa Aw: texts laid together, what is not used left out. -/
import Derived.Test.YtmgmgmbpldboiaaGreatZ32
import Derived.Test.YtmgmgmbpldboiaaGreatZ25
import Derived.Test.YtmgmgmbpldboiaaGreatZ05
import Derived.Test.YtmgmgmbpldboiaaGreatZ02
import Derived.Test.YtmgmgmbpldboiaaGreatZ00
import Derived.Deep.WholeRow
import Derived.Laws.Rows
import Derived.Laws.ResultCell
namespace Go.Proofs.YtmgmgmbpldboiaaGreat
open Go.RowKit

set_option maxRecDepth 100000 in
theorem takeN_cnt (bits : List Nat) (n a : Nat) : takeN bits n a = if (cntAns bits a).2.2 = 0 then takeP bits n a (cntAns bits a).1 (cntAns bits a).2.1 else ([], [], 0, (cntAns bits a).2.2) := by
  unfold takeN cntAns
  by_cases h1 : bits.length < a + 3
  · rw [if_pos h1, if_pos h1, if_neg (by simp)]
  · rw [if_neg h1, if_neg h1]
    by_cases h2 : val ((bits.drop a).take 3) < 2 ∨ 6 < val ((bits.drop a).take 3)
    · rw [if_pos h2, if_pos h2, if_neg (by simp)]
    · rw [if_neg h2, if_neg h2]
      by_cases h3 : bits.length < a + 18
      · rw [if_pos h3, if_pos h3, if_neg (by simp)]
      · rw [if_neg h3, if_neg h3]
        by_cases h4 : val ((bits.drop (a + 3)).take 15) = 0
        · rw [if_pos h4, if_pos h4, if_neg (by simp)]
        · rw [if_neg h4, if_neg h4, if_pos rfl]
set_option maxRecDepth 100000 in
theorem cnt_ok (bits : List Nat) (a : Nat) (hb : Bit01 bits) (h : (cntAns bits a).2.2 = 0) : 2 ≤ (cntAns bits a).1 ∧ (cntAns bits a).1 ≤ 6 ∧ (cntAns bits a).2.1 ≤ 32767 ∧ a + 18 ≤ bits.length := by
  unfold cntAns at h ⊢
  by_cases h1 : bits.length < a + 3
  · rw [if_pos h1] at h
    cases h
  · rw [if_neg h1] at h ⊢
    by_cases h2 : val ((bits.drop a).take 3) < 2 ∨ 6 < val ((bits.drop a).take 3)
    · rw [if_pos h2] at h
      cases h
    · rw [if_neg h2] at h ⊢
      by_cases h3 : bits.length < a + 18
      · rw [if_pos h3] at h
        cases h
      · rw [if_neg h3] at h ⊢
        by_cases h4 : val ((bits.drop (a + 3)).take 15) = 0
        · rw [if_pos h4] at h
          cases h
        · rw [if_neg h4]
          have h5 := val_lt _ ((hb.drop (a + 3)).take 15)
          rw [List.length_take, List.length_drop, Nat.min_eq_left (by omega)] at h5
          exact ⟨by dsimp only; omega, by dsimp only; omega, by dsimp only; omega, by omega⟩
set_option maxRecDepth 100000 in
theorem cnt_code (bits : List Nat) (a : Nat) : (cntAns bits a).2.2 ≤ 110 := by
  unfold cntAns
  (repeat' split) <;> simp

set_option maxHeartbeats 6400000 in
set_option maxRecDepth 100000 in
theorem cgtake_any (w : World) (s : ByteArray) (at' n : Int) (hs : s.size ≤ 2000000) :
    Calls Tryz.prog 18 #[.string s, .int .i64 at', .int .i64 n] w (Plan3 w (takeG (bitsB s.data.toList) at' n)) := by
  have hbl : (bitsB s.data.toList).length = 8 * s.size := by rw [bitsB_length]; rfl
  obtain ⟨w1, hw1⟩ : ∃ w1, w1 = w.alloc (.cells #[.slice none 0 0, .slice none 0 0] 26) := ⟨_, rfl⟩
  have hb1 : Below w.heap.size w w1 := by rw [hw1]; exact (Below.refl _ _).alloc (Nat.le_refl _) _
  have hk1 : Blk w1 w.heap.size 26 #[.slice none 0 0, .slice none 0 0] := by rw [hw1]; exact blk_new w _ _
  have hdef : takeG (bitsB s.data.toList) at' n = if at' < 0 ∨ ((8 * s.size : Nat) : Int) < at' ∨ n < 3 ∨ 258 < n then ([], [], 0, 2) else takeN (bitsB s.data.toList) n.toNat at'.toNat := by
    unfold takeG
    rw [hbl]
  have HERR : Hid (∀ (wx : World) (k : Nat), takeG (bitsB s.data.toList) at' n = ([], [], 0, k) → Below w.heap.size w wx → Plan3 w (takeG (bitsB s.data.toList) at' n) (.returned (.tuple #[.agg #[.slice none 0 0, .slice none 0 0], .int .i64 0, .int .i64 k])) ((wx.setCell ⟨w.heap.size, 0, none⟩ (.slice none 0 0)).setCell ⟨w.heap.size, 1, none⟩ (.slice none 0 0))) := Lib.hid fun wx k h1 h3 => by
    rw [h1]
    exact ⟨_, rfl, plan_none _, (h3.setCell (p := ⟨w.heap.size, 0, none⟩) (Nat.le_refl _) _).setCell (p := ⟨w.heap.size, 1, none⟩) (Nat.le_refl _) _⟩
  have HOK : Hid (∀ (wx : World) (v : Value) (T : List (List Int)) (P : List Int) (pl : Nat), takeG (bitsB s.data.toList) at' n = (T, P, pl, 0) → PlanIn wx v T P → Below w.heap.size w wx → Plan3 w (takeG (bitsB s.data.toList) at' n) (.returned (.tuple #[v, .int .i64 pl, .int .i64 0])) wx) := Lib.hid fun wx v T P pl h1 h2 h3 => ⟨v, by rw [h1]; rfl, by rw [h1]; exact h2, h3⟩
  generalize Plan3 w (takeG (bitsB s.data.toList) at' n) = PO at *
  generalize takeG (bitsB s.data.toList) at' n = ans at *
  have HDEF := Lib.hid hdef
  have HK1 := Lib.hid hk1
  have HB1 := Lib.hid hb1
  have hz1 : w1.heap.size = w.heap.size + 1 := by rw [hw1]; simp
  have HZ1 := Lib.hid hz1
  have HW1 := Lib.hid hw1.symm
  clear hdef hk1 hb1 hz1 hw1
  have q0 := (blk_cell HK1.out 0).trans rfl
  have q1 := (blk_cell HK1.out 1).trans rfl
  have f0 := blk_frozen HK1.out 0
  have f1 := blk_frozen HK1.out 1
  by_cases h1 : at' < 0 ∨ 8 * (s.size : Int) < at'
  · have hans := HDEF.out
    rw [if_pos (by omega)] at hans
    have HNR := Lib.hid (newR_none w1 s at' (by omega) h1)
    have HE := Lib.hid (HERR.out w1 2 hans HB1.out)
    have de : Value.pointer none = Value.pointer none := rfl
    clear hans h1 HERR HOK HDEF hbl de
    go_enter Tryz.func18, Tryz.ntmps18
    go_upto_region 1 with fail
    rw [HW1.out]
    clear HW1
    go_wp2_with fail
    refine HNR.out.mono ?_
    rintro e w1 ⟨rfl, rfl⟩
    go_wp2_with fail
    refine bodyPost_ret (v := .tuple #[.agg #[.slice none 0 0, .slice none 0 0], .int .i64 0, .int .i64 2]) ?_ rfl HE.out
    simp [results, Tryz.results18, go_sem, q0, q1]
  · obtain ⟨a, rfl⟩ := Int.eq_ofNat_of_zero_le (show 0 ≤ at' by omega)
    have ha : a ≤ 8 * s.size := by omega
    have HNR := Lib.hid (newR_yes w1 s (a : Int) (by omega) (by omega) (by omega))
    have hR2 := isR_new w1 w1.heap.size (Nat.le_refl _) s a
    have hb2 : Below w1.heap.size w1 (w1.alloc (.cells #[.bool true, .string s, .int .i64 a] 115)) := (Below.refl _ _).alloc (Nat.le_refl _) _
    have hk2 := (step_of_below hb2).blk HK1.out List.not_mem_nil List.not_mem_nil
    have HR2 := Lib.hid hR2
    have HK2 := Lib.hid hk2
    have HB2 := Lib.hid (HB1.out.trans (hb2.mono HB1.out.size))
    have HE3 := Lib.hid fun (wx : World) => genough_any wx n
    clear hR2 hb2 hk2 h1 q0 q1 f0 f1
    by_cases h2 : 3 ≤ n ∧ n ≤ 258
    · rw [decide_eq_true h2] at HE3
      obtain ⟨m, rfl⟩ := Int.eq_ofNat_of_zero_le (show 0 ≤ n by omega)
      have hans := HDEF.out
      rw [if_neg (by omega), Int.toNat_natCast, Int.toNat_natCast, takeN_cnt] at hans
      have HAN := Lib.hid hans
      have hcok := cnt_ok (bitsB s.data.toList) a (bit01_bitsB _)
      rw [hbl] at hcok
      have HCOK := Lib.hid hcok
      have HCNT := Lib.hid fun (wx : World) (hR : IsR w1.heap.size wx w1.heap.size s a) => ccounts_any w1.heap.size wx w1.heap.size s a hR hs ha
      obtain ⟨⟨T, K, z⟩, hce⟩ : ∃ c, c = cntAns (bitsB s.data.toList) a := ⟨_, rfl⟩
      rw [← hce] at HAN HCOK HCNT
      have hzk : z ≤ 110 := by
        have := cnt_code (bitsB s.data.toList) a
        rw [← hce] at this
        exact this
      have HZK := Lib.hid hzk
      obtain ⟨bits, hbits⟩ : ∃ bits, bits = bitsB s.data.toList := ⟨_, rfl⟩
      have HBITS := Lib.hid hbits
      have HBL := Lib.hid hbl
      rw [← hbits] at HAN
      clear hans hcok hce HDEF hzk hbl hbits
      go_enter Tryz.func18, Tryz.ntmps18
      go_upto_region 1 with fail
      rw [HW1.out]
      clear HW1
      go_wp2_with fail
      refine HNR.out.mono ?_
      rintro e w2 ⟨rfl, hw2⟩
      rw [← hw2] at HR2 HK2 HB2
      clear hw2 HNR HK1 HB1
      generalize w1.heap.size = p at *
      go_wp2_with fail
      refine (HE3.out w2).mono ?_
      rintro e w2 ⟨rfl, rfl⟩
      clear HE3
      go_wp2_with fail
      refine (HCNT.out w2 HR2.out).mono ?_
      rintro e w3 ⟨rfl, hR3, hS3⟩
      dsimp only at hR3 ⊢
      have hpr : w.heap.size < p := by rw [HZ1.out]; exact Nat.lt_succ_self _
      have hk3 : Blk w3 w.heap.size 26 #[.slice none 0 0, .slice none 0 0] := (hS3.below.block w.heap.size hpr).trans HK2.out
      have hb3 := HB2.out.trans (hS3.below.mono (Nat.le_of_lt hpr))
      have HK3 := Lib.hid hk3
      have HB3 := Lib.hid hb3
      by_cases ez : z = 0
      · subst ez
        have hR3 := hR3 rfl
        obtain ⟨hT2, hT6, hK, ha18⟩ := HCOK.out rfl
        have hans := HAN.out
        rw [if_pos rfl] at hans
        unfold takeP at hans
        have hPK := ctakepicks_any p w3 p s (a + 18) T K hR3 hs ha18 hT2 hT6 (by omega)
        have hplc := takePicks_place bits T (by omega) K [0, 1, 2, 3, 4, 5] (a + 18) [] (by rw [HBITS.out, HBL.out]; exact ha18)
        rw [← HBITS.out] at hPK
        obtain ⟨⟨X, q, y⟩, hpe⟩ : ∃ c, c = takePicks bits T K [0, 1, 2, 3, 4, 5] (a + 18) [] := ⟨_, rfl⟩
        rw [← hpe] at hPK hans hplc
        dsimp only at hans hplc
        rw [HBITS.out, HBL.out] at hplc
        have HPK := Lib.hid hPK
        have HAN2 := Lib.hid hans
        have HPLC := Lib.hid hplc
        have hT6' := hT6
        clear hk3 hb3 hR3 hS3 ha18 hans hPK hplc hpe HAN HCOK HCNT HR2 HK2 HB2
        go_wp2_with fail
        refine HPK.out.mono ?_
        rintro e w4 ⟨v4, rfl, ho4, hR4, hS4⟩
        dsimp only at ho4 hR4 ⊢
        have hk4 : Blk w4 w.heap.size 26 #[.slice none 0 0, .slice none 0 0] := (hS4.below.block w.heap.size hpr).trans HK3.out
        have hb4 := HB3.out.trans (hS4.below.mono (Nat.le_of_lt hpr))
        have hsz3 := HB3.out.size
        have HK4 := Lib.hid hk4
        have HB4 := Lib.hid hb4
        by_cases ey : y = 0
        · subst ey
          have hR4 := hR4 rfl
          have hans := HAN2.out
          rw [if_pos rfl] at hans
          have hTT := ctaketabs_any w4 s q m T hs HPLC.out.1 (by omega) hT6
          rw [← HBITS.out] at hTT
          obtain ⟨⟨TS, q5, z5⟩, hte⟩ : ∃ c, c = takeT bits m T q [] := ⟨_, rfl⟩
          rw [← hte] at hTT hans
          dsimp only at hans
          have HTT := Lib.hid hTT
          have HAN3 := Lib.hid hans
          have HAT := Lib.hid (rat_yes w4 p (q : Nat) (by have := blk_cell hR4.blk 0; simpa using this) (by have := blk_cell hR4.blk 2; simpa using this))
          obtain ⟨A4, c4, rfl, hc4, hm4, hA4⟩ := own_slice ho4
          have HO4 := Lib.hid ho4
          clear hk4 hb4 hR4 hS4 hans hTT hte ho4 hA4 HPK HAN2 HPLC HK3 HB3
          obtain ⟨xl, hxl⟩ : ∃ xl, xl = X.length := ⟨_, rfl⟩
          rw [← hxl] at HO4 hc4 ⊢
          have HXL := Lib.hid hxl
          clear hxl
          go_wp2_with fail
          refine HAT.out.mono ?_
          rintro e w4 ⟨rfl, rfl⟩
          go_wp2_with fail
          refine HTT.out.mono ?_
          intro e w5 hcases
          rcases hcases with ⟨hz5, A5, c5, F, C, rfl, hL5, hC5, hCl⟩ | ⟨hz5, rfl, hb5⟩
          · dsimp only at hz5 hC5 ⊢
            subst hz5
            have hb5 := hL5.below
            have hk5 := (step_of_below hb5).blk HK4.out List.not_mem_nil List.not_mem_nil
            have hbw5 := HB4.out.trans (hb5.mono HB4.out.size)
            have hL0 : Lens w w5 (.slice A5 T c5) T F C := ⟨World.ownsRow.mono hL5.row HB4.out.size, fun t ht => ⟨(hL5.each t ht).1, World.ownsRow.mono (hL5.each t ht).2 HB4.out.size⟩, hbw5⟩
            have ho5 := row_low HO4.out hb5
            have hL6 := hL0.store hk5 (by decide) (by decide) (Nat.le_refl _) 0 (.slice A5 T c5)
            have hk6 := blk_set hk5 0 (.slice A5 T c5)
            have hL7 := hL6.store hk6 (by decide) (by decide) (Nat.le_refl _) 1 (.slice A4 xl c4)
            have hst : Step w.heap.size [w.heap.size] [] w5 ((w5.setCell ⟨w.heap.size, 0, none⟩ (.slice A5 T c5)).setCell ⟨w.heap.size, 1, none⟩ (.slice A4 xl c4)) :=
              ((Step.refl _ _ _ _).set (p := ⟨w.heap.size, 0, none⟩) (Nat.le_refl _) (by simp) _).set (p := ⟨w.heap.size, 1, none⟩) (Nat.le_refl _) (by simp) _
            have ho7 := hst.row ho5 (fun k hk => by rw [List.mem_singleton]; exact row_ne ho5 hk5 (by decide) k hk) List.not_mem_nil
            have hk7 := blk_set hk6 1 (.slice A4 xl c4)
            obtain ⟨_, _, hv5, hc5, _, _⟩ := own_slice hL5.row
            simp only [Value.slice.injEq] at hv5
            obtain ⟨rfl, _, rfl⟩ := hv5
            have hans := HAN3.out
            rw [if_pos rfl] at hans
            have hTS : TS.map zL = (List.range T).map fun t => zL (C t) := by rw [← hC5, List.map_map]; rfl
            rw [hTS] at hans
            have hpl : PlanIn _ (.agg #[.slice A5 T c5, .slice A4 xl c4]) ((List.range T).map fun t => zL (C t)) (zL X) :=
              ⟨_, T, c5, _, xl, c4, rfl, hL7.tabZ (fun t ht => by have := hCl t ht; omega), hc5, by unfold maxLen; omega, by rw [HXL.out] at ho7 ⊢; exact zin_of (ints_of_own ho7), hc4, Nat.le_trans hc4 hm4⟩
            have HE := Lib.hid (HOK.out _ _ _ _ q5 hans hpl (hbw5.trans hst.below))
            have g0 := (blk_cell hk5 0).trans (rfl : _ = some (Value.slice none 0 0))
            have g1 := (blk_cell hk5 1).trans (rfl : _ = some (Value.slice none 0 0))
            have f0 := blk_frozen hk5 0
            have f1 := blk_frozen hk5 1
            have r0 := (blk_cell hk7 0).trans (rfl : _ = some (Value.slice A5 T c5))
            have r1 := (blk_cell hk7 1).trans (rfl : _ = some (Value.slice A4 xl c4))
            clear hb5 hk5 hbw5 hL0 ho5 hL6 hk6 hL7 hst ho7 hk7 hans hTS hpl hL5 hC5 hCl HOK HERR HAN3 HTT HAT HO4 HK4 HB4
            go_wp2_with fail
            refine bodyPost_ret (v := .tuple #[.agg #[.slice A5 T c5, .slice A4 xl c4], .int .i64 q5, .int .i64 0]) ?_ rfl HE.out
            simp [results, Tryz.results18, go_sem, g0, g1]
          · dsimp only at hz5 ⊢
            have hk5 := (step_of_below hb5).blk HK4.out List.not_mem_nil List.not_mem_nil
            have hbw5 := HB4.out.trans (hb5.mono HB4.out.size)
            have hans := HAN3.out
            rw [if_neg hz5] at hans
            have HE := Lib.hid (HERR.out w5 z5 hans hbw5)
            have g0 := (blk_cell hk5 0).trans (rfl : _ = some (Value.slice none 0 0))
            have g1 := (blk_cell hk5 1).trans (rfl : _ = some (Value.slice none 0 0))
            have f0 := blk_frozen hk5 0
            have f1 := blk_frozen hk5 1
            have dz2 : ((z5 : Int) != 0) = true := by rw [bne_iff_ne]; omega
            have dz3 : ¬ (z5 : Int) = 0 := by omega
            clear hk5 hbw5 hans hb5 HOK HERR HAN3 HTT HAT HO4 HK4 HB4
            go_wp2_with fail
            refine bodyPost_ret (v := .tuple #[.agg #[.slice none 0 0, .slice none 0 0], .int .i64 0, .int .i64 z5]) ?_ rfl HE.out
            simp [results, Tryz.results18, go_sem, g0, g1]
        · have hans := HAN2.out
          rw [if_neg ey] at hans
          have HE := Lib.hid (HERR.out w4 y hans hb4)
          have g0 := (blk_cell hk4 0).trans (rfl : _ = some (Value.slice none 0 0))
          have g1 := (blk_cell hk4 1).trans (rfl : _ = some (Value.slice none 0 0))
          have f0 := blk_frozen hk4 0
          have f1 := blk_frozen hk4 1
          have dz2 : ((y : Int) != 0) = true := by rw [bne_iff_ne]; omega
          have dz3 : ¬ (y : Int) = 0 := by omega
          clear hans hk4 hb4 ho4 hR4 hS4 HPK HAN2 HPLC HOK HERR HK4 HB4
          go_wp2_with fail
          refine bodyPost_ret (v := .tuple #[.agg #[.slice none 0 0, .slice none 0 0], .int .i64 0, .int .i64 y]) ?_ rfl HE.out
          simp [results, Tryz.results18, go_sem, g0, g1]
      · have hans := HAN.out
        rw [if_neg ez] at hans
        have HE := Lib.hid (HERR.out w3 z hans hb3)
        have g0 := (blk_cell hk3 0).trans (rfl : _ = some (Value.slice none 0 0))
        have g1 := (blk_cell hk3 1).trans (rfl : _ = some (Value.slice none 0 0))
        have f0 := blk_frozen hk3 0
        have f1 := blk_frozen hk3 1
        have dz2 : ((z : Int) != 0) = true := by rw [bne_iff_ne]; omega
        have dz3 : ¬ (z : Int) = 0 := by omega
        clear hans hk3 hb3 hR3 hS3 HAN HCOK HCNT HOK HERR HR2 HK2 HB2
        go_wp2_with fail
        refine bodyPost_ret (v := .tuple #[.agg #[.slice none 0 0, .slice none 0 0], .int .i64 0, .int .i64 z]) ?_ rfl HE.out
        simp [results, Tryz.results18, go_sem, g0, g1]
    · rw [decide_eq_false h2] at HE3
      have hans := HDEF.out
      rw [if_pos (by omega)] at hans
      have HAN := Lib.hid hans
      clear hans HDEF hbl h2
      go_enter Tryz.func18, Tryz.ntmps18
      go_upto_region 1 with fail
      rw [HW1.out]
      clear HW1
      go_wp2_with fail
      refine HNR.out.mono ?_
      rintro e w2 ⟨rfl, hw2⟩
      rw [← hw2] at HR2 HK2 HB2
      clear hw2 HNR HK1 HB1 HR2
      go_wp2_with fail
      refine (HE3.out w2).mono ?_
      rintro e w2 ⟨rfl, rfl⟩
      have HE := Lib.hid (HERR.out w2 2 HAN.out HB2.out)
      have g0 := (blk_cell HK2.out 0).trans (rfl : _ = some (Value.slice none 0 0))
      have g1 := (blk_cell HK2.out 1).trans (rfl : _ = some (Value.slice none 0 0))
      have f0 := blk_frozen HK2.out 0
      have f1 := blk_frozen HK2.out 1
      clear HE3 HERR HOK HAN HK2 HB2
      go_wp2_with fail
      refine bodyPost_ret (v := .tuple #[.agg #[.slice none 0 0, .slice none 0 0], .int .i64 0, .int .i64 2]) ?_ rfl HE.out
      simp [results, Tryz.results18, go_sem, g0, g1]

end Go.Proofs.YtmgmgmbpldboiaaGreat
namespace Go.Proofs.YtmgmgmbpldboiaaGreat

/-- How many codes have k bits; how many have fewer; how many of k bits stand below number i. -/
def cntL (l : List Nat) (k : Nat) : Nat := l.countP fun x => x == k
def plcL (l : List Nat) (k : Nat) : Nat := l.countP fun x => decide (x < k)
def rnkL (l : List Nat) (k i : Nat) : Nat := (l.take i).countP fun x => x == k
/-- Where symbol s stands, by its length. -/
def idxL (l : List Nat) (s : Nat) : Nat := plcL l (l.getD s 0) + rnkL l (l.getD s 0) s

theorem take_snoc_nat (l : List Nat) (q : Nat) (h : q < l.length) : l.take (q + 1) = l.take q ++ [l.getD q 0] := by
  rw [List.take_add_one, List.getElem?_eq_getElem h, List.getD_eq_getElem?_getD, List.getElem?_eq_getElem h]
  rfl
theorem rnk_step (l : List Nat) (k i : Nat) (h : i < l.length) : rnkL l k (i + 1) = rnkL l k i + if l.getD i 0 = k then 1 else 0 := by
  unfold rnkL
  rw [take_snoc_nat l i h, List.countP_append]
  congr 1
  rw [List.countP_cons, List.countP_nil, Nat.zero_add]
  by_cases e : l.getD i 0 = k
  · rw [if_pos e, if_pos (by rw [e]; exact beq_self_eq_true k)]
  · rw [if_neg e, if_neg (by rw [beq_iff_eq]; exact e)]
theorem rnk_all (l : List Nat) (k : Nat) : rnkL l k l.length = cntL l k := by
  unfold rnkL cntL
  rw [List.take_length]
theorem rnk_mono (l : List Nat) (k : Nat) {i j : Nat} (h : i ≤ j) (hj : j ≤ l.length) : rnkL l k i ≤ rnkL l k j := by
  induction j with
  | zero =>
    rw [show i = 0 by omega]
    exact Nat.le_refl _
  | succ j ih =>
    by_cases e : i = j + 1
    · rw [e]
      exact Nat.le_refl _
    · have h1 := ih (by omega) (by omega)
      rw [rnk_step l k j (by omega)]
      omega
theorem rnk_lt (l : List Nat) {i j : Nat} (h : i < j) (hj : j ≤ l.length) : rnkL l (l.getD i 0) i < rnkL l (l.getD i 0) j := by
  have h1 := rnk_step l (l.getD i 0) i (by omega)
  rw [if_pos rfl] at h1
  have h2 := rnk_mono l (l.getD i 0) (show i + 1 ≤ j by omega) hj
  omega
theorem rnk_le (l : List Nat) (k i : Nat) : rnkL l k i ≤ l.length := by
  unfold rnkL
  have h1 := List.countP_le_length (p := fun x => x == k) (l := l.take i)
  rw [List.length_take] at h1
  omega
theorem plc_zero (l : List Nat) : plcL l 0 = 0 := by
  unfold plcL
  rw [List.countP_eq_zero]
  intro x _
  rw [decide_eq_true_iff]
  omega
theorem plc_up (l : List Nat) (k : Nat) : plcL l (k + 1) = plcL l k + cntL l k := by
  unfold plcL cntL
  induction l with
  | nil => rfl
  | cons x l ih =>
    rw [List.countP_cons, List.countP_cons, List.countP_cons, ih]
    by_cases h1 : x < k
    · rw [if_pos (decide_eq_true (by omega)), if_pos (decide_eq_true h1), if_neg (by rw [beq_iff_eq]; omega)]
      omega
    · by_cases h2 : x = k
      · rw [if_pos (decide_eq_true (by omega)), if_neg (by rw [decide_eq_true_iff]; omega), if_pos (by rw [beq_iff_eq]; exact h2)]
        omega
      · rw [if_neg (by rw [decide_eq_true_iff]; omega), if_neg (by rw [decide_eq_true_iff]; omega), if_neg (by rw [beq_iff_eq]; exact h2)]
        omega
theorem plc_mono (l : List Nat) {a b : Nat} (h : a ≤ b) : plcL l a ≤ plcL l b := by
  induction h with
  | refl => exact Nat.le_refl _
  | step h ih =>
    rw [plc_up]
    omega
theorem plc_le (l : List Nat) (k : Nat) : plcL l k ≤ l.length := List.countP_le_length
theorem cnt_le (l : List Nat) (k : Nat) : cntL l k ≤ l.length := List.countP_le_length
theorem idx_row {l : List Nat} {s : Nat} (h : s < l.length) : plcL l (l.getD s 0) ≤ idxL l s ∧ idxL l s < plcL l (l.getD s 0 + 1) := by
  have h1 := rnk_lt l h (Nat.le_refl _)
  rw [rnk_all] at h1
  rw [plc_up]
  unfold idxL
  omega
theorem idx_lt {l : List Nat} {s : Nat} (h : s < l.length) : idxL l s < l.length := by
  have h1 := (idx_row h).2
  have h2 := plc_le l (l.getD s 0 + 1)
  omega
theorem idx_one {l : List Nat} {s t : Nat} (hs : s < l.length) (ht : t < l.length) (h : idxL l s = idxL l t) : s = t := by
  have a := idx_row hs
  have b := idx_row ht
  by_cases e : l.getD s 0 = l.getD t 0
  · by_cases e1 : s < t
    · have h1 := rnk_lt l e1 (Nat.le_of_lt ht)
      unfold idxL at h
      rw [← e] at h
      omega
    · by_cases e2 : t < s
      · have h1 := rnk_lt l e2 (Nat.le_of_lt hs)
        unfold idxL at h
        rw [e] at h
        omega
      · omega
  · by_cases e1 : l.getD s 0 < l.getD t 0
    · have := plc_mono l (show l.getD s 0 + 1 ≤ l.getD t 0 by omega)
      omega
    · have := plc_mono l (show l.getD t 0 + 1 ≤ l.getD s 0 by omega)
      omega
theorem idx_onto {l : List Nat} {i : Nat} (h : i < l.length) : ∃ s, s < l.length ∧ idxL l s = i := by
  have hp := perm_of_nodup ((List.range l.length).map (idxL l)) l.length (by
    unfold List.Nodup
    rw [List.pairwise_map]
    refine List.Pairwise.imp_of_mem ?_ (List.nodup_range (n := l.length))
    intro a b ha hb hab e
    exact hab (idx_one (List.mem_range.1 ha) (List.mem_range.1 hb) e)) (by
    intro x hx
    obtain ⟨s, hs, rfl⟩ := List.mem_map.1 hx
    exact idx_lt (List.mem_range.1 hs)) (by rw [List.length_map, List.length_range])
  obtain ⟨s, hs, e⟩ := List.mem_map.1 (hp.mem_iff.2 (List.mem_range.2 h))
  exact ⟨s, List.mem_range.1 hs, e⟩
/-- Who stands in a row of one length. -/
theorem idx_of_row {l : List Nat} {s k : Nat} (hs : s < l.length) (h1 : plcL l k ≤ idxL l s) (h2 : idxL l s < plcL l (k + 1)) : l.getD s 0 = k := by
  have a := idx_row hs
  by_cases e1 : l.getD s 0 < k
  · have := plc_mono l (show l.getD s 0 + 1 ≤ k by omega)
    omega
  · by_cases e2 : k < l.getD s 0
    · have := plc_mono l (show k + 1 ≤ l.getD s 0 by omega)
      omega
    · omega
/-- Symbols by their lengths. -/
def SymOk (l : List Nat) (F : Nat → Nat) (i : Nat) : Prop := ∀ s, s < i → F (idxL l s) = s
theorem SymOk.step {l : List Nat} {F : Nat → Nat} {i : Nat} (h : SymOk l F i) (hi : i < l.length) : SymOk l (fun j => if j = idxL l i then i else F j) (i + 1) := by
  intro s hs
  show (if idxL l s = idxL l i then i else F (idxL l s)) = s
  by_cases e : s = i
  · subst e
    rw [if_pos rfl]
  · rw [if_neg (fun h2 => e (idx_one (by omega) hi h2))]
    exact h s (by omega)
theorem SymOk.get {l : List Nat} {F : Nat → Nat} (h : SymOk l F l.length) {i : Nat} (hi : i < l.length) : F i < l.length ∧ idxL l (F i) = i := by
  obtain ⟨s, hs, rfl⟩ := idx_onto hi
  rw [h s hs]
  exact ⟨hs, rfl⟩

/-- The first code of each length. -/
theorem cd_row (l : List Nat) (k : Nat) : ∀ i, i ≤ l.length → cd l k i = cd l k 0 + rnkL l k i
  | 0, _ => rfl
  | i + 1, h => by
    have ih := cd_row l k i (by omega)
    rw [rnk_step l k i (by omega)]
    by_cases e : l.getD i 0 = k
    · rw [cd_put (by omega) e, if_pos e, ih]
      omega
    · rw [cd_skip (by omega) e, if_neg e, ih]
      rfl
theorem cd_next (l : List Nat) {k : Nat} (hk : k < 20) : cd l (k + 1) 0 = (cd l k 0 + cntL l k) * 2 := by
  rw [cd_up (Nat.le_refl l.length) hk, cd_row l k l.length (Nat.le_refl _), rnk_all]
  omega
theorem cd_nought (l : List Nat) : cd l 0 0 = 0 := by
  unfold cd
  rw [pos_none, Nat.zero_div]
theorem code_row {l : List Nat} {s : Nat} (hs : s < l.length) : codeN l s = cd l (l.getD s 0) 0 + rnkL l (l.getD s 0) s := by
  rw [← cd_code (n := l.getD s 0) (i := s) rfl, cd_row l _ s (by omega)]
theorem code_idx {l : List Nat} {s : Nat} (hs : s < l.length) : codeN l s + plcL l (l.getD s 0) = cd l (l.getD s 0) 0 + idxL l s := by
  rw [code_row hs]
  unfold idxL
  omega
/-- Behind all codes, of 2^20. -/
theorem cd_last {l : List Nat} (h : Fits l) : cd l 20 0 + cntL l 20 = sumP l := by
  rw [← rnk_all, ← cd_row l 20 l.length (Nat.le_refl _)]
  unfold cd
  rw [pos_up 20 l l.length (Nat.le_refl _), pos_all 21 l fun x hx => by have := h.high x hx; omega]
  show sumP l / 2 ^ (20 - 20) = _
  rw [Nat.sub_self, Nat.pow_zero, Nat.div_one]

set_option maxRecDepth 100000 in
/-- What is no shorter code stands behind them. -/
theorem first_le {l bs : List Nat} (h : Fits l) (hb : Bit01 bs) {n : Nat} (hn : n ≤ bs.length) (h20 : n ≤ 20) (hc : Clear l bs n) (hs : val (bs.take n) * pw n < sumP l) : cd l n 0 ≤ val (bs.take n) := by
  obtain ⟨i, hi⟩ := (clear_begin h hb hn h20 hc).2 hs
  have a := begin_lie h hi
  have b : pos n 0 l ≤ lie l i := by
    unfold lie
    rcases Nat.lt_or_ge n (l.getD i 0) with h1 | h1
    · exact Nat.le_trans (pos_lines l h1 0) (pos_row _ l (Nat.zero_le _))
    · have := hi.2.1
      rw [show l.getD i 0 = n by omega]
      exact pos_row n l (Nat.zero_le _)
  have hp := pw_pos (l.getD i 0)
  have hd : cd l n 0 * pw n = pos n 0 l := Nat.div_mul_cancel (pos_dvd n h20 l 0)
  have h3 : cd l n 0 * pw n < (val (bs.take n) + 1) * pw n := by omega
  have := Nat.lt_of_mul_lt_mul_right h3
  omega
/-- Which symbol's code stands there. -/
theorem at_row {l : List Nat} {F : Nat → Nat} (h : Fits l) (hF : SymOk l F l.length) {n v : Nat} (h1 : cd l n 0 ≤ v) (h2 : v - cd l n 0 < cntL l n) : plcL l n + (v - cd l n 0) < l.length ∧ isAt l n v = some (F (plcL l n + (v - cd l n 0))) := by
  have hp := plc_up l n
  have hle := plc_le l (n + 1)
  have hlt : plcL l n + (v - cd l n 0) < l.length := by omega
  refine ⟨hlt, isAt_some h ?_⟩
  obtain ⟨hs, hi⟩ := hF.get hlt
  generalize F (plcL l n + (v - cd l n 0)) = s at *
  have hk : l.getD s 0 = n := idx_of_row hs (by omega) (by omega)
  have hcode := code_idx hs
  rw [hk] at hcode
  exact ⟨hs, hk, by omega⟩
theorem at_none {l : List Nat} {n v : Nat} (h2 : cntL l n ≤ v - cd l n 0) : isAt l n v = none := by
  cases e : isAt l n v with
  | none => rfl
  | some s =>
    exfalso
    obtain ⟨h3, h4, h5⟩ := isAt_is e
    have h6 := code_row h3
    have h7 := rnk_lt l h3 (Nat.le_refl _)
    rw [rnk_all] at h7
    rw [h4] at h6 h7
    omega
theorem at_beyond {l : List Nat} (h : Fits l) {n v : Nat} (hs : ¬ v * pw n < sumP l) : isAt l n v = none := by
  cases e : isAt l n v with
  | none => rfl
  | some s =>
    exfalso
    have h3 := isAt_is e
    have h4 := begin_lie h h3.begin
    have h5 := lie_in h h3.1
    have := pw_pos (l.getD s 0)
    omega
end Go.Proofs.YtmgmgmbpldboiaaGreat
namespace Go.Proofs.YtmgmgmbpldboiaaGreat
open Go.RowKit
variable {P : Program}

set_option maxRecDepth 100000 in
theorem results_cell {fn : Func} {p : Tmp} {ty t : TypeId} {tmps : Array Value} {w : World} {g n : Nat} {e : TypeId} {cs : Array Value} {fr : Nat × Nat} (h : fn.results = #[.cell p ty])
    (hp : tmps.getD p undef = .pointer (some ⟨g, 0, none⟩)) (hg : w.heap[g]? = some (.cells cs t fr)) (hu : P.underlying ty = some (.array n e)) (hi : (P.info? ty).map (·.size) = some cs.size) :
    (results fn tmps).run P w = .ok (.agg cs) w := by
  have := run_loadVar_row (P := P) w g t ty cs fr _ hg hu rfl hi
  rw [Array.getD_eq_getD_getElem?] at hp
  simp only [results, h]
  simp [hp, asAddr, this]

set_option maxRecDepth 100000 in
theorem store_cells_row {w : World} {t ty : TypeId} {g : Nat} {old cs : Array Value} (hg : w.heap[g]? = some (.cells old t (0, 0))) (hi : (P.info? ty).map (·.size) = some cs.size) (ho : old.size = cs.size) (h1 : cs.all (·.oneCell') = true) :
    (storeCells ⟨g, 0, none⟩ cs.toList 0).run P w = .ok () (w.setRow g cs) := by
  have := run_storeVar_row (P := P) w g t ty old cs hg hi ho h1
  cases hq : P.info? ty with
  | none => simp [hq] at hi
  | some i =>
    have hs : cs.size = i.size := by simp [hq] at hi; omega
    simpa [storeVar, sizeOf, typeInfo, hq, Value.cells, hs] using this

theorem below_setRow {B : Nat} {w w' : World} (h : Below B w w') {g : Nat} (hg : B ≤ g) (cs : Array Value) : Below B w (w'.setRow g cs) :=
  ⟨h.os, h.tape, h.output, by rw [size_setRow]; exact h.size, fun k hk => by rw [setRow_other _ _ _ _ (by omega)]; exact h.block k hk⟩
theorem heap_alloc_past (w : World) (o : Obj) (k : Nat) (h : k < w.heap.size) : (w.alloc o).heap[k]? = w.heap[k]? := by
  show (w.heap.push o)[k]? = _
  rw [Array.getElem?_push, if_neg (by omega)]

end Go.Proofs.YtmgmgmbpldboiaaGreat
