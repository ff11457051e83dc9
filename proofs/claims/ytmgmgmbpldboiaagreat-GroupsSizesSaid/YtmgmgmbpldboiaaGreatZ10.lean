/- Uh: texts laid together, what is not used left out. -/
import Derived.Test.YtmgmgmbpldboiaaGreatZ09
namespace Go.Proofs.YtmgmgmbpldboiaaGreat
open Go.RowKit

theorem tablesN_six (m : Int) : 2 ≤ tablesN m ∧ tablesN m ≤ 6 := by
  unfold tablesN
  repeat' split
  all_goals omega
set_option maxRecDepth 100000 in
theorem TabW.past {w w' : World} {B B' g n b : Nat} {C : Nat → List Nat} (h : TabW w B g n C) (hs : Step B' [b] [] w w') (hb : b < B) : TabW w' B g n C := by
  obtain ⟨F, h1, h2⟩ := h
  refine ⟨F, hs.row h1 (fun k hk => ?_) List.not_mem_nil, fun j hj => ?_⟩
  · have := (World.ownsRow.lt h1 k hk).1
    simp
    omega
  · obtain ⟨A, k, x, y, z⟩ := h2 j hj
    refine ⟨A, k, x, y, hs.row z (fun k2 hk2 => ?_) List.not_mem_nil⟩
    have := (World.ownsRow.lt z k2 hk2).1
    simp
    omega

set_option maxHeartbeats 6400000 in
set_option maxRecDepth 100000 in
theorem rchoose_any (w : World) (A : Option Addr) (n c : Nat) (L : List Int) (m : Nat) (hL : ZIn w A n L) (hnc : n ≤ c) (hn : n ≤ 1000000) (hM : MayG L m) :
    Calls Tryz.prog 11 #[.slice A n c, .int .i64 m] w (PlanPost w (chooseAns L m)) := by
  have hln := hL.1
  have h1n : 1 ≤ n := by have := hM.2.2.1; omega
  have hm3 : 3 ≤ m := by have := hM.1; omega
  have hm258 : m ≤ 258 := by have := hM.2.1; omega
  obtain ⟨l, hl⟩ : ∃ l, l = natL L := ⟨_, rfl⟩
  have hll : l.length = n := by rw [hl]; unfold natL; rw [List.length_map, hln]
  have hlm : ∀ x ∈ l, x < m := by
    intro x hx
    rw [hl] at hx
    obtain ⟨y, hy, rfl⟩ := List.mem_map.1 hx
    have := hM.2.2.2.2 y hy
    omega
  have hin : IntsIn w A n l := by rw [hl]; exact ints_of_zin hL fun x hx => (hM.2.2.2.2 x hx).1
  obtain ⟨T, hT⟩ : ∃ T, T = tablesN n := ⟨_, rfl⟩
  have hT6 : 2 ≤ T ∧ T ≤ 6 := by rw [hT]; exact tablesN_six _
  have htab : tablesAns n = (T, 0) := by
    unfold tablesAns
    rw [if_neg (by omega), hT]
  have hans : chooseAns L m = ((roundsG l m T 4).1.map zL, zL (roundsG l m T 4).2, 0) := by
    unfold chooseAns
    rw [if_pos hM, ← hl, Int.toNat_natCast, hln, ← hT]
  obtain ⟨R, hR⟩ : ∃ R, R = roundsG l m T 4 := ⟨_, rfl⟩
  rw [← hR] at hans
  have HR := Lib.hid hR
  rw [hans]
  obtain ⟨G, hG⟩ : ∃ G, G = groupsN n := ⟨_, rfl⟩
  have hGn : G ≤ 40000 ∧ n ≤ 50 * G ∧ 50 * G < n + 50 := by rw [hG]; unfold groupsN; omega
  have HML := Lib.hid fun (w1 : World) (hb : ZIn w1 A n L) => rmaylist_any w1 A n c L m hb (by unfold maxLen; omega)
  rw [show decide (MayG L m) = true from decide_eq_true hM] at HML
  have HTB := Lib.hid fun (w1 : World) => rtables_any w1 (n : Int)
  rw [htab] at HTB
  have HGR := Lib.hid fun (w1 : World) => rgroups_any w1 n (by omega)
  rw [← hG] at HGR
  have HL := Lib.hid (hL.below (w' := w.alloc (.cells #[.slice none 0 0, .slice none 0 0] 26)) ((Below.refl _ _).alloc (Nat.le_refl _) _))
  have HIN := Lib.hid fun (w1 : World) (hb : Below w.heap.size w w1) => ints_low hin hb
  have HLL := Lib.hid hll
  have HLMM := Lib.hid hlm
  have HG := Lib.hid hG
  have HP : Hid (∀ (B gT gP : Nat) (C : Nat → List Nat) (P : Nat → Nat) (w' : World), TabW w' B gT T C → (List.range T).map C = R.1 → (∀ t, t < T → (C t).length = m) → FRow w' B gP G G P → (List.range G).map P = R.2 →
      PlanIn w' (.agg #[.slice (some ⟨gT, 0, none⟩) T T, .slice (some ⟨gP, 0, none⟩) G G]) (R.1.map zL) (zL R.2)) := Lib.hid fun B gT gP C P w' h1 h2 h3 h4 h5 => by
    rw [← h2, ← h5]
    refine ⟨_, T, T, _, G, G, rfl, ⟨by simp, fun _ => ⟨gT, 0, rfl, fun i hi => ?_⟩⟩, Nat.le_refl _, by unfold maxLen; omega, zin_of h4.ints, Nat.le_refl _, by unfold maxLen; omega⟩
    have e : (((List.range T).map C).map zL).getD i [] = zL (C i) := by
      rw [List.getD_eq_getElem?_getD, List.getElem?_map, List.getElem?_map, List.getElem?_range hi]
      rfl
    obtain ⟨A2, k2, a, b, d⟩ := h1.read i hi
    have e2 : (zL (C i)).length = (C i).length := by unfold zL; simp
    rw [e, e2]
    refine ⟨A2, k2, by rw [Nat.zero_add]; exact a, ?_, d, by have := h3 i hi; unfold maxLen; omega⟩
    exact zin_of b
  have HPO : Hid (∀ v w', PlanIn w' v (R.1.map zL) (zL R.2) → Below w.heap.size w w' → PlanPost w (R.1.map zL, zL R.2, 0) (.returned (.tuple #[v, .int .i64 0])) w') := Lib.hid fun v w' h1 h2 => ⟨v, rfl, h1, h2⟩
  generalize PlanPost w (R.1.map zL, zL R.2, 0) = PO at *
  clear hR hL hin hM hln hl hll hlm hT htab hans hG
  go_enter Tryz.func11, Tryz.ntmps11
  go_wp2_with fail
  refine (HML.out _ HL.out).mono ?_
  rintro e w' ⟨rfl, rfl⟩
  have hr0 : Blk (w.alloc (.cells #[.slice none 0 0, .slice none 0 0] 26)) w.heap.size 26 #[.slice none 0 0, .slice none 0 0] := blk_new w _ _
  have hb0 : Below w.heap.size w (w.alloc (.cells #[.slice none 0 0, .slice none 0 0] 26)) := (Below.refl _ _).alloc (Nat.le_refl _) _
  generalize w.alloc (.cells #[.slice none 0 0, .slice none 0 0] 26) = w1 at *
  have HR0 := Lib.hid hr0
  have HB0 := Lib.hid hb0
  have hz1 : w.heap.size < w1.heap.size := blk_lt hr0
  clear hr0 hb0 HL HML
  go_wp2_with fail
  refine (HTB.out _).mono ?_
  rintro e w2 ⟨rfl, rfl⟩
  have hmk := make_tab w2 T (by omega)
  have HF0 := Lib.hid (tabF_new w2 w2.heap.size T (Nat.le_refl _) (by omega))
  have HBB : Hid (Below w2.heap.size w2 (w2.alloc (.cells (madeCells #[.slice none 0 0] T) 22))) := Lib.hid ((Below.refl _ _).alloc (Nat.le_refl _) _)
  go_wp2_with fail
  clear hmk HTB
  go_loopw [9, 10, 11] (fun tv s10 s11 wx => ∃ (t : Nat) (F : Nat → Value), t ≤ T ∧ tv = .int .i64 t ∧ TabF wx w2.heap.size w2.heap.size T (fun j => if j < t then (List.range m).map (startR m T j) else []) F ∧ (∀ j, t ≤ j → F j = .slice none 0 0) ∧ Below w2.heap.size w2 wx) (fun tv _ _ _ => T - (intOf tv).toNat)
  case atStart =>
    refine ⟨0, fun _ => .slice none 0 0, Nat.zero_le _, rfl, ?_, fun _ _ => rfl, HBB.out⟩
    have e : (fun j => if j < 0 then (List.range m).map (startR m T j) else []) = fun _ => [] := by
      funext j
      rw [if_neg (by omega)]
    rw [e]
    exact HF0.out
  case round =>
    clear HF0 HBB
    rename World => w3
    obtain ⟨t, F, ht, rfl, hF, hFn, hb⟩ := hrel
    by_cases e : t < T
    · have dt : decide ((t : Int) < (T : Int)) = true := decide_eq_true (by omega)
      have htI : (0 : Int) ≤ (t : Int) := by omega
      have htT : (t : Int) < (T : Int) := by omega
      have HGS := Lib.hid (grows_start (w := w2) hF (hFn t (Nat.le_refl _)) hb)
      have HF := Lib.hid hF
      have HFN := Lib.hid hFn
      have HB := Lib.hid hb
      have hz3 : w2.heap.size ≤ w3.heap.size := hb.size
      clear hF hFn hb
      go_wp2_with fail
      go_loopw [10, 11] (fun sv s11 wx => ∃ s : Nat, s ≤ m ∧ sv = .int .i64 s ∧ Grows w2 w3 wx w2.heap.size w2.heap.size T t s F ((List.range s).map (startR m T t))) (fun sv _ _ => m - (intOf sv).toNat)
      case atStart => exact ⟨0, Nat.zero_le _, rfl, HGS.out⟩
      case round =>
        clear HGS
        rename World => w4
        obtain ⟨s, hs, rfl, hgr⟩ := hrel
        by_cases e2 : s < m
        · have ds : decide ((s : Int) < (m : Int)) = true := decide_eq_true (by omega)
          obtain ⟨p, hp⟩ : ∃ p : Nat, p = s * T := ⟨_, rfl⟩
          have hpz : (s : Int) * (T : Int) = (p : Int) := by rw [hp]; simp
          have hpb : p ≤ 258 * 6 := by rw [hp]; exact Nat.mul_le_mul (by omega) hT6.2
          obtain ⟨q, hq⟩ : ∃ q : Nat, q = p / m := ⟨_, rfl⟩
          have hqz : (p : Int) / (m : Int) = (q : Int) := by rw [hq]; simp
          have hqb : q ≤ 1548 := by rw [hq]; have := Nat.div_le_self p m; omega
          have hm0 : ¬ (m : Int) = 0 := by omega
          have hm0b : ((m : Int) == 0) = false := by rw [beq_eq_false_iff_ne]; omega
          have hst : startR m T t s = if q = t then 1 else 15 := by unfold startR; rw [← hp, ← hq]
          have hxx : ∀ cc, startR m T t s = cc → (List.range s).map (startR m T t) ++ [cc] = (List.range (s + 1)).map (startR m T t) := fun cc h => by rw [List.range_succ, List.map_append, List.map_singleton, h]
          have hstep := fun cc : Nat => grows_step (Nat.le_refl _) hz3 hgr e (by omega) cc
          have HSTEP := Lib.hid hstep
          have HXX := Lib.hid hxx
          have HST := Lib.hid hst
          clear hgr hp hq hst hxx hstep
          by_cases h1 : q = t
          · have d1 : ((q : Int) == (t : Int)) = true := by rw [h1]; exact beq_self_eq_true _
            obtain ⟨A1, cap, A3, cap3, w5, hc, hrun, ⟨u, hu⟩, hfz, hg2⟩ := HSTEP.out 1
            rw [HXX.out 1 (by rw [HST.out, if_pos h1])] at hg2
            have HG2 := Lib.hid hg2
            have HRUN := Lib.hid hrun
            have H1 := Lib.hid h1
            clear hg2 hrun h1 HSTEP HXX HST
            go_wp2_with (at_builtin; refine Lib.wpList_append_run _ rfl (.tmp 53) (.tmp 55) 22 22 rfl (.slice A1 s cap) (.slice (some ⟨w4.heap.size, 0, none⟩) 1 1) rfl rfl _ _ HRUN.out ?_)
            go_roundw
            case rel => exact ⟨s + 1, by omega, by go_num, HG2.out⟩
            case measure => simp [intOf]; omega
          · have d1 : ((q : Int) == (t : Int)) = false := beq_eq_false_iff_ne.2 fun h => h1 (Int.ofNat.inj h)
            obtain ⟨A1, cap, A3, cap3, w5, hc, hrun, ⟨u, hu⟩, hfz, hg2⟩ := HSTEP.out 15
            rw [HXX.out 15 (by rw [HST.out, if_neg h1])] at hg2
            have HG2 := Lib.hid hg2
            have HRUN := Lib.hid hrun
            clear hg2 hrun HSTEP HXX HST
            go_wp2_with (at_builtin; refine Lib.wpList_append_run _ rfl (.tmp 53) (.tmp 55) 22 22 rfl (.slice A1 s cap) (.slice (some ⟨w4.heap.size, 0, none⟩) 1 1) rfl rfl _ _ HRUN.out ?_)
            go_roundw
            case rel => exact ⟨s + 1, by omega, by go_num, HG2.out⟩
            case measure => simp [intOf]; omega
        · obtain rfl : s = m := by omega
          have ds : decide ((s : Int) < (s : Int)) = false := decide_eq_false (by omega)
          obtain ⟨v, hv⟩ := grows_tabF hz3 HF.out hgr (by simp)
          have e9 : (fun j => if j = t then (List.range s).map (startR s T t) else if j < t then (List.range s).map (startR s T j) else []) = fun j => if j < t + 1 then (List.range s).map (startR s T j) else [] := by
            funext j
            by_cases ej : j = t
            · rw [if_pos ej, if_pos (by omega), ej]
            · rw [if_neg ej]
              by_cases ej2 : j < t
              · rw [if_pos ej2, if_pos (by omega)]
              · rw [if_neg ej2, if_neg (by omega)]
          rw [e9] at hv
          have HV := Lib.hid hv
          have HB4 := Lib.hid hgr.below
          clear hv hgr e9
          go_wp2_with fail
          go_roundw
          case rel =>
            refine ⟨t + 1, _, by omega, by go_num, HV.out, fun j hj => ?_, HB4.out⟩
            have := HFN.out j (by omega)
            rw [if_neg (by omega)]
            exact this
          case measure => simp [intOf]; omega
    · obtain rfl : T = t := by omega
      have dt : decide ((T : Int) < (T : Int)) = false := decide_eq_false (by omega)
      have hW : TabX w3 w2.heap.size w2.heap.size T (fun j => (List.range m).map (startR m T j)) w3.heap.size := (hF.tabX (Nat.le_refl _)).same fun j hj => if_pos hj
      have HW := Lib.hid hW
      have HB := Lib.hid hb
      have hz3 : w2.heap.size ≤ w3.heap.size := hb.size
      clear hF hFn hb hW
      go_wp2_with fail
      refine (HGR.out _).mono ?_
      rintro e w4 ⟨rfl, rfl⟩
      have hmk := make_noughts w4 G (by omega)
      have HMK := Lib.hid (made_noughts w4 w2.heap.size G hz3 (by omega))
      have hst4 : Step w4.heap.size [] [] w4 (w4.alloc (.cells (madeCells #[.int .i64 0] G) 3)) := (Step.refl _ _ _ _).alloc (Nat.le_refl _) _
      have HW4 := Lib.hid (HW.out.step hst4)
      have HB4 := Lib.hid (HB.out.trans (hst4.below.mono hz3))
      have HLT := Lib.hid fun (w1 : World) (hb : Below w2.heap.size w2 w1) => HIN.out w1 (HB0.out.trans (hb.mono (Nat.le_of_lt hz1)))
      clear HGR hst4 HW HB
      go_wp2_with fail
      clear hmk
      have HRD : Hid (∃ (C : Nat → List Nat) (P : Nat → Nat), TabX (w4.alloc (.cells (madeCells #[.int .i64 0] G) 3)) w2.heap.size w2.heap.size T C w4.heap.size ∧ FRow (w4.alloc (.cells (madeCells #[.int .i64 0] G) 3)) w2.heap.size w4.heap.size G G P ∧ (List.range T).map C = (roundsG l m T 0).1 ∧ (List.range G).map P = (roundsG l m T 0).2 ∧ ∀ j, j < T → (C j).length = m ∧ ∀ x ∈ C j, x ≤ 1000) := Lib.hid
        ⟨_, _, HW4.out, HMK.out, rfl, by rw [List.map_const', List.length_range]; show _ = List.replicate (groupsN l.length) 0; rw [HLL.out, ← HG.out], fun j _ => ⟨by simp, fun x hx => by
          obtain ⟨s, _, rfl⟩ := List.mem_map.1 hx
          unfold startR
          split <;> omega⟩⟩
      clear HW4 HMK
      go_loopw [13, 14, 15, 16, 17] (fun rv s14 s15 s16 s17 wx => ∃ (r : Nat) (C : Nat → List Nat) (P : Nat → Nat), r ≤ 4 ∧ rv = .int .i64 r ∧ TabX wx w2.heap.size w2.heap.size T C w4.heap.size ∧ FRow wx w2.heap.size w4.heap.size G G P ∧ Hid ((List.range T).map C = (roundsG l m T r).1 ∧ (List.range G).map P = (roundsG l m T r).2) ∧ Hid (∀ j, j < T → (C j).length = m ∧ ∀ x ∈ C j, x ≤ 1000) ∧ Below w2.heap.size w2 wx) (fun rv _ _ _ _ _ => 4 - (intOf rv).toNat)
      case atStart =>
        obtain ⟨C, P, h1, h2, h3, h4, h5⟩ := HRD.out
        exact ⟨0, C, P, Nat.zero_le _, rfl, h1, h2, ⟨h3, h4⟩, h5, HB4.out⟩
      case round =>
        clear HRD HB4
        rename World => w5
        obtain ⟨r, C, P, hr, rfl, hC, hPk, hRS, hCB, hb⟩ := hrel
        by_cases e3 : r < 4
        · have dr : decide ((r : Int) < 4) = true := decide_eq_true (by omega)
          have HC := Lib.hid hC
          have HPK := Lib.hid hPk
          have HB := Lib.hid hb
          clear hC hPk hb
          go_wp2_with fail
          go_loopw [14] (fun kv wx => ∃ k : Nat, k ≤ G ∧ kv = .int .i64 k ∧ TabX wx w2.heap.size w2.heap.size T C w4.heap.size ∧ FRow wx w2.heap.size w4.heap.size G G (fun j => if j < k then pickG ((List.range T).map C) (partG l j) else P j) ∧ Below w2.heap.size w2 wx) (fun kv _ => G - (intOf kv).toNat)
          case atStart =>
            refine ⟨0, Nat.zero_le _, rfl, HC.out, ?_, HB.out⟩
            have e9 : (fun j => if j < 0 then pickG ((List.range T).map C) (partG l j) else P j) = P := by
              funext j
              rw [if_neg (by omega)]
            rw [e9]
            exact HPK.out
          case round =>
            clear HC HPK HB
            rename World => w6
            obtain ⟨k, hk, rfl, hC, hPk, hb⟩ := hrel
            by_cases e4 : k < G
            · have dk : decide ((k : Int) < (G : Int)) = true := decide_eq_true (by omega)
              have hkI : (0 : Int) ≤ (k : Int) := by omega
              have hkG : (k : Int) < (G : Int) := by omega
              have HPART := Lib.hid (rpart_any w6 A n c l k (HLT.out w6 hb) hnc (by omega) (by omega))
              have HPICK := Lib.hid fun (A2 : Option Addr) (c2 : Nat) (hG2 : IntsIn w6 A2 (partG l k).length (partG l k)) => rpick_any w6 w2.heap.size T m C hC.tabW.read (by omega) hT6.2 hm258 hCB.out A2 (partG l k).length c2 (partG l k) hG2 (by rw [partG_length]; omega) (fun x hx => HLMM.out x (List.mem_of_mem_drop (List.mem_of_mem_take hx)))
              have HC := Lib.hid hC
              have HPK := Lib.hid hPk
              have HB := Lib.hid hb
              clear hC hPk hb
              go_wp2_with fail
              refine HPART.out.mono ?_
              rintro e w7 ⟨A2, c2, rfl, hi2, hc2, rfl⟩
              have HP2 := Lib.hid (HPICK.out A2 c2 hi2)
              clear hi2 hc2 HPART HPICK
              obtain ⟨pk, hpk⟩ : ∃ pk, pk = pickG ((List.range T).map C) (partG l k) := ⟨_, rfl⟩
              rw [← hpk] at HP2
              have HPKE := Lib.hid hpk
              generalize (partG l k).length = pl at *
              clear hpk
              go_wp2_with fail
              refine HP2.out.mono ?_
              rintro e w8 ⟨rfl, d, rfl⟩
              have hf8 := HPK.out.drew d
              have c8 := hf8.cell k e4
              have f8 := hf8.frozen k
              have hs8 := hf8.set k pk
              have hfn : (fun j => if j = k then pk else if j < k then pickG ((List.range T).map C) (partG l j) else P j) = fun j => if j < k + 1 then pickG ((List.range T).map C) (partG l j) else P j := by
                funext j
                by_cases ej : j = k
                · rw [if_pos ej, if_pos (by omega), ej, HPKE.out]
                · rw [if_neg ej]
                  by_cases ej2 : j < k
                  · rw [if_pos ej2, if_pos (by omega)]
                  · rw [if_neg ej2, if_neg (by omega)]
              rw [hfn] at hs8
              have hlt8 := HPK.out.lt
              have HS8 := Lib.hid hs8
              have HB8 := Lib.hid ((below_drewN HB.out d).setCell (p := ⟨w4.heap.size, k, none⟩) hlt8.1 (.int .i64 (pk : Nat)))
              have HC8 : Hid (TabX ((w7.drewN d).setCell ⟨w4.heap.size, k, none⟩ (.int .i64 (pk : Nat))) w2.heap.size w2.heap.size T C w4.heap.size) := Lib.hid (TabX.other (w := w7.drewN d) HC.out hf8 k _)
              clear hf8 hs8 hfn HC HPK HB HP2
              go_wp2_with fail
              go_roundw
              case rel => exact ⟨k + 1, by omega, by go_num, HC8.out, HS8.out, HB8.out⟩
              case measure => simp [intOf]; omega
            · obtain rfl : k = G := by omega
              have dk : decide ((k : Int) < (k : Int)) = false := decide_eq_false (by omega)
              have hP9 : FRow w6 w2.heap.size w4.heap.size k k (fun j => pickG ((List.range T).map C) (partG l j)) := by
                have h3 : w6.ownsRow w2.heap.size 3 1 (.slice (some ⟨w4.heap.size, 0, none⟩) k k) k (rowF k fun j => if j < k then pickG ((List.range T).map C) (partG l j) else P j) := hPk
                rw [rowF_same k _ (fun j => pickG ((List.range T).map C) (partG l j)) fun j hj => if_pos hj] at h3
                exact h3
              obtain ⟨P9, hP9e⟩ : ∃ P9 : Nat → Nat, P9 = fun j => pickG ((List.range T).map C) (partG l j) := ⟨_, rfl⟩
              rw [← hP9e] at hP9
              have HPL : Hid ((List.range k).map P9 = picksG l ((List.range T).map C)) := Lib.hid (by
                unfold picksG
                rw [HLL.out, ← HG.out, hP9e])
              have HRS : Hid ((List.range T).map C = (roundsG l m T r).1) := Lib.hid hRS.out.1
              have HC := Lib.hid hC
              have HPK := Lib.hid hP9
              have HB := Lib.hid hb
              clear hC hPk hb hP9 hP9e hRS
              have hPLb : ∀ j, countF l ((List.range k).map P9) j = countF l ((List.range k).map P9) j := fun _ => rfl
              clear hPLb
              obtain ⟨PL, hPL⟩ : ∃ PL, PL = (List.range k).map P9 := ⟨_, rfl⟩
              have HPLE := Lib.hid hPL
              rw [← hPL] at HPL
              clear hPL
              go_wp2_with fail
              go_loopw [15, 16, 17] (fun tv s16 s17 wx => ∃ t : Nat, t ≤ T ∧ tv = .int .i64 t ∧ TabX wx w2.heap.size w2.heap.size T (fun j => if j < t then makeG (countsG l PL j m) else C j) w4.heap.size ∧ FRow wx w2.heap.size w4.heap.size k k P9 ∧ Hid (∀ j, j < t → ∀ x ∈ makeG (countsG l PL j m), x ≤ 17) ∧ Below w2.heap.size w2 wx) (fun tv _ _ _ => T - (intOf tv).toNat)
              case atStart =>
                refine ⟨0, Nat.zero_le _, rfl, HC.out.same fun j _ => ?_, HPK.out, fun j hj => absurd hj (by omega), HB.out⟩
                rw [if_neg (by omega)]
              case round =>
                clear HC HPK HB
                rename World => w7
                obtain ⟨t, ht, rfl, hC, hPk, hLE, hb⟩ := hrel
                by_cases e5 : t < T
                · have dt : decide ((t : Int) < (T : Int)) = true := decide_eq_true (by omega)
                  have htI : (0 : Int) ≤ (t : Int) := by omega
                  have htT : (t : Int) < (T : Int) := by omega
                  have hpi := hPk.ints
                  rw [← HPLE.out] at hpi
                  have HCO := Lib.hid (rcounts_any w7 A n c l (HLT.out w7 hb) (by omega) (some ⟨w4.heap.size, 0, none⟩) k k PL hpi hGn.2.1 t m hm258 HLMM.out)
                  have HC := Lib.hid hC
                  have HPK := Lib.hid hPk
                  have HB := Lib.hid hb
                  clear hC hPk hb hpi
                  go_wp2_with fail
                  refine HCO.out.mono ?_
                  rintro e w8 ⟨rfl, hf8, hb8⟩
                  have hz := zin_of hf8.ints
                  have hcb : ∀ s, countF l PL t s ≤ 1000000 := fun s => by
                    have := countQ_le l PL t s l.length
                    unfold countF
                    have := HLL.out
                    omega
                  have hMay : MayW (((List.range m).map (countF l PL t)).map fun (x : Nat) => (x : Int)) := by
                    refine ⟨by simp; omega, by simp; omega, fun x hx => ?_⟩
                    obtain ⟨y, hy, rfl⟩ := List.mem_map.1 hx
                    obtain ⟨s, _, rfl⟩ := List.mem_map.1 hy
                    have := hcb s
                    omega
                  have HMK := Lib.hid (make_any w8 (some ⟨w7.heap.size, 0, none⟩) m m _ 17 hz hMay (by omega) (by omega))
                  have HB8 := Lib.hid hb8
                  have HMAY := Lib.hid hMay
                  clear hf8 hb8 hz hMay hcb HCO
                  go_wp2_with fail
                  refine HMK.out.mono ?_
                  intro e w9 hmp
                  rcases hmp with ⟨hno, _⟩ | ⟨_, _, _, v, len, hR, rfl, hown, hb9⟩
                  · exact absurd HMAY.out (hno.resolve_right (by omega))
                  · obtain ⟨A9, c9, rfl, hc9, _, hA9⟩ := own_slice hown
                    have hWl : (((List.range m).map (countF l PL t)).map fun (x : Nat) => (x : Int)).length = m := by simp
                    rw [hWl] at hown hc9 hA9 ⊢
                    rw [oneW_cast, show ((17 : Nat) : Int).toNat = 17 from rfl] at hR
                    have hlen := makeF_is hR
                    have hmg : makeG (countsG l PL t m) = (List.range m).map len := by
                      unfold makeG countsG
                      rw [hlen, List.length_map, List.length_range]
                    have hgood : ∀ i, i < m → len i ≤ 17 := by
                      have := (makeR_good hR).1
                      intro i hi
                      exact this i (by unfold oneW; simp; exact hi)
                    have HLE2 : Hid (∀ j, j < t + 1 → ∀ x ∈ makeG (countsG l PL j m), x ≤ 17) := Lib.hid (by
                      intro j hj x hx
                      by_cases ej : j = t
                      · subst ej
                        rw [hmg] at hx
                        obtain ⟨i, hi, rfl⟩ := List.mem_map.1 hx
                        exact hgood i (List.mem_range.1 hi)
                      · exact hLE.out j (by omega) x hx)
                    have hrow : w9.ownsRow w8.heap.size 3 1 (.slice A9 m c9) m ((makeG (countsG l PL t m)).map iv) := by
                      rw [hmg, List.map_map]
                      exact hown
                    have hml : (makeG (countsG l PL t m)).length = m := by rw [hmg]; simp
                    have hz8 : w7.heap.size ≤ w8.heap.size := HB8.out.size
                    have hz7 : w2.heap.size ≤ w7.heap.size := HB.out.size
                    have hp7 := HPK.out.lt
                    have hst9 : Step w7.heap.size [] [] w7 w9 := (step_of_below HB8.out).after (step_of_below hb9) hz8 (fun i hi => absurd hi (by simp)) (fun i hi => absurd hi (by simp))
                    have hC9 := HC.out.step hst9
                    have hset := hC9.set (i := t) (A := A9) (k := c9) (L := makeG (countsG l PL t m)) (by rw [hml]; exact World.ownsRow.mono hrow (by omega)) (by omega) (by
                      intro e
                      have := (World.ownsRow.lt hrow w4.heap.size (by rw [hml] at e; exact e)).1
                      omega)
                    rw [hml] at hset
                    have hfn : (fun j => if j = t then makeG (countsG l PL t m) else if j < t then makeG (countsG l PL j m) else C j) = fun j => if j < t + 1 then makeG (countsG l PL j m) else C j := by
                      funext j
                      by_cases ej : j = t
                      · rw [if_pos ej, if_pos (by omega), ej]
                      · rw [if_neg ej]
                        by_cases ej2 : j < t
                        · rw [if_pos ej2, if_pos (by omega)]
                        · rw [if_neg ej2, if_neg (by omega)]
                    rw [hfn] at hset
                    have hp9 : FRow w9 w2.heap.size w4.heap.size k k P9 := hst9.row HPK.out (fun _ _ => List.not_mem_nil) List.not_mem_nil
                    obtain ⟨u9, hu9⟩ := hC9.tabW.there t e5
                    have fz9 := hC9.tabW.frozen t
                    have HS9 := Lib.hid hset
                    have HP9 := Lib.hid (hp9.keep hC9 t (.slice A9 m c9))
                    have HB9 := Lib.hid ((HB.out.trans (hst9.below.mono hz7)).setCell (p := ⟨w2.heap.size, t, none⟩) (Nat.le_refl _) (.slice A9 m c9))
                    clear hR hown hb9 hlen hmg hgood hrow hst9 hC9 hset hfn hp9 hA9 HMK HMAY HC HPK HB
                    go_wp2_with fail
                    go_roundw
                    case rel => exact ⟨t + 1, by omega, by go_num, HS9.out, HP9.out, HLE2, HB9.out⟩
                    case measure => simp [intOf]; omega
                · obtain rfl : T = t := by omega
                  have dt : decide ((T : Int) < (T : Int)) = false := decide_eq_false (by omega)
                  have HC : Hid (TabX w7 w2.heap.size w2.heap.size T (fun j => makeG (countsG l PL j m)) w4.heap.size) := Lib.hid (hC.same fun j hj => if_pos hj)
                  have HPK := Lib.hid hPk
                  have HB := Lib.hid hb
                  have HN1 : Hid ((List.range T).map (fun j => makeG (countsG l PL j m)) = (roundsG l m T (r + 1)).1 ∧ (List.range k).map P9 = (roundsG l m T (r + 1)).2) := Lib.hid (by
                    rw [roundsG, ← HRS.out, ← HPL.out, ← HPLE.out]
                    exact ⟨rfl, rfl⟩)
                  have HBD : Hid (∀ j, j < T → (makeG (countsG l PL j m)).length = m ∧ ∀ x ∈ makeG (countsG l PL j m), x ≤ 1000) := Lib.hid (by
                    intro j hj
                    refine ⟨by unfold makeG countsG; simp, fun x hx => ?_⟩
                    have := hLE.out j hj x hx
                    omega)
                  clear hC hPk hb
                  go_wp2_with fail
                  go_roundw
                  case rel => exact ⟨r + 1, _, P9, by omega, by go_num, HC.out, HPK.out, HN1, HBD, HB.out⟩
                  case measure => simp [intOf]; omega
        · obtain rfl : r = 4 := by omega
          have dr : decide ((4 : Int) < 4) = false := rfl
          have hr5 : Blk w5 w.heap.size 26 #[.slice none 0 0, .slice none 0 0] := (hb.block w.heap.size hz1).trans HR0.out
          have k0 := (blk_cell hr5 0).trans (rfl : _ = some (Value.slice none 0 0))
          have k1 := (blk_cell hr5 1).trans (rfl : _ = some (Value.slice none 0 0))
          have f0 := blk_frozen hr5 0
          have f1 := blk_frozen hr5 1
          have hstf : Step 0 [w.heap.size] [] w5 ((w5.setCell ⟨w.heap.size, 0, none⟩ (.slice (some ⟨w2.heap.size, 0, none⟩) T T)).setCell ⟨w.heap.size, 1, none⟩ (.slice (some ⟨w4.heap.size, 0, none⟩) G G)) :=
            ((Step.refl 0 [w.heap.size] [] w5).set (p := ⟨w.heap.size, 0, none⟩) (Nat.zero_le _) (by simp) _).set (p := ⟨w.heap.size, 1, none⟩) (Nat.zero_le _) (by simp) _
          have hpf := hPk.lt
          have hPf : FRow _ w2.heap.size w4.heap.size G G P := hstf.row hPk (fun g hg => by simp [Value.ownBlock] at hg; simp; omega) List.not_mem_nil
          have HPLN := Lib.hid (HP.out w2.heap.size w2.heap.size w4.heap.size C P _ (hC.tabW.past hstf hz1) (by rw [HR.out]; exact hRS.out.1) (fun t ht => (hCB.out t ht).1) hPf (by rw [HR.out]; exact hRS.out.2))
          have HBE := Lib.hid (((HB0.out.trans (hb.mono (Nat.le_of_lt hz1))).setCell (p := ⟨w.heap.size, 0, none⟩) (Nat.le_refl _) (.slice (some ⟨w2.heap.size, 0, none⟩) T T)).setCell (p := ⟨w.heap.size, 1, none⟩) (Nat.le_refl _) (.slice (some ⟨w4.heap.size, 0, none⟩) G G))
          have hrf := blk_set (blk_set hr5 0 (.slice (some ⟨w2.heap.size, 0, none⟩) T T)) 1 (.slice (some ⟨w4.heap.size, 0, none⟩) G G)
          have q0 := (blk_cell hrf 0).trans (rfl : _ = some (Value.slice (some ⟨w2.heap.size, 0, none⟩) T T))
          have q1 := (blk_cell hrf 1).trans (rfl : _ = some (Value.slice (some ⟨w4.heap.size, 0, none⟩) G G))
          clear hC hPk hRS hCB hb hstf hPf hrf
          go_wp2_with fail
          (try simp only [Exit.inBlock, Exit.then])
          refine bodyPost_ret (v := .tuple #[.agg #[.slice (some ⟨w2.heap.size, 0, none⟩) T T, .slice (some ⟨w4.heap.size, 0, none⟩) G G], .int .i64 0]) ?_ rfl (HPO.out _ _ HPLN.out HBE.out)
          simp [results, Tryz.results11, go_sem, q0, q1]

end Go.Proofs.YtmgmgmbpldboiaaGreat
