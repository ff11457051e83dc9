/- The law LengthsBest, walked over what is asked of the code's functions. -/
import Derived.Test.YthpfmkknebnppaaYm
namespace Go.Proofs.Ythpfmkknebnppaa
open Go.RowKit

theorem oneL_int (W : List Int) (n : Nat) (hn : W.length = n) : (intL (oneL W)).length = n ∧ (∀ j, j < n → (intL (oneL W)).getD j 0 = (oneF W j : Nat)) ∧ oneL (intL (oneL W)) = oneL W := by
  have hl : (oneL W).length = n := by unfold oneL; simp [hn]
  have hl2 : (intL (oneL W)).length = n := by unfold intL; rw [List.length_map]; exact hl
  have hg : ∀ j, j < n → (intL (oneL W)).getD j 0 = (oneF W j : Nat) := by
    intro j hj
    unfold intL
    rw [List.getD_eq_getElem?_getD, List.getElem?_map, List.getElem?_eq_getElem (by omega)]
    show ((oneL W)[j] : Int) = _
    have h1 := oneL_get W j (by omega)
    rw [List.getD_eq_getElem?_getD, List.getElem?_eq_getElem (by omega)] at h1
    rw [← h1]
    rfl
  refine ⟨hl2, hg, ?_⟩
  unfold oneL
  rw [show (intL ((List.range W.length).map (oneF W))).length = W.length by simp [intL]]
  refine List.map_congr_left fun j hj => ?_
  have hj := List.mem_range.1 hj
  have h1 := hg j (by omega)
  show max ((intL (oneL W)).getD j 0).toNat 1 = oneF W j
  rw [h1, Int.toNat_natCast]
  unfold oneF
  omega

section
variable {N : Nat} (R : LenDone N)
include R

set_option maxHeartbeats 1600000 in
set_option maxRecDepth 100000 in
theorem best_out (hN : 10 ≤ N) (w : World) (A B : Option Addr) (n c m d : Nat) (L : List Int) (hn : n ≤ maxLen) (hL : ZIn w B m L) (hmd : m ≤ d) (hm : m ≤ maxLen) (h : 258 < n ∨ n ≠ m ∨ ¬ LenOk L) : Calls Try.prog 9 #[.slice A n c, .slice B m d] w fun e w' => e = .returned (.bool true) ∧ Below w.heap.size w w' := by
  have HAW := Lib.hid (awake_any R hN)
  have HC := Lib.hid (R.check w B m d L hL hmd hm)
  unfold maxLen at hn hm
  clear hL
  by_cases h1 : 258 < n
  · have d1 : decide ((258 : Int) < (n : Int)) = true := decide_eq_true (by omega)
    clear h
    go_enter Try.func9, Try.ntmps9
    go_wp2_with fail
    refine (HAW.out _).mono ?_
    rintro e w10 ⟨rfl, hb10⟩
    have HB10 := Lib.hid hb10
    clear hb10
    go_wp2_with fail
    go_ret
    exact ⟨rfl, HB10.out⟩
  · have d1 : decide ((258 : Int) < (n : Int)) = false := decide_eq_false (by omega)
    by_cases h2 : n ≠ m
    · have d2 : ((n : Int) != (m : Int)) = true := by simp; omega
      clear h
      go_enter Try.func9, Try.ntmps9
      go_wp2_with fail
      refine (HAW.out _).mono ?_
      rintro e w10 ⟨rfl, hb10⟩
      have HB10 := Lib.hid hb10
      clear hb10
      go_wp2_with fail
      go_ret
      exact ⟨rfl, HB10.out⟩
    · have hnm : n = m := Decidable.of_not_not h2
      subst hnm
      have h3 : ¬ LenOk L := (h.resolve_left h1).resolve_left h2
      rw [if_neg h3] at HC
      have d2 : ((n : Int) != (n : Int)) = false := by simp
      clear h h2 h3
      go_enter Try.func9, Try.ntmps9
      go_wp2_with fail
      refine HC.out.mono ?_
      rintro e w1 ⟨rfl, hb1⟩
      have HB1 := Lib.hid hb1
      clear hb1
      go_wp2_with fail
      refine (HAW.out _).mono ?_
      rintro e w10 ⟨rfl, hb10⟩
      have HB10 := Lib.hid (HB1.out.trans (hb10.mono HB1.out.size))
      clear hb10
      go_wp2_with fail
      go_ret
      exact ⟨rfl, HB10.out⟩

set_option maxHeartbeats 3200000 in
set_option maxRecDepth 100000 in
theorem best_good (hN : 258 ≤ N) (w : World) (A B : Option Addr) (n c d : Nat) (W L : List Int) (hW : ZIn w A n W) (hL : ZIn w B n L) (hnd : n ≤ d) (hn : n ≤ 258) (hok : LenOk L) : Calls Try.prog 9 #[.slice A n c, .slice B n d] w fun e w' => e = .returned (.bool true) ∧ Below w.heap.size w w' := by
  have HAW := Lib.hid (awake_any R (by omega))
  have HC := Lib.hid (R.check w B n d L hL hnd (by unfold maxLen; omega))
  rw [if_pos hok] at HC
  have hwn := hW.1
  have hln := hL.1
  have hn2 : 2 ≤ n := by have := hok.1; omega
  have HW := Lib.hid hW
  have HL := Lib.hid hL
  have HOK := Lib.hid hok
  have HWN := Lib.hid hwn
  have HLN := Lib.hid hln
  have d1 : decide ((258 : Int) < (n : Int)) = false := decide_eq_false (by omega)
  have d2 : ((n : Int) != (n : Int)) = false := by simp
  clear hW hL hok hwn hln
  go_enter Try.func9, Try.ntmps9
  go_wp2_with fail
  refine HC.out.mono ?_
  rintro e w1 ⟨rfl, hb1⟩
  have HB1 := Lib.hid hb1
  have hz1 := hb1.size
  have hw1 := HW.out.below hb1
  have HL1 := Lib.hid (HL.out.below hb1)
  have hown0 : (w1.alloc (.cells #[] 3)).ownsRow w1.heap.size 3 1 (.slice (some ⟨w1.heap.size, 0, none⟩) 0 0) 0 [] := World.ownsRow_made w1 #[] 0 (Nat.le_refl _) (Nat.zero_le _) rfl
  have hb0 : Below w1.heap.size w1 (w1.alloc (.cells #[] 3)) := (Below.refl _ w1).alloc (Nat.le_refl _) _
  obtain ⟨v3, w3, hr3, ho3, hg3⟩ := append_zs (w1.alloc (.cells #[] 3)) w1.heap.size _ [] 0 hown0 A n c W (hw1.below hb0) (by omega) (by simp)
  have hb3 : Below w1.heap.size w1 w3 := hb0.grown hg3 (by simp) (fun k hk => (hown0.lt k hk).1)
  obtain ⟨A3, c3, rfl, hc3, _, hA3⟩ := own_slice ho3
  obtain ⟨g, rfl⟩ := hA3 (by omega)
  rw [Nat.zero_add] at ho3 hr3 hc3
  have hi3 : IRow w3 w1.heap.size g c3 n (fun j => W.getD j 0) := by
    have := ho3
    rw [List.nil_append, rowI_list W n HWN.out] at this
    exact this
  have HI3 := Lib.hid hi3
  have HR3 := Lib.hid hr3
  have HB3 := Lib.hid hb3
  clear hb1 hw1 hown0 hb0 hr3 ho3 hg3 hb3 hA3 hi3 HC HW
  go_wp2_with (at_builtin; refine Lib.wpList_append_run _ rfl (.tmp 30) (.tmp 31) 22 22 rfl (.slice (some ⟨w1.heap.size, 0, none⟩) 0 0) (.slice A n c) rfl rfl _ w3 HR3.out ?_)
  go_loopw [6, 7] (fun sv x wx => ∃ (i s : Nat), i ≤ n ∧ x = .int .i64 i ∧ sv = .int .i64 s ∧ s ≤ i * 610 ∧ Hid (s = ((List.range i).map (oneF W)).sum) ∧ IRow wx w1.heap.size g c3 n (fun j => if j < i then ((oneF W j : Nat) : Int) else W.getD j 0) ∧ Hid (∀ j, j < i → 0 ≤ W.getD j 0 ∧ W.getD j 0 < 610) ∧ Below w1.heap.size w1 wx) (fun _ x _ => n - (intOf x).toNat)
  case atStart =>
    refine ⟨0, 0, Nat.zero_le _, rfl, rfl, Nat.zero_le _, rfl, ?_, fun j hj => by omega, HB3.out⟩
    have e0 : (fun j => if j < 0 then ((oneF W j : Nat) : Int) else W.getD j 0) = fun j => W.getD j 0 := by
      funext j
      rw [if_neg (by omega)]
    rw [e0]
    exact HI3.out
  case round =>
    obtain ⟨i, s, hi, rfl, rfl, hsb, hs, hf, hall, hb⟩ := hrel
    by_cases e : i < n
    · have di : decide ((i : Int) < (n : Int)) = true := decide_eq_true (by omega)
      have hiI : (0 : Int) ≤ (i : Int) := by omega
      have ci := hf.cell i e
      have fi := hf.frozen i
      rw [if_neg (by omega)] at ci
      have hg := hf.lt
      obtain ⟨x, hx⟩ : ∃ x, x = W.getD i 0 := ⟨_, rfl⟩
      rw [← hx] at ci
      have HBW := Lib.hid (HB1.out.trans (hb.mono hz1))
      have hzw : w.heap.size ≤ wr.heap.size := HBW.out.size
      by_cases e1 : x < 0
      · have d3 : decide (x < 0) = true := decide_eq_true e1
        clear hs hf hall hb hx
        go_wp2_with fail
        refine (HAW.out _).mono ?_
        rintro e w10 ⟨rfl, hb10⟩
        have HB10 := Lib.hid (HBW.out.trans (hb10.mono hzw))
        clear hb10
        go_wp2_with fail
        go_ret
        exact ⟨rfl, HB10.out⟩
      · by_cases e2 : 610 ≤ x
        · have d3 : decide (x < 0) = false := decide_eq_false e1
          have d4 : decide ((610 : Int) ≤ x) = true := decide_eq_true e2
          clear hs hf hall hb hx
          go_wp2_with fail
          refine (HAW.out _).mono ?_
          rintro e w10 ⟨rfl, hb10⟩
          have HB10 := Lib.hid (HBW.out.trans (hb10.mono hzw))
          clear hb10
          go_wp2_with fail
          go_ret
          exact ⟨rfl, HB10.out⟩
        · obtain ⟨y, rfl⟩ : ∃ y : Nat, x = y := ⟨x.toNat, by omega⟩
          have d3 : decide ((y : Int) < 0) = false := decide_eq_false e1
          have d4 : decide ((610 : Int) ≤ (y : Int)) = false := decide_eq_false e2
          have hy610 : y < 610 := by omega
          have hny : ¬ 610 ≤ y := by omega
          have hall2 : ∀ j, j < i + 1 → 0 ≤ W.getD j 0 ∧ W.getD j 0 < 610 := by
            intro j hj
            by_cases ej : j = i
            · rw [ej, ← hx]
              omega
            · exact hall.out j (by omega)
          have hone : oneF W i = max y 1 := by
            unfold oneF
            rw [← hx, Int.toNat_natCast]
          have hsum : ((List.range (i + 1)).map (oneF W)).sum = s + max y 1 := by
            rw [List.range_succ, List.map_append, List.sum_append, ← hs.out, List.map_singleton, List.sum_singleton, hone]
          have hfn : ∀ m1 : Nat, m1 = max y 1 → (fun j => if j = i then ((m1 : Nat) : Int) else if j < i then ((oneF W j : Nat) : Int) else W.getD j 0) = fun j => if j < i + 1 then ((oneF W j : Nat) : Int) else W.getD j 0 := by
            intro m1 hm
            funext j
            by_cases ej : j = i
            · rw [if_pos ej, if_pos (by omega), ej, hone, hm]
            · rw [if_neg ej]
              by_cases ej2 : j < i
              · rw [if_pos ej2, if_pos (by omega)]
              · rw [if_neg ej2, if_neg (by omega)]
          have HALL2 := Lib.hid hall2
          have HSUM := Lib.hid hsum
          have HFN := Lib.hid hfn
          have HF := Lib.hid hf
          have HB := Lib.hid hb
          have hgb := hg.1
          have hs610 : s ≤ 258 * 610 := Nat.le_trans hsb (Nat.mul_le_mul_right _ (by omega))
          clear hs hf hall hb hx hall2 hone hsum hfn hg HBW e1 e2
          by_cases h0 : y = 0
          · subst h0
            have hset := HF.out.set i ((1 : Nat) : Int)
            rw [HFN.out 1 rfl] at hset
            have c2 := hset.cell i e
            rw [if_pos (by omega)] at c2
            have hone : oneF W i = 1 := by
              have h5 := congrFun (HFN.out 1 rfl) i
              simp only [if_pos (Nat.lt_succ_self i), ite_true] at h5
              omega
            rw [hone] at c2
            have HS := Lib.hid hset
            have HBS := Lib.hid (HB.out.setCell (p := ⟨g, i, none⟩) hgb (.int .i64 ((1 : Nat) : Int)))
            have hs2 : s + 1 ≤ (i + 1) * 610 := by rw [Nat.add_mul]; omega
            have HSM : Hid (s + 1 = ((List.range (i + 1)).map (oneF W)).sum) := Lib.hid (by rw [HSUM.out]; rfl)
            clear hset hone HSUM HFN HF HB
            go_wp2_with fail
            go_roundw
            case rel => exact ⟨i + 1, s + 1, by omega, by go_num, by go_num, hs2, HSM, HS.out, HALL2, HBS.out⟩
            case measure => simp [intOf]; omega
          · have hm1 : y = max y 1 := by omega
            have hset := HF.out.set i ((y : Nat) : Int)
            rw [HFN.out y hm1] at hset
            have c2 := hset.cell i e
            rw [if_pos (by omega)] at c2
            have hone : oneF W i = y := by
              have h5 := congrFun (HFN.out y hm1) i
              simp only [if_pos (Nat.lt_succ_self i), ite_true] at h5
              omega
            rw [hone] at c2
            have HS := Lib.hid hset
            have HBS := Lib.hid (HB.out.setCell (p := ⟨g, i, none⟩) hgb (.int .i64 ((y : Nat) : Int)))
            have hs2 : s + y ≤ (i + 1) * 610 := by rw [Nat.add_mul]; omega
            have HSM : Hid (s + y = ((List.range (i + 1)).map (oneF W)).sum) := Lib.hid (by rw [HSUM.out, ← hm1])
            have dx : decide ((y : Int) < 1) = false := decide_eq_false (by omega)
            have hx1 : ¬ ((y : Int) < 1) := by omega
            obtain ⟨s2, hs3⟩ : ∃ s2, s2 = s + y := ⟨_, rfl⟩
            rw [← hs3] at hs2 HSM
            have hsz : (s : Int) + (y : Int) = (s2 : Int) := by omega
            clear hset hone HSUM HFN HF HB hm1 hs3
            go_wp2_with fail
            go_roundw
            case rel => exact ⟨i + 1, s2, by omega, by go_num, by go_num, hs2, HSM, HS.out, HALL2, HBS.out⟩
            case measure => simp [intOf]; omega
    · obtain rfl : i = n := by omega
      have di : decide ((i : Int) < (i : Int)) = false := decide_eq_false (by omega)
      have HBW := Lib.hid (HB1.out.trans (hb.mono hz1))
      have hzw : w.heap.size ≤ wr.heap.size := HBW.out.size
      by_cases e1 : 610 ≤ s
      · have d3 : decide ((610 : Int) ≤ (s : Int)) = true := decide_eq_true (by omega)
        clear hs hf hall hb
        go_wp2_with fail
        refine (HAW.out _).mono ?_
        rintro e w10 ⟨rfl, hb10⟩
        have HB10 := Lib.hid (HBW.out.trans (hb10.mono hzw))
        clear hb10
        go_wp2_with fail
        go_ret
        exact ⟨rfl, HB10.out⟩
      · have d3 : decide ((610 : Int) ≤ (s : Int)) = false := decide_eq_false (by omega)
        obtain ⟨ho1, ho2, ho3⟩ := oneL_int W i HWN.out
        have hzI : ZIn wr (some ⟨g, 0, none⟩) i (intL (oneL W)) := hf.zs _ ho1 fun j hj => by rw [if_pos hj, ho2 j hj]
        have hlen : (oneL W).length = i := by unfold oneL; simp [HWN.out]
        have hsum : (oneL W).sum < 610 := by
          have e5 : (oneL W).sum = s := by rw [hs.out]; unfold oneL; rw [HWN.out]
          omega
        have hpos : ∀ x ∈ oneL W, 1 ≤ x := by
          intro x hx
          obtain ⟨j, hj, rfl⟩ := List.mem_map.1 hx
          unfold oneF
          omega
        have hsmall : ∀ x ∈ oneL W, x < 610 := by
          intro x hx
          obtain ⟨j, hj, rfl⟩ := List.mem_map.1 hx
          have hj := List.mem_range.1 hj
          rw [HWN.out] at hj
          have := hall.out j hj
          unfold oneF
          omega
        have hmay : MayW (intL (oneL W)) := by
          refine ⟨by omega, by omega, fun x hx => ?_⟩
          obtain ⟨y, hy, rfl⟩ := List.mem_map.1 hx
          have := hsmall y hy
          omega
        have HMK := Lib.hid (R.make wr (some ⟨g, 0, none⟩) i c3 (intL (oneL W)) 12 hzI hc3 (by omega) (by unfold maxLen; omega) (by omega) (by omega))
        obtain ⟨V, hV⟩ : ∃ V, V = oneL W := ⟨_, rfl⟩
        rw [← hV] at ho1 ho3 hzI hlen hsum hpos hmay HMK
        have HZI := Lib.hid hzI
        have HLW := Lib.hid (HL1.out.below hb)
        have HMAY := Lib.hid hmay
        have HO3 := Lib.hid ho3
        have HO1 := Lib.hid ho1
        have HPOS := Lib.hid hpos
        have HVL := Lib.hid hlen
        have HVS := Lib.hid hsum
        clear hs hf hall hb ho1 ho2 ho3 hzI hlen hsum hpos hsmall hmay hV HL1 HB1 HB3 HI3 HR3 hz1
        go_wp2_with fail
        refine HMK.out.mono ?_
        intro e w4 h
        obtain ⟨a, k, A4, c4, hans, hal, rfl, hac, hi4, hb4⟩ := make_slice h
        rcases hans with ⟨hbad, _⟩ | ⟨_, _, _, rfl, len, hmk, ha⟩
        · exfalso
          rcases hbad with h9 | h9 | h9
          · exact h9 HMAY.out
          · omega
          · omega
        · rw [HO3.out, show (12 : Int).toNat = 12 from rfl] at hmk
          rw [HO1.out] at ha
          have hbest := best_le HPOS.out HVS.out hmk L (by rw [HLN.out, HVL.out]) HOK.out
          rw [HVL.out] at hbest
          rw [← ha] at hbest
          have hap : a.length = i := by rw [ha]; simp
          rw [hap] at hi4 hac ⊢
          have hca : costAns (intL V) (intL a) = (costN (intL V) (intL a) i, 0) := by
            unfold costAns
            have hla : (intL a).length = i := by unfold intL; rw [List.length_map]; exact hap
            rw [if_pos ⟨HMAY.out, by rw [hla, HO1.out], fun x hx => by
              obtain ⟨y, hy, rfl⟩ := List.mem_map.1 hx
              rw [ha] at hy
              obtain ⟨j, hj, rfl⟩ := List.mem_map.1 hy
              have := hbest.1 j (List.mem_range.1 hj)
              omega⟩, hla]
          have hcb : costAns (intL V) L = (costN (intL V) L i, 0) := by
            unfold costAns
            rw [if_pos ⟨HMAY.out, by rw [HLN.out, HO1.out], fun x hx => by
              have := HOK.out.2.2.1 x hx
              omega⟩, HLN.out]
          have HC1 := Lib.hid (R.cost w4 (some ⟨g, 0, none⟩) A4 i c3 i c4 (intL V) (intL a) (HZI.out.below hb4) hc3 (by unfold maxLen; omega) (zin_of hi4) hac (by unfold maxLen; omega))
          rw [hca] at HC1
          have HC2 := Lib.hid fun (w6 : World) (h6 : ZIn w6 (some ⟨g, 0, none⟩) i (intL V)) (h7 : ZIn w6 B i L) => R.cost w6 (some ⟨g, 0, none⟩) B i c3 i d (intL V) L h6 hc3 (by unfold maxLen; omega) h7 hnd (by unfold maxLen; omega)
          rw [hcb] at HC2
          have hle := hbest.2
          obtain ⟨p, hp⟩ : ∃ p, p = costN (intL V) (intL a) i := ⟨_, rfl⟩
          obtain ⟨q, hq⟩ : ∃ q, q = costN (intL V) L i := ⟨_, rfl⟩
          rw [← hp] at HC1 hle
          rw [← hq] at HC2 hle
          have dpq : decide ((p : Int) ≤ (q : Int)) = true := decide_eq_true (by omega)
          have HZ4 := Lib.hid (HZI.out.below hb4)
          have HL4 := Lib.hid (HLW.out.below hb4)
          have HB4 := Lib.hid (HBW.out.trans (hb4.mono hzw))
          clear h hal hi4 hb4 hmk ha hbest hap hca hcb hp hq
          go_wp2_with fail
          refine HC1.out.mono ?_
          rintro e w5 ⟨rfl, hb5⟩
          dsimp only
          have HC2' := Lib.hid (HC2.out w5 (HZ4.out.below hb5) (HL4.out.below hb5))
          have HB5 := Lib.hid (HB4.out.trans (hb5.mono HB4.out.size))
          clear hb5 HC2
          go_wp2_with fail
          refine HC2'.out.mono ?_
          rintro e w6 ⟨rfl, hb6⟩
          dsimp only
          have HB6 := Lib.hid (HB5.out.trans (hb6.mono HB5.out.size))
          clear hb6
          go_wp2_with fail
          refine (HAW.out _).mono ?_
          rintro e w10 ⟨rfl, hb10⟩
          have HB10 := Lib.hid (HB6.out.trans (hb10.mono HB6.out.size))
          clear hb10
          go_wp2_with fail
          go_ret
          exact ⟨rfl, HB10.out⟩

theorem best_walk (hN : 258 ≤ N) (w : World) (A B : Option Addr) (n c m d : Nat) (W L : List Int) (hW : ZIn w A n W) (hn : n ≤ maxLen) (hL : ZIn w B m L) (hmd : m ≤ d) (hm : m ≤ maxLen) : Calls Try.prog 9 #[.slice A n c, .slice B m d] w fun e w' => e = .returned (.bool true) ∧ Below w.heap.size w w' := by
  by_cases h : 258 < n ∨ n ≠ m ∨ ¬ LenOk L
  · exact best_out R (by omega) w A B n c m d L hn hL hmd hm h
  · have h2 : n = m := Decidable.of_not_not fun k => h (.inr (.inl k))
    have h3 : LenOk L := Decidable.of_not_not fun k => h (.inr (.inr k))
    subst h2
    exact best_good R hN w A B n c d W L hW hL hmd (by omega) h3
end

end Go.Proofs.Ythpfmkknebnppaa
