/- The laws of paths: Twice, Order, walked over what is asked of the code. Written ahead of stage 14. -/
import Derived.Test.YtlnopdlpdnengaaPtf
namespace Go.Proofs.Ytlnopdlpdnengaa
open Go.RowKit

set_option maxRecDepth 100000 in
theorem join_len : ∀ K : List (List UInt8), K ≠ [] → (joinS K).length + 1 = (K.map List.length).sum + K.length
  | [], h => absurd rfl h
  | p :: l, _ => by
    by_cases hl : l = []
    · subst hl
      simp [joinS]
    · have ih := join_len l hl
      rw [joinS_more p l hl, List.length_append, List.length_cons, List.map_cons, List.sum_cons, List.length_cons]
      omega
set_option maxRecDepth 100000 in
theorem wide_len : ∀ K : List (List UInt8), (wideF K).length = (K.map List.length).sum + 4 * K.length
  | [] => rfl
  | p :: l => by
    have ih := wide_len l
    have e : wideF (p :: l) = (46 :: 47 :: (p ++ [47, 47])) ++ wideF l := by simp [wideF]
    rw [e, List.length_append, ih, List.map_cons, List.sum_cons, List.length_cons]
    simp only [List.length_cons, List.length_append, List.length_nil]
    omega
set_option maxRecDepth 100000 in
theorem join_take (K : List (List UInt8)) (q : Nat) (h : q < K.length) : joinS (K.take (q + 1)) = if q = 0 then K.getD q [] else joinS (K.take q) ++ 47 :: K.getD q [] := by
  have e : K.take (q + 1) = K.take q ++ [K.getD q []] := by
    rw [List.take_succ_eq_append_getElem h, List.getD_eq_getElem?_getD, List.getElem?_eq_getElem h]
    rfl
  by_cases h0 : q = 0
  · subst h0
    rw [if_pos rfl, e]
    simp [joinS]
  · rw [if_neg h0, e, joinS_app _ _ (by
      intro e2
      have := congrArg List.length e2
      rw [List.length_take, List.length_nil] at this
      omega) (by simp)]
    simp [joinS]
set_option maxRecDepth 100000 in
theorem wide_take (K : List (List UInt8)) (q : Nat) (h : q < K.length) : wideF (K.take (q + 1)) = wideF (K.take q) ++ (46 :: 47 :: (K.getD q [] ++ [47, 47])) := by
  have e : K.take (q + 1) = K.take q ++ [K.getD q []] := by
    rw [List.take_succ_eq_append_getElem h, List.getD_eq_getElem?_getD, List.getElem?_eq_getElem h]
    rfl
  rw [e]
  simp [wideF]

section
variable (R : PathsDone)
include R
set_option maxHeartbeats 3200000 in
set_option maxRecDepth 100000 in
theorem twice_law (w : World) (s : ByteArray) (hs : s.size ≤ 9223372036854775807) : Calls Try.prog 7 #[.string s] w fun e w' => e = .returned (.bool true) ∧ Below w.heap.size w w' := by
  have HAW := Lib.hid (awake_paths R)
  by_cases hbig : 1000 < s.size
  · have d0 : decide ((1000 : Int) < (s.size : Int)) = true := decide_eq_true (by omega)
    clear R
    go_enter Try.func7, Try.ntmps7
    go_wp2_with fail
    refine (HAW.out _).mono ?_
    rintro e w7 ⟨rfl, hb7⟩
    have HB7 := Lib.hid hb7
    clear hb7
    go_wp2_with fail
    go_ret
    exact ⟨rfl, HB7.out⟩
  have d0 : decide ((1000 : Int) < (s.size : Int)) = false := decide_eq_false (by omega)
  have HC := R.clean w s (by omega)
  rcases clean_err s.data.toList with hk | hk
  · obtain ⟨X, hX⟩ : ∃ X, cleanL s.data.toList = (X, 0) := ⟨(cleanL s.data.toList).1, by rw [← hk]⟩
    rw [hX] at HC
    obtain ⟨hp1, hp2, hp3, hp4, hp5⟩ := clean_parts hX
    have htw := clean_twice hX
    have hwd := clean_wide hX
    have hck := check_clean hX
    have hpb := parts_back X
    obtain ⟨K, hK⟩ : ∃ K, K = partsL X := ⟨_, rfl⟩
    rw [← hK] at hp4 hwd hpb
    have hKl : K.length ≤ 121 := by
      rw [hK]
      have := partsF_len X []
      unfold partsL
      omega
    have hKm : ∀ q ∈ K, q.length ≤ 120 := fun q hq => by
      rw [hK] at hq
      have := partsF_mem X [] q hq
      rw [List.length_nil] at this
      omega
    have hwl : (47 :: wideF K).length ≤ 3000 := by
      have h1 := join_len K hp4
      have h2 := wide_len K
      rw [hpb] at h1
      rw [List.length_cons]
      omega
    have HCA : Hid (Calls Try.prog 10 #[.string s] w fun e w' => e = .returned (.tuple #[.string (strP X), .int .i64 0]) ∧ Below w.heap.size w w') := Lib.hid HC
    have HCB : Hid (∀ wx : World, Calls Try.prog 10 #[.string (strP X)] wx fun e w' => e = .returned (.tuple #[.string (strP X), .int .i64 0]) ∧ Below wx.heap.size wx w') := Lib.hid fun wx => by
      have h := R.clean wx (strP X) (by rw [strP_size]; omega)
      rw [strP_list, htw] at h
      exact h
    have HPT : Hid (∀ wx : World, Calls Try.prog 15 #[.string (strP X)] wx (TextsPost wx K)) := Lib.hid fun wx => by
      have h := R.parts wx (strP X) (by rw [strP_size]; omega)
      rw [strP_list, ← hK] at h
      exact h
    have HCW : Hid (∀ wx : World, Calls Try.prog 10 #[.string (strP (47 :: wideF K))] wx fun e w' => e = .returned (.tuple #[.string (strP X), .int .i64 0]) ∧ Below wx.heap.size wx w') := Lib.hid fun wx => by
      have h := R.clean wx (strP (47 :: wideF K)) (by rw [strP_size]; exact hwl)
      rw [strP_list, hwd] at h
      exact h
    have HCK : Hid (∀ wx : World, Calls Try.prog 12 #[.string (strP X)] wx fun e w' => e = .returned (.int .i64 0) ∧ Below wx.heap.size wx w') := Lib.hid fun wx => by
      have h := R.check wx (strP X) (by rw [strP_size]; omega)
      rw [strP_list, hck] at h
      exact h
    have HPB := Lib.hid hpb
    have HKM := Lib.hid hKm
    have HKL := Lib.hid hKl
    have hXs : (strP X).size ≤ 120 := hp2
    clear R HC hk hX hp1 hp2 hp3 hp4 hp5 htw hwd hck hpb hK hKm hwl hKl
    go_enter Try.func7, Try.ntmps7
    go_wp2_with fail
    refine HCA.out.mono ?_
    rintro e w1 ⟨rfl, hb1⟩
    have HB1 := Lib.hid hb1
    clear hb1
    go_wp2_with fail
    refine (HCB.out w1).mono ?_
    rintro e w2 ⟨rfl, hb2⟩
    have HB2 := Lib.hid (HB1.out.trans (hb2.mono HB1.out.size))
    clear hb2
    go_wp2_with fail
    refine (HPT.out w2).mono ?_
    rintro e w3 ⟨A, n, c, rfl, hnc, hcm, hsl, hb3⟩
    have HB3 := Lib.hid (HB2.out.trans (hb3.mono HB2.out.size))
    have HSL := Lib.hid hsl
    have HLN := Lib.hid hsl.1
    have hn : n ≤ 121 := by rw [← hsl.1]; exact HKL.out
    unfold maxLen at hcm
    clear hb3 hsl
    go_wp2_with fail
    go_loopw [8, 9, 10] (fun sj sw si wx => ∃ (J W : List UInt8) (q : Nat), sj = .string (strP J) ∧ sw = .string (strP W) ∧ si = .int .i64 q ∧ q ≤ n ∧ J.length ≤ 125 * q ∧ W.length ≤ 1 + 125 * q ∧ wx = w3 ∧ Hid (J = joinS (K.take q) ∧ W = 47 :: wideF (K.take q))) (fun _ _ si _ => n - (intOf si).toNat)
    case atStart => exact ⟨[], [47], 0, rfl, rfl, rfl, Nat.zero_le _, Nat.le_refl _, Nat.le_refl _, rfl, Lib.hid ⟨rfl, rfl⟩⟩
    case round =>
      obtain ⟨J, W, q, rfl, rfl, rfl, hq, hJl, hWl, rfl, hJ⟩ := hrel
      have hJs : (strP J).size ≤ 16000 := by rw [strP_size]; omega
      have hWs : (strP W).size ≤ 16000 := by rw [strP_size]; omega
      by_cases e : q < n
      · have dq : decide ((q : Int) < (n : Int)) = true := decide_eq_true (by omega)
        have hqK : q < K.length := by rw [HLN.out]; exact e
        obtain ⟨b, off, rfl, hc⟩ := HSL.out.2 (by omega)
        have c0 := hc q e
        have hjt := join_take K q hqK
        have hwt := wide_take K q hqK
        have hPm := HKM.out _ (list_mem K q hqK)
        rw [← hJ.out.1] at hjt
        generalize hP : K.getD q [] = P at *
        unfold sv at c0
        have hPs : (strP P).size ≤ 120 := by rw [strP_size]; exact hPm
        have hw2 : 47 :: wideF (K.take (q + 1)) = W ++ (46 :: 47 :: (P ++ [47, 47])) := by rw [hwt, hJ.out.2]; rfl
        have hwide : strP W ++ ((⟨#[46, 47]⟩ : ByteArray) ++ strP P ++ (⟨#[47, 47]⟩ : ByteArray)) = strP (W ++ (46 :: 47 :: (P ++ [47, 47]))) := by
          rw [show (⟨#[46, 47]⟩ : ByteArray) = strP [46, 47] from rfl, show (⟨#[47, 47]⟩ : ByteArray) = strP [47, 47] from rfl, strP_app, strP_app, strP_app]
          congr 1
        have hm1 : ((⟨#[46, 47]⟩ : ByteArray) ++ strP P).size ≤ 122 := by
          rw [ByteArray.size_append]
          show 2 + _ ≤ 122
          omega
        have hm2 : ((⟨#[46, 47]⟩ : ByteArray) ++ strP P ++ (⟨#[47, 47]⟩ : ByteArray)).size ≤ 124 := by
          rw [ByteArray.size_append]
          show _ + 2 ≤ 124
          omega
        have HWD := Lib.hid hwide
        have HPM := Lib.hid hPm
        have HW2 := Lib.hid hw2.symm
        have hWn : (W ++ (46 :: 47 :: (P ++ [47, 47]))).length ≤ 1 + 125 * (q + 1) := by
          simp only [List.length_append, List.length_cons, List.length_nil]
          omega
        have HWN := Lib.hid hWn
        clear hc hJ hwt hw2 hP hwide hPm hWn
        by_cases e0 : q = 0
        · have d1 : decide ((0 : Int) < (q : Int)) = false := decide_eq_false (by omega)
          have d1n : ¬ 0 < q := by omega
          rw [if_pos e0] at hjt
          have HJT := Lib.hid hjt.symm
          have HJ0 := Lib.hid (show J = [] from List.eq_nil_of_length_eq_zero (by omega))
          clear hjt e0
          go_wp2_with fail
          go_roundw
          case rel => exact ⟨P, W ++ (46 :: 47 :: (P ++ [47, 47])), q + 1, by rw [HJ0.out, strP_app, List.nil_append], by rw [← HWD.out], by go_num, by omega, by have := HPM.out; omega, HWN.out, by first | rfl | trivial, Lib.hid ⟨HJT.out, HW2.out⟩⟩
          case measure => simp [intOf]; omega
        · have d1 : decide ((0 : Int) < (q : Int)) = true := decide_eq_true (by omega)
          have d1n : 0 < q := by omega
          rw [if_neg e0] at hjt
          have HJT := Lib.hid hjt.symm
          have hm3 : (strP J ++ (⟨#[47]⟩ : ByteArray)).size ≤ 16001 := by
            rw [ByteArray.size_append]
            show _ + 1 ≤ 16001
            omega
          clear hjt e0
          go_wp2_with fail
          go_roundw
          case rel => exact ⟨J ++ 47 :: P, W ++ (46 :: 47 :: (P ++ [47, 47])), q + 1, by rw [show (⟨#[47]⟩ : ByteArray) = strP [47] from rfl, strP_app, strP_app]; simp, by rw [← HWD.out], by go_num, by omega, by rw [List.length_append, List.length_cons]; have := HPM.out; omega, HWN.out, by first | rfl | trivial, Lib.hid ⟨HJT.out, HW2.out⟩⟩
          case measure => simp [intOf]; omega
      · obtain rfl : q = n := by omega
        have dq : decide ((q : Int) < (q : Int)) = false := decide_eq_false (by omega)
        have ht : K.take q = K := List.take_of_length_le (by rw [HLN.out]; exact Nat.le_refl _)
        have h1 := hJ.out.1
        have h2 := hJ.out.2
        rw [ht, HPB.out] at h1
        rw [ht] at h2
        subst h1
        subst h2
        have HCW2 := Lib.hid (HCW.out wr)
        generalize strP (47 :: wideF K) = WS at *
        generalize strP J = T at *
        clear hJ ht
        go_wp2_with fail
        refine HCW2.out.mono ?_
        rintro e w4 ⟨rfl, hb4⟩
        have HB4 := Lib.hid (HB3.out.trans (hb4.mono HB3.out.size))
        clear hb4
        go_wp2_with fail
        refine (HCK.out w4).mono ?_
        rintro e w5 ⟨rfl, hb5⟩
        have HB5 := Lib.hid (HB4.out.trans (hb5.mono HB4.out.size))
        clear hb5
        go_wp2_with fail
        refine (HAW.out _).mono ?_
        rintro e w6 ⟨rfl, hb6⟩
        have HB6 := Lib.hid (HB5.out.trans (hb6.mono HB5.out.size))
        clear hb6
        go_wp2_with fail
        go_ret
        exact ⟨rfl, HB6.out⟩
  · rw [hk] at HC
    have HCA : Hid (Calls Try.prog 10 #[.string s] w fun e w' => e = .returned (.tuple #[.string ⟨#[]⟩, .int .i64 140]) ∧ Below w.heap.size w w') := Lib.hid HC
    clear R HC hk
    go_enter Try.func7, Try.ntmps7
    go_wp2_with fail
    refine HCA.out.mono ?_
    rintro e w1 ⟨rfl, hb1⟩
    have HB1 := Lib.hid hb1
    clear hb1
    go_wp2_with fail
    refine (HAW.out _).mono ?_
    rintro e w6 ⟨rfl, hb6⟩
    have HB6 := Lib.hid (HB1.out.trans (hb6.mono HB1.out.size))
    clear hb6
    go_wp2_with fail
    go_ret
    exact ⟨rfl, HB6.out⟩

set_option maxHeartbeats 3200000 in
set_option maxRecDepth 100000 in
theorem order_big (w : World) (a b c : ByteArray) (ha : a.size ≤ 140737488355328) (hb : b.size ≤ 140737488355328) (hc : c.size ≤ 140737488355328) (hbig : 3000 < a.size + b.size + c.size) : Calls Try.prog 8 #[.string a, .string b, .string c] w fun e w' => e = .returned (.bool true) ∧ Below w.heap.size w w' := by
  have HAW := Lib.hid (awake_paths R)
  have d0 : decide ((3000 : Int) < (a.size : Int) + (b.size : Int) + (c.size : Int)) = true := decide_eq_true (by omega)
  clear R
  go_enter Try.func8, Try.ntmps8
  go_wp2_with fail
  refine (HAW.out _).mono ?_
  rintro e w7 ⟨rfl, hb7⟩
  have HB7 := Lib.hid hb7
  clear hb7
  go_wp2_with fail
  go_ret
  exact ⟨rfl, HB7.out⟩
set_option maxHeartbeats 6400000 in
set_option maxRecDepth 100000 in
theorem order_law (w : World) (a b c : ByteArray) (hs : a.size + b.size + c.size ≤ 3000) : Calls Try.prog 8 #[.string a, .string b, .string c] w fun e w' => e = .returned (.bool true) ∧ Below w.heap.size w w' := by
  have HAW := Lib.hid (awake_paths R)
  have d0 : decide ((3000 : Int) < (a.size : Int) + (b.size : Int) + (c.size : Int)) = false := decide_eq_false (by omega)
  have HX := Lib.hid (R.cmp w a b (by omega) (by omega))
  have HY := Lib.hid fun wx => R.cmp wx b c (by omega) (by omega)
  have HZ := Lib.hid fun wx => R.cmp wx a c (by omega) (by omega)
  have HV := Lib.hid fun wx => R.cmp wx b a (by omega) (by omega)
  have HU := Lib.hid fun wx => R.under wx a b (by omega) (by omega)
  have HUC := Lib.hid fun wx => R.under wx a c (by omega) (by omega)
  have hx3 := cmp_three a.data.toList b.data.toList
  have hv := cmp_turn a.data.toList b.data.toList
  have hz0 := @cmp_zero a.data.toList b.data.toList
  have hzc := @cmp_zero a.data.toList c.data.toList
  have htr := @cmp_trans a.data.toList b.data.toList c.data.toList
  have hun := @cmp_under a.data.toList b.data.toList
  have hbe := @cmp_behind a.data.toList b.data.toList c.data.toList
  have hab := same_text a b
  have hca := same_text c a
  generalize cmpL a.data.toList b.data.toList = x at *
  generalize cmpL b.data.toList c.data.toList = y at *
  generalize cmpL a.data.toList c.data.toList = z at *
  generalize cmpL b.data.toList a.data.toList = v at *
  generalize underL a.data.toList b.data.toList = ub at *
  generalize underL a.data.toList c.data.toList = uc at *
  obtain ⟨t, ht⟩ : ∃ t : Bool, t = decide (x = 0) := ⟨_, rfl⟩
  have t1 : (x == 0) = t := by rw [ht]; exact Bool.beq_eq_decide_eq x 0
  have t2 : (a.toList == b.toList) = t := by
    rw [hab, ht]
    exact decide_eq_decide.2 hz0.symm
  have t3 : (t != t) = false := bne_self_eq_false _
  have hvb : -1 ≤ v ∧ v ≤ 1 := by omega
  have hnv : -v = x := by omega
  have hxx : (x != x) = false := bne_self_eq_false _
  have hvb1 := hvb.1
  have hvb2 := hvb.2
  have hca2 : z < 0 → (c.toList == a.toList) = false := fun h => by
    rw [hca]
    refine decide_eq_false fun e => ?_
    have := hzc.2 e.symm
    omega
  clear R hab hca hz0 hzc ht hv hvb
  by_cases g1 : x ≤ 0
  · have f1 : decide (x ≤ 0) = true := decide_eq_true g1
    by_cases g2 : y ≤ 0
    · have f2 : decide (y ≤ 0) = true := decide_eq_true g2
      have g3 := htr g1 g2
      have f3 : decide (0 < z) = false := decide_eq_false (by omega)
      clear g1 g2 g3
      cases ub with
      | false =>
        clear hun hbe hca2 htr hx3
        go_enter Try.func8, Try.ntmps8
        go_wp2_with fail
        refine HX.out.mono ?_
        rintro e w1 ⟨rfl, hb1⟩
        have HB1 := Lib.hid hb1
        clear hb1
        go_wp2_with fail
        refine (HY.out w1).mono ?_
        rintro e w2 ⟨rfl, hb2⟩
        have HB2 := Lib.hid (HB1.out.trans (hb2.mono HB1.out.size))
        clear hb2
        go_wp2_with fail
        refine (HZ.out w2).mono ?_
        rintro e w3 ⟨rfl, hb3⟩
        have HB3 := Lib.hid (HB2.out.trans (hb3.mono HB2.out.size))
        clear hb3
        go_wp2_with fail
        refine (HV.out w3).mono ?_
        rintro e w4 ⟨rfl, hb4⟩
        have HB4 := Lib.hid (HB3.out.trans (hb4.mono HB3.out.size))
        clear hb4
        go_wp2_with fail
        refine (HU.out w4).mono ?_
        rintro e w5 ⟨rfl, hb5⟩
        have HB5 := Lib.hid (HB4.out.trans (hb5.mono HB4.out.size))
        clear hb5
        go_wp2_with fail
        refine (HAW.out _).mono ?_
        rintro e w6 ⟨rfl, hb6⟩
        have HB6 := Lib.hid (HB5.out.trans (hb6.mono HB5.out.size))
        clear hb6
        go_wp2_with fail
        go_ret
        exact ⟨rfl, HB6.out⟩
      | true =>
        have hx1 : x = -1 := hun rfl
        have u1 : (x != -1) = false := by rw [bne_eq_false_iff_eq]; exact hx1
        cases uc with
        | true =>
          clear hun hbe hca2 htr hx3 hx1
          go_enter Try.func8, Try.ntmps8
          go_wp2_with fail
          refine HX.out.mono ?_
          rintro e w1 ⟨rfl, hb1⟩
          have HB1 := Lib.hid hb1
          clear hb1
          go_wp2_with fail
          refine (HY.out w1).mono ?_
          rintro e w2 ⟨rfl, hb2⟩
          have HB2 := Lib.hid (HB1.out.trans (hb2.mono HB1.out.size))
          clear hb2
          go_wp2_with fail
          refine (HZ.out w2).mono ?_
          rintro e w3 ⟨rfl, hb3⟩
          have HB3 := Lib.hid (HB2.out.trans (hb3.mono HB2.out.size))
          clear hb3
          go_wp2_with fail
          refine (HV.out w3).mono ?_
          rintro e w4 ⟨rfl, hb4⟩
          have HB4 := Lib.hid (HB3.out.trans (hb4.mono HB3.out.size))
          clear hb4
          go_wp2_with fail
          refine (HU.out w4).mono ?_
          rintro e w5 ⟨rfl, hb5⟩
          have HB5 := Lib.hid (HB4.out.trans (hb5.mono HB4.out.size))
          clear hb5
          go_wp2_with fail
          refine (HUC.out w5).mono ?_
          rintro e w6 ⟨rfl, hb6⟩
          have HB6 := Lib.hid (HB5.out.trans (hb6.mono HB5.out.size))
          clear hb6
          go_wp2_with fail
          refine (HAW.out _).mono ?_
          rintro e w7 ⟨rfl, hb7⟩
          have HB7 := Lib.hid (HB6.out.trans (hb7.mono HB6.out.size))
          clear hb7
          go_wp2_with fail
          go_ret
          exact ⟨rfl, HB7.out⟩
        | false =>
          by_cases hz : z < 0
          · have z1 : decide (z < 0) = true := decide_eq_true hz
            have c1 := hca2 hz
            have c2 : (c.toList != a.toList) = true := by rw [bne, c1]; rfl
            have hy1 : y = -1 := hbe rfl rfl hz
            have y1 : (y != -1) = false := by rw [bne_eq_false_iff_eq]; exact hy1
            clear hun hbe hca2 htr hx3 hx1 hz hy1
            go_enter Try.func8, Try.ntmps8
            go_wp2_with fail
            refine HX.out.mono ?_
            rintro e w1 ⟨rfl, hb1⟩
            have HB1 := Lib.hid hb1
            clear hb1
            go_wp2_with fail
            refine (HY.out w1).mono ?_
            rintro e w2 ⟨rfl, hb2⟩
            have HB2 := Lib.hid (HB1.out.trans (hb2.mono HB1.out.size))
            clear hb2
            go_wp2_with fail
            refine (HZ.out w2).mono ?_
            rintro e w3 ⟨rfl, hb3⟩
            have HB3 := Lib.hid (HB2.out.trans (hb3.mono HB2.out.size))
            clear hb3
            go_wp2_with fail
            refine (HV.out w3).mono ?_
            rintro e w4 ⟨rfl, hb4⟩
            have HB4 := Lib.hid (HB3.out.trans (hb4.mono HB3.out.size))
            clear hb4
            go_wp2_with fail
            refine (HU.out w4).mono ?_
            rintro e w5 ⟨rfl, hb5⟩
            have HB5 := Lib.hid (HB4.out.trans (hb5.mono HB4.out.size))
            clear hb5
            go_wp2_with fail
            refine (HUC.out w5).mono ?_
            rintro e w6 ⟨rfl, hb6⟩
            have HB6 := Lib.hid (HB5.out.trans (hb6.mono HB5.out.size))
            clear hb6
            go_wp2_with fail
            refine (HAW.out _).mono ?_
            rintro e w7 ⟨rfl, hb7⟩
            have HB7 := Lib.hid (HB6.out.trans (hb7.mono HB6.out.size))
            clear hb7
            go_wp2_with fail
            go_ret
            exact ⟨rfl, HB7.out⟩
          · have z1 : decide (z < 0) = false := decide_eq_false hz
            clear hun hbe hca2 htr hx3 hx1 hz
            go_enter Try.func8, Try.ntmps8
            go_wp2_with fail
            refine HX.out.mono ?_
            rintro e w1 ⟨rfl, hb1⟩
            have HB1 := Lib.hid hb1
            clear hb1
            go_wp2_with fail
            refine (HY.out w1).mono ?_
            rintro e w2 ⟨rfl, hb2⟩
            have HB2 := Lib.hid (HB1.out.trans (hb2.mono HB1.out.size))
            clear hb2
            go_wp2_with fail
            refine (HZ.out w2).mono ?_
            rintro e w3 ⟨rfl, hb3⟩
            have HB3 := Lib.hid (HB2.out.trans (hb3.mono HB2.out.size))
            clear hb3
            go_wp2_with fail
            refine (HV.out w3).mono ?_
            rintro e w4 ⟨rfl, hb4⟩
            have HB4 := Lib.hid (HB3.out.trans (hb4.mono HB3.out.size))
            clear hb4
            go_wp2_with fail
            refine (HU.out w4).mono ?_
            rintro e w5 ⟨rfl, hb5⟩
            have HB5 := Lib.hid (HB4.out.trans (hb5.mono HB4.out.size))
            clear hb5
            go_wp2_with fail
            refine (HUC.out w5).mono ?_
            rintro e w6 ⟨rfl, hb6⟩
            have HB6 := Lib.hid (HB5.out.trans (hb6.mono HB5.out.size))
            clear hb6
            go_wp2_with fail
            refine (HAW.out _).mono ?_
            rintro e w7 ⟨rfl, hb7⟩
            have HB7 := Lib.hid (HB6.out.trans (hb7.mono HB6.out.size))
            clear hb7
            go_wp2_with fail
            go_ret
            exact ⟨rfl, HB7.out⟩
    · have f2 : decide (y ≤ 0) = false := decide_eq_false g2
      clear g1 g2
      cases ub with
      | false =>
        clear hun hbe hca2 htr hx3
        go_enter Try.func8, Try.ntmps8
        go_wp2_with fail
        refine HX.out.mono ?_
        rintro e w1 ⟨rfl, hb1⟩
        have HB1 := Lib.hid hb1
        clear hb1
        go_wp2_with fail
        refine (HY.out w1).mono ?_
        rintro e w2 ⟨rfl, hb2⟩
        have HB2 := Lib.hid (HB1.out.trans (hb2.mono HB1.out.size))
        clear hb2
        go_wp2_with fail
        refine (HZ.out w2).mono ?_
        rintro e w3 ⟨rfl, hb3⟩
        have HB3 := Lib.hid (HB2.out.trans (hb3.mono HB2.out.size))
        clear hb3
        go_wp2_with fail
        refine (HV.out w3).mono ?_
        rintro e w4 ⟨rfl, hb4⟩
        have HB4 := Lib.hid (HB3.out.trans (hb4.mono HB3.out.size))
        clear hb4
        go_wp2_with fail
        refine (HU.out w4).mono ?_
        rintro e w5 ⟨rfl, hb5⟩
        have HB5 := Lib.hid (HB4.out.trans (hb5.mono HB4.out.size))
        clear hb5
        go_wp2_with fail
        refine (HAW.out _).mono ?_
        rintro e w6 ⟨rfl, hb6⟩
        have HB6 := Lib.hid (HB5.out.trans (hb6.mono HB5.out.size))
        clear hb6
        go_wp2_with fail
        go_ret
        exact ⟨rfl, HB6.out⟩
      | true =>
        have hx1 : x = -1 := hun rfl
        have u1 : (x != -1) = false := by rw [bne_eq_false_iff_eq]; exact hx1
        cases uc with
        | true =>
          clear hun hbe hca2 htr hx3 hx1
          go_enter Try.func8, Try.ntmps8
          go_wp2_with fail
          refine HX.out.mono ?_
          rintro e w1 ⟨rfl, hb1⟩
          have HB1 := Lib.hid hb1
          clear hb1
          go_wp2_with fail
          refine (HY.out w1).mono ?_
          rintro e w2 ⟨rfl, hb2⟩
          have HB2 := Lib.hid (HB1.out.trans (hb2.mono HB1.out.size))
          clear hb2
          go_wp2_with fail
          refine (HZ.out w2).mono ?_
          rintro e w3 ⟨rfl, hb3⟩
          have HB3 := Lib.hid (HB2.out.trans (hb3.mono HB2.out.size))
          clear hb3
          go_wp2_with fail
          refine (HV.out w3).mono ?_
          rintro e w4 ⟨rfl, hb4⟩
          have HB4 := Lib.hid (HB3.out.trans (hb4.mono HB3.out.size))
          clear hb4
          go_wp2_with fail
          refine (HU.out w4).mono ?_
          rintro e w5 ⟨rfl, hb5⟩
          have HB5 := Lib.hid (HB4.out.trans (hb5.mono HB4.out.size))
          clear hb5
          go_wp2_with fail
          refine (HUC.out w5).mono ?_
          rintro e w6 ⟨rfl, hb6⟩
          have HB6 := Lib.hid (HB5.out.trans (hb6.mono HB5.out.size))
          clear hb6
          go_wp2_with fail
          refine (HAW.out _).mono ?_
          rintro e w7 ⟨rfl, hb7⟩
          have HB7 := Lib.hid (HB6.out.trans (hb7.mono HB6.out.size))
          clear hb7
          go_wp2_with fail
          go_ret
          exact ⟨rfl, HB7.out⟩
        | false =>
          by_cases hz : z < 0
          · have z1 : decide (z < 0) = true := decide_eq_true hz
            have c1 := hca2 hz
            have c2 : (c.toList != a.toList) = true := by rw [bne, c1]; rfl
            have hy1 : y = -1 := hbe rfl rfl hz
            have y1 : (y != -1) = false := by rw [bne_eq_false_iff_eq]; exact hy1
            clear hun hbe hca2 htr hx3 hx1 hz hy1
            go_enter Try.func8, Try.ntmps8
            go_wp2_with fail
            refine HX.out.mono ?_
            rintro e w1 ⟨rfl, hb1⟩
            have HB1 := Lib.hid hb1
            clear hb1
            go_wp2_with fail
            refine (HY.out w1).mono ?_
            rintro e w2 ⟨rfl, hb2⟩
            have HB2 := Lib.hid (HB1.out.trans (hb2.mono HB1.out.size))
            clear hb2
            go_wp2_with fail
            refine (HZ.out w2).mono ?_
            rintro e w3 ⟨rfl, hb3⟩
            have HB3 := Lib.hid (HB2.out.trans (hb3.mono HB2.out.size))
            clear hb3
            go_wp2_with fail
            refine (HV.out w3).mono ?_
            rintro e w4 ⟨rfl, hb4⟩
            have HB4 := Lib.hid (HB3.out.trans (hb4.mono HB3.out.size))
            clear hb4
            go_wp2_with fail
            refine (HU.out w4).mono ?_
            rintro e w5 ⟨rfl, hb5⟩
            have HB5 := Lib.hid (HB4.out.trans (hb5.mono HB4.out.size))
            clear hb5
            go_wp2_with fail
            refine (HUC.out w5).mono ?_
            rintro e w6 ⟨rfl, hb6⟩
            have HB6 := Lib.hid (HB5.out.trans (hb6.mono HB5.out.size))
            clear hb6
            go_wp2_with fail
            refine (HAW.out _).mono ?_
            rintro e w7 ⟨rfl, hb7⟩
            have HB7 := Lib.hid (HB6.out.trans (hb7.mono HB6.out.size))
            clear hb7
            go_wp2_with fail
            go_ret
            exact ⟨rfl, HB7.out⟩
          · have z1 : decide (z < 0) = false := decide_eq_false hz
            clear hun hbe hca2 htr hx3 hx1 hz
            go_enter Try.func8, Try.ntmps8
            go_wp2_with fail
            refine HX.out.mono ?_
            rintro e w1 ⟨rfl, hb1⟩
            have HB1 := Lib.hid hb1
            clear hb1
            go_wp2_with fail
            refine (HY.out w1).mono ?_
            rintro e w2 ⟨rfl, hb2⟩
            have HB2 := Lib.hid (HB1.out.trans (hb2.mono HB1.out.size))
            clear hb2
            go_wp2_with fail
            refine (HZ.out w2).mono ?_
            rintro e w3 ⟨rfl, hb3⟩
            have HB3 := Lib.hid (HB2.out.trans (hb3.mono HB2.out.size))
            clear hb3
            go_wp2_with fail
            refine (HV.out w3).mono ?_
            rintro e w4 ⟨rfl, hb4⟩
            have HB4 := Lib.hid (HB3.out.trans (hb4.mono HB3.out.size))
            clear hb4
            go_wp2_with fail
            refine (HU.out w4).mono ?_
            rintro e w5 ⟨rfl, hb5⟩
            have HB5 := Lib.hid (HB4.out.trans (hb5.mono HB4.out.size))
            clear hb5
            go_wp2_with fail
            refine (HUC.out w5).mono ?_
            rintro e w6 ⟨rfl, hb6⟩
            have HB6 := Lib.hid (HB5.out.trans (hb6.mono HB5.out.size))
            clear hb6
            go_wp2_with fail
            refine (HAW.out _).mono ?_
            rintro e w7 ⟨rfl, hb7⟩
            have HB7 := Lib.hid (HB6.out.trans (hb7.mono HB6.out.size))
            clear hb7
            go_wp2_with fail
            go_ret
            exact ⟨rfl, HB7.out⟩
  · have f1 : decide (x ≤ 0) = false := decide_eq_false g1
    clear g1
    cases ub with
    | false =>
      clear hun hbe hca2 htr hx3
      go_enter Try.func8, Try.ntmps8
      go_wp2_with fail
      refine HX.out.mono ?_
      rintro e w1 ⟨rfl, hb1⟩
      have HB1 := Lib.hid hb1
      clear hb1
      go_wp2_with fail
      refine (HY.out w1).mono ?_
      rintro e w2 ⟨rfl, hb2⟩
      have HB2 := Lib.hid (HB1.out.trans (hb2.mono HB1.out.size))
      clear hb2
      go_wp2_with fail
      refine (HZ.out w2).mono ?_
      rintro e w3 ⟨rfl, hb3⟩
      have HB3 := Lib.hid (HB2.out.trans (hb3.mono HB2.out.size))
      clear hb3
      go_wp2_with fail
      refine (HV.out w3).mono ?_
      rintro e w4 ⟨rfl, hb4⟩
      have HB4 := Lib.hid (HB3.out.trans (hb4.mono HB3.out.size))
      clear hb4
      go_wp2_with fail
      refine (HU.out w4).mono ?_
      rintro e w5 ⟨rfl, hb5⟩
      have HB5 := Lib.hid (HB4.out.trans (hb5.mono HB4.out.size))
      clear hb5
      go_wp2_with fail
      refine (HAW.out _).mono ?_
      rintro e w6 ⟨rfl, hb6⟩
      have HB6 := Lib.hid (HB5.out.trans (hb6.mono HB5.out.size))
      clear hb6
      go_wp2_with fail
      go_ret
      exact ⟨rfl, HB6.out⟩
    | true =>
      have hx1 : x = -1 := hun rfl
      have u1 : (x != -1) = false := by rw [bne_eq_false_iff_eq]; exact hx1
      cases uc with
      | true =>
        clear hun hbe hca2 htr hx3 hx1
        go_enter Try.func8, Try.ntmps8
        go_wp2_with fail
        refine HX.out.mono ?_
        rintro e w1 ⟨rfl, hb1⟩
        have HB1 := Lib.hid hb1
        clear hb1
        go_wp2_with fail
        refine (HY.out w1).mono ?_
        rintro e w2 ⟨rfl, hb2⟩
        have HB2 := Lib.hid (HB1.out.trans (hb2.mono HB1.out.size))
        clear hb2
        go_wp2_with fail
        refine (HZ.out w2).mono ?_
        rintro e w3 ⟨rfl, hb3⟩
        have HB3 := Lib.hid (HB2.out.trans (hb3.mono HB2.out.size))
        clear hb3
        go_wp2_with fail
        refine (HV.out w3).mono ?_
        rintro e w4 ⟨rfl, hb4⟩
        have HB4 := Lib.hid (HB3.out.trans (hb4.mono HB3.out.size))
        clear hb4
        go_wp2_with fail
        refine (HU.out w4).mono ?_
        rintro e w5 ⟨rfl, hb5⟩
        have HB5 := Lib.hid (HB4.out.trans (hb5.mono HB4.out.size))
        clear hb5
        go_wp2_with fail
        refine (HUC.out w5).mono ?_
        rintro e w6 ⟨rfl, hb6⟩
        have HB6 := Lib.hid (HB5.out.trans (hb6.mono HB5.out.size))
        clear hb6
        go_wp2_with fail
        refine (HAW.out _).mono ?_
        rintro e w7 ⟨rfl, hb7⟩
        have HB7 := Lib.hid (HB6.out.trans (hb7.mono HB6.out.size))
        clear hb7
        go_wp2_with fail
        go_ret
        exact ⟨rfl, HB7.out⟩
      | false =>
        by_cases hz : z < 0
        · have z1 : decide (z < 0) = true := decide_eq_true hz
          have c1 := hca2 hz
          have c2 : (c.toList != a.toList) = true := by rw [bne, c1]; rfl
          have hy1 : y = -1 := hbe rfl rfl hz
          have y1 : (y != -1) = false := by rw [bne_eq_false_iff_eq]; exact hy1
          clear hun hbe hca2 htr hx3 hx1 hz hy1
          go_enter Try.func8, Try.ntmps8
          go_wp2_with fail
          refine HX.out.mono ?_
          rintro e w1 ⟨rfl, hb1⟩
          have HB1 := Lib.hid hb1
          clear hb1
          go_wp2_with fail
          refine (HY.out w1).mono ?_
          rintro e w2 ⟨rfl, hb2⟩
          have HB2 := Lib.hid (HB1.out.trans (hb2.mono HB1.out.size))
          clear hb2
          go_wp2_with fail
          refine (HZ.out w2).mono ?_
          rintro e w3 ⟨rfl, hb3⟩
          have HB3 := Lib.hid (HB2.out.trans (hb3.mono HB2.out.size))
          clear hb3
          go_wp2_with fail
          refine (HV.out w3).mono ?_
          rintro e w4 ⟨rfl, hb4⟩
          have HB4 := Lib.hid (HB3.out.trans (hb4.mono HB3.out.size))
          clear hb4
          go_wp2_with fail
          refine (HU.out w4).mono ?_
          rintro e w5 ⟨rfl, hb5⟩
          have HB5 := Lib.hid (HB4.out.trans (hb5.mono HB4.out.size))
          clear hb5
          go_wp2_with fail
          refine (HUC.out w5).mono ?_
          rintro e w6 ⟨rfl, hb6⟩
          have HB6 := Lib.hid (HB5.out.trans (hb6.mono HB5.out.size))
          clear hb6
          go_wp2_with fail
          refine (HAW.out _).mono ?_
          rintro e w7 ⟨rfl, hb7⟩
          have HB7 := Lib.hid (HB6.out.trans (hb7.mono HB6.out.size))
          clear hb7
          go_wp2_with fail
          go_ret
          exact ⟨rfl, HB7.out⟩
        · have z1 : decide (z < 0) = false := decide_eq_false hz
          clear hun hbe hca2 htr hx3 hx1 hz
          go_enter Try.func8, Try.ntmps8
          go_wp2_with fail
          refine HX.out.mono ?_
          rintro e w1 ⟨rfl, hb1⟩
          have HB1 := Lib.hid hb1
          clear hb1
          go_wp2_with fail
          refine (HY.out w1).mono ?_
          rintro e w2 ⟨rfl, hb2⟩
          have HB2 := Lib.hid (HB1.out.trans (hb2.mono HB1.out.size))
          clear hb2
          go_wp2_with fail
          refine (HZ.out w2).mono ?_
          rintro e w3 ⟨rfl, hb3⟩
          have HB3 := Lib.hid (HB2.out.trans (hb3.mono HB2.out.size))
          clear hb3
          go_wp2_with fail
          refine (HV.out w3).mono ?_
          rintro e w4 ⟨rfl, hb4⟩
          have HB4 := Lib.hid (HB3.out.trans (hb4.mono HB3.out.size))
          clear hb4
          go_wp2_with fail
          refine (HU.out w4).mono ?_
          rintro e w5 ⟨rfl, hb5⟩
          have HB5 := Lib.hid (HB4.out.trans (hb5.mono HB4.out.size))
          clear hb5
          go_wp2_with fail
          refine (HUC.out w5).mono ?_
          rintro e w6 ⟨rfl, hb6⟩
          have HB6 := Lib.hid (HB5.out.trans (hb6.mono HB5.out.size))
          clear hb6
          go_wp2_with fail
          refine (HAW.out _).mono ?_
          rintro e w7 ⟨rfl, hb7⟩
          have HB7 := Lib.hid (HB6.out.trans (hb7.mono HB6.out.size))
          clear hb7
          go_wp2_with fail
          go_ret
          exact ⟨rfl, HB7.out⟩
end
end Go.Proofs.Ytlnopdlpdnengaa
