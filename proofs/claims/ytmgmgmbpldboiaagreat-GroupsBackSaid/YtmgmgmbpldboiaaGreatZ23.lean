/- Mk: texts laid together, what is not used left out. -/
import Derived.Test.YtmgmgmbpldboiaaGreatZ22
namespace Go.Proofs.YtmgmgmbpldboiaaGreat
open Go.RowKit

/-- A symbol that is kept: one that may be, and is not the end. -/
def keepB (m : Int) (x : Int) : Bool := decide (0 ≤ x) && decide (x < m - 1)
/-- What the law tells: the symbols that may be, and the end. -/
def ownL (L : List Int) (m : Int) : List Int := L.filter (keepB m) ++ [m - 1]
theorem keep_next (L : List Int) (m : Int) (q : Nat) (h : q < L.length) : (L.take (q + 1)).filter (keepB m) = (L.take q).filter (keepB m) ++ if keepB m (L.getD q 0) then [L.getD q 0] else [] := by
  rw [take_snoc_int L q h, List.filter_append]
  congr 1
  by_cases e : keepB m (L.getD q 0) = true
  · rw [if_pos e, List.filter_cons_of_pos e]
    rfl
  · rw [if_neg e, List.filter_cons_of_neg e]
    rfl
theorem keep_le (L : List Int) (m : Int) : (L.filter (keepB m)).length ≤ L.length := List.length_filter_le _ _
set_option maxRecDepth 100000 in
theorem own_may {L : List Int} {m : Int} (h3 : 3 ≤ m) (h258 : m ≤ 258) (hL : L.length ≤ 3000) : MayG (ownL L m) m := by
  have hk := keep_le L m
  have hl : (ownL L m).length = (L.filter (keepB m)).length + 1 := by
    unfold ownL
    rw [List.length_append]
    rfl
  refine ⟨h3, h258, by omega, by omega, fun x hx => ?_⟩
  unfold ownL at hx
  rcases List.mem_append.1 hx with h | h
  · have h2 := (List.mem_filter.1 h).2
    unfold keepB at h2
    simp only [Bool.and_eq_true, decide_eq_true_eq] at h2
    exact ⟨h2.1, by omega⟩
  · rw [List.mem_singleton.1 h]
    exact ⟨by omega, by omega⟩
set_option maxRecDepth 100000 in
theorem own_ends {L : List Int} {m : Int} : EndsAt (ownL L m) m := by
  intro j hj
  have hl : (ownL L m).length = (L.filter (keepB m)).length + 1 := by
    unfold ownL
    rw [List.length_append]
    rfl
  rw [hl] at hj ⊢
  by_cases e : j < (L.filter (keepB m)).length
  · have hg : (ownL L m).getD j 0 = (L.filter (keepB m)).getD j 0 := by
      unfold ownL
      rw [List.getD_eq_getElem?_getD, List.getElem?_append_left e, List.getD_eq_getElem?_getD]
    have hmem : (L.filter (keepB m)).getD j 0 ∈ L.filter (keepB m) := int_mem e
    have h2 := (List.mem_filter.1 hmem).2
    rw [hg]
    generalize (L.filter (keepB m)).getD j 0 = x at *
    unfold keepB at h2
    simp only [Bool.and_eq_true, decide_eq_true_eq] at h2
    have h3 := h2.2
    constructor
    · intro h4
      omega
    · intro h4
      omega
  · have e2 : j = (L.filter (keepB m)).length := by omega
    have hg : (ownL L m).getD j 0 = m - 1 := by
      unfold ownL
      rw [e2, List.getD_eq_getElem?_getD, List.getElem?_append_right (Nat.le_refl _), Nat.sub_self]
      rfl
    rw [hg]
    constructor
    · intro _
      omega
    · intro _
      omega
theorem codes_len {T : List (List Int)} {P L : List Int} {m : Int} (h : GoodPlan T P L m) (hM : MayG L m) : (codesG T P L).1.length ≤ 20 * L.length := by
  rw [good_codes h hM]
  exact codesQ_short (T.map nl) (nl P) (nl L) (fun t ht x hx => by
    obtain ⟨t2, ht2, rfl⟩ := List.mem_map.1 ht
    exact (nl_in (lenOk_dOk (h.2.2 t2 ht2).2.1) x hx).2) L.length
theorem text_size (s : ByteArray) (bl : List Nat) (X : ByteArray) (hX : X = ⟨(pack bl).toArray⟩) : (s ++ X).size = s.size + (bl.length + 7) / 8 := by
  rw [ByteArray.size_append, hX]
  show s.size + (pack bl).toArray.size = _
  rw [List.size_toArray, pack_length]

section
variable (R : GroupsDone)
include R
set_option maxHeartbeats 6400000 in
set_option maxRecDepth 100000 in
theorem back_law (w : World) (A : Option Addr) (n c : Nat) (L : List Int) (m : Int) (s : ByteArray) (hL : ZIn w A n L) (hnc : n ≤ c) (hn : n ≤ maxLen) (hs : s.size ≤ maxLen) (h1 : -9223372036854775808 ≤ m) (h2 : m ≤ 9223372036854775807) : Calls Tryz.prog 7 #[.slice A n c, .int .i64 m, .string s] w fun e w' => e = .returned (.bool true) ∧ Below w.heap.size w w' := by
  have HAW := Lib.hid (awake_any R)
  unfold maxLen at hn hs
  by_cases g1 : 3000 < n
  · have d0 : decide ((3000 : Int) < (n : Int)) = true := decide_eq_true (by omega)
    clear hL R
    go_enter Tryz.func7, Tryz.ntmps7
    go_wp2_with fail
    refine (HAW.out _).mono ?_
    rintro e w7 ⟨rfl, hb7⟩
    have HB7 := Lib.hid hb7
    clear hb7
    go_wp2_with fail
    go_ret
    exact ⟨rfl, HB7.out⟩
  · have d0 : decide ((3000 : Int) < (n : Int)) = false := decide_eq_false (by omega)
    by_cases g2 : 1000 < s.size
    · have d1 : decide ((1000 : Int) < (s.size : Int)) = true := decide_eq_true (by omega)
      clear hL R
      go_enter Tryz.func7, Tryz.ntmps7
      go_wp2_with fail
      refine (HAW.out _).mono ?_
      rintro e w7 ⟨rfl, hb7⟩
      have HB7 := Lib.hid hb7
      clear hb7
      go_wp2_with fail
      go_ret
      exact ⟨rfl, HB7.out⟩
    · have d1 : decide ((1000 : Int) < (s.size : Int)) = false := decide_eq_false (by omega)
      by_cases g3 : m < 3
      · have d2 : decide (m < 3) = true := decide_eq_true g3
        clear hL R
        go_enter Tryz.func7, Tryz.ntmps7
        go_wp2_with fail
        refine (HAW.out _).mono ?_
        rintro e w7 ⟨rfl, hb7⟩
        have HB7 := Lib.hid hb7
        clear hb7
        go_wp2_with fail
        go_ret
        exact ⟨rfl, HB7.out⟩
      · have d2 : decide (m < 3) = false := decide_eq_false g3
        by_cases g4 : 258 < m
        · have d3 : decide (258 < m) = true := decide_eq_true g4
          clear hL R
          go_enter Tryz.func7, Tryz.ntmps7
          go_wp2_with fail
          refine (HAW.out _).mono ?_
          rintro e w7 ⟨rfl, hb7⟩
          have HB7 := Lib.hid hb7
          clear hb7
          go_wp2_with fail
          go_ret
          exact ⟨rfl, HB7.out⟩
        · have d3 : decide (258 < m) = false := decide_eq_false g4
          have HLN := Lib.hid hL.1
          have hM := own_may (L := L) (m := m) (by omega) (by omega) (by rw [hL.1]; omega)
          have hbg := best_good w hM
          have hlen : (ownL L m).length = (L.filter (keepB m)).length + 1 := by
            unfold ownL
            rw [List.length_append]
            rfl
          have hkle := keep_le L m
          rw [hL.1] at hkle
          have HM := Lib.hid hM
          obtain ⟨F, hF⟩ : ∃ F, F = ownL L m := ⟨_, rfl⟩
          rw [← hF] at HM hbg hlen
          have HE : Hid (EndsAt F m) := Lib.hid (by rw [hF]; exact own_ends)
          have hFl : F.length ≤ 3001 := by omega
          have HBE := Lib.hid fun (wx : World) (A' : Option Addr) (c' : Nat) (h : ZIn wx A' F.length F) (hc : F.length ≤ c') => R.best wx A' F.length c' F m h hc hFl h1 h2
          have hlb := light_good hbg.1 HM.out hFl
          have hcb := good_codes hbg.1 HM.out
          have hbb := bits_good hbg.1
          have hb0 := hbg.2.1
          have hcl := codes_len hbg.1 HM.out
          have hsh := bitsG_short (bestAns F m).1 (bestAns F m).2.1
          have HG := Lib.hid hbg.1
          generalize bestAns F m = ba at *
          obtain ⟨T, P, kb⟩ := ba
          dsimp only at hlb hcb hbb hb0 hcl hsh
          subst hb0
          have HSH := Lib.hid fun (wx : World) (v : Value) (h : PlanIn wx v T P) => R.shows wx v T P h hlb
          have HPU := Lib.hid fun (wx : World) (v : Value) (A' : Option Addr) (c' : Nat) (h : PlanIn wx v T P) (k : ZIn wx A' F.length F) (hc : F.length ≤ c') => R.puts wx v T P A' F.length c' F h hlb k hc hFl
          obtain ⟨X, hX⟩ : ∃ X, X = (⟨(pack (bitsG T P).1).toArray⟩ : ByteArray) := ⟨_, rfl⟩
          obtain ⟨Y, hY⟩ : ∃ Y, Y = (⟨(pack (codesG T P F).1).toArray⟩ : ByteArray) := ⟨_, rfl⟩
          have hsX := text_size s _ X hX
          have hsY := text_size s _ Y hY
          obtain ⟨x1, hx1⟩ : ∃ x1, x1 = (bitsG T P).1.length := ⟨_, rfl⟩
          obtain ⟨x2, hx2⟩ : ∃ x2, x2 = (codesG T P F).1.length := ⟨_, rfl⟩
          have hx3 : (bitsG T P).2 = 0 := by rw [hbb]
          have hx4 : (codesG T P F).2 = 0 := by rw [hcb]
          have hBl : (bitsB s.data.toList).length = 8 * s.size := bitsB_length _
          have htk : takeG (bitsB (s ++ X).data.toList) ((8 * s.size : Nat) : Int) m = (T, P, 8 * s.size + x1, 0) := by
            obtain ⟨Z, hZ, _⟩ := bits_join s X _ (bitsG_bits T P) hX
            have h := takes_back HG.out HM.out (bitsB s.data.toList) Z
            rw [hBl] at h
            rw [hZ, hx1, hbb]
            exact h
          have hge : getG T P (bitsB (s ++ Y).data.toList) ((8 * s.size : Nat) : Int) = (nl F, 8 * s.size + x2, 0) := by
            obtain ⟨Z, hZ, h01⟩ := bits_join s Y _ (codesG_bits T P F) hY
            have h := gets_back HG.out HM.out HE.out (bitsB s.data.toList) Z h01
            rw [hBl] at h
            rw [hZ, hx2, hcb]
            exact h
          obtain ⟨z8, hz8⟩ : ∃ z8, z8 = 8 * s.size := ⟨_, rfl⟩
          have hz8I : (8 : Int) * (s.size : Int) = (z8 : Int) := by omega
          rw [← hz8] at htk hge
          rw [← hx1] at hsX hsh
          rw [← hx2] at hsY hcl
          obtain ⟨y1, hy1⟩ : ∃ y1, y1 = z8 + x1 := ⟨_, rfl⟩
          obtain ⟨y2, hy2⟩ : ∃ y2, y2 = z8 + x2 := ⟨_, rfl⟩
          have hy1I : (z8 : Int) + (x1 : Int) = (y1 : Int) := by omega
          have hy2I : (z8 : Int) + (x2 : Int) = (y2 : Int) := by omega
          have hy1b : y1 ≤ 1000000 := by omega
          have hy2b : y2 ≤ 1000000 := by omega
          rw [← hy1] at htk
          rw [← hy2] at hge
          have HTA := Lib.hid fun (wx : World) => R.takes wx (s ++ X) z8 m (by omega) (by omega) (by omega) h1 h2
          have HGE := Lib.hid fun (wx : World) (v : Value) (h : PlanIn wx v T P) => R.gets wx v T P (s ++ Y) z8 h hlb (by omega) (by omega) (by omega)
          rw [htk] at HTA
          rw [hge] at HGE
          have hXs : X.size ≤ 40000 := by
            have h := hsX
            rw [ByteArray.size_append] at h
            omega
          have hYs : Y.size ≤ 40000 := by
            have h := hsY
            rw [ByteArray.size_append] at h
            omega
          have HX1 := Lib.hid hx1
          have HX2 := Lib.hid hx2
          have HX3 := Lib.hid hx3
          have HX4 := Lib.hid hx4
          have HX := Lib.hid hX
          have HY := Lib.hid hY
          have HF := Lib.hid hF
          have HNN : Hid (zL (nl F) = F) := Lib.hid (zL_nl fun x hx => (HM.out.2.2.2.2 x hx).1)
          have hz8b : z8 ≤ 8000 := by omega
          have hx1b : x1 ≤ 300000 := hsh
          have hx2b : x2 ≤ 60020 := by omega
          have HL0 := Lib.hid hL
          obtain ⟨i3, h3, hz0, hz1, hz2⟩ := info_parts Tryz.info3
          obtain ⟨m1, hm1⟩ : ∃ m1, m1 = m - 1 := ⟨_, rfl⟩
          have hm1I : m - 1 = m1 := hm1.symm
          have hwm : IntKind.i64.wrap m1 = m1 := by rw [IntKind.wrap_i64]; omega
          have HM1 := Lib.hid hm1
          have HLE := Lib.hid hlen
          have HKLE := Lib.hid hkle
          clear hL hM hbg hlb hcb hbb hcl hsh hX hY hsX hsY hx1 hx2 hx3 hx4 htk hge hBl hF hlen hkle hz8 hm1 hy1 hy2 R
          go_enter Tryz.func7, Tryz.ntmps7
          go_wp2_with fail
          clear d0 d1 d2 d3
          go_loopw [7, 8] (fun ov iv' wx => ∃ (q : Nat) (o : List Int), q ≤ n ∧ iv' = .int .i64 q ∧ o.length ≤ q ∧ Hid (o = (L.take q).filter (keepB m)) ∧ wx.ownsRow w.heap.size 3 1 ov o.length (o.map zv) ∧ Below w.heap.size w wx) (fun _ iv' _ => n - (intOf iv').toNat)
          case atStart => exact ⟨0, [], Nat.zero_le _, rfl, Nat.zero_le _, Lib.hid rfl, World.ownsRow_nil _ _ _ _, Below.refl _ _⟩
          case round =>
            obtain ⟨q, o, hq, rfl, hol, ho, hrow, hb⟩ := hrel
            obtain ⟨A8, c8, rfl, _, _, _⟩ := own_slice hrow
            obtain ⟨N, hN⟩ : ∃ N, N = o.length := ⟨_, rfl⟩
            rw [← hN] at hrow hol ⊢
            have HROW := Lib.hid hrow
            have HB := Lib.hid hb
            have HN := Lib.hid hN
            have hz9 := hb.size
            obtain ⟨X8, hX8⟩ : ∃ X8, X8 = o.map zv := ⟨_, rfl⟩
            rw [← hX8] at HROW
            have HX8 := Lib.hid hX8
            by_cases e : q < n
            · have dq : decide ((q : Int) < (n : Int)) = true := decide_eq_true (by omega)
              have hqI : (q : Int) < (n : Int) := by omega
              obtain ⟨b, off, rfl, hc⟩ := (HL0.out.below hb).2 (by omega)
              have hcx := hc q e
              have hkn := keep_next L m q (by rw [HLN.out]; exact e)
              obtain ⟨x, hx⟩ : ∃ x, x = L.getD q 0 := ⟨_, rfl⟩
              rw [← hx] at hcx hkn
              rw [← ho.out] at hkn
              have HKN := Lib.hid hkn
              clear hc hx hkn hrow hb hN hX8 ho
              by_cases e1 : 0 ≤ x
              · have k1 : decide (0 ≤ x) = true := decide_eq_true e1
                by_cases e2 : x < m1
                · have k2 : decide (x < m1) = true := decide_eq_true e2
                  have hk : keepB m x = true := by
                    unfold keepB
                    rw [← HM1.out, k1, k2]
                    rfl
                  have HK := Lib.hid hk
                  clear hk
                  go_wp2_with (at_builtin; refine wpList_append_own _ rfl _ _ 22 rfl w.heap.size 3 i3 (.int .i64 0) 1 8 Tryz.underlying22 h3 hz0 hz1 hz2 rfl (by decide) _ _ _ rfl (HROW.out.alloc _) ⟨wr.heap.size, 0, none⟩ 1 1 [.int .i64 x] rfl rfl ?c1 ?c2 ?c3 ?c4 ?c5 ?_)
                  case c1 => exact cell_one _ _ _
                  case c2 => intro u hu; simp at hu; subst hu; rfl
                  case c3 => unfold maxLen; omega
                  case c4 => omega
                  case c5 => simp; omega
                  intro v9 w9 hown9 hgrow9 _
                  have hb9 : Below w.heap.size w w9 := (HB.out.alloc hz9 _).grown hgrow9 (by simp; omega) (fun k hk => (HROW.out.lt k hk).1)
                  have HO9 := Lib.hid hown9
                  have HB9 := Lib.hid hb9
                  clear hown9 hgrow9 hb9
                  go_wp2_with fail
                  go_roundw
                  case rel =>
                    refine ⟨q + 1, o ++ [x], by omega, by go_num, by rw [List.length_append, ← HN.out]; show N + 1 ≤ q + 1; omega, Lib.hid ?_, ?_, HB9.out⟩
                    · rw [HKN.out, if_pos HK.out]
                    · rw [List.length_append, ← HN.out, List.map_append, ← HX8.out]
                      exact HO9.out
                  case measure => simp [intOf]; omega
                · have k2 : decide (x < m1) = false := decide_eq_false e2
                  have hk : ¬ keepB m x = true := by
                    unfold keepB
                    rw [← HM1.out, k1, k2]
                    decide
                  have HK := Lib.hid hk
                  clear hk
                  go_wp2_with fail
                  go_roundw
                  case rel =>
                    refine ⟨q + 1, o, by omega, by go_num, by rw [← HN.out]; omega, Lib.hid ?_, ?_, HB.out⟩
                    · rw [HKN.out, if_neg HK.out, List.append_nil]
                    · rw [← HN.out, ← HX8.out]
                      exact HROW.out
                  case measure => simp [intOf]; omega
              · have k1 : decide (0 ≤ x) = false := decide_eq_false e1
                have hk : ¬ keepB m x = true := by
                  unfold keepB
                  rw [k1]
                  simp
                have HK := Lib.hid hk
                clear hk
                go_wp2_with fail
                go_roundw
                case rel =>
                  refine ⟨q + 1, o, by omega, by go_num, by rw [← HN.out]; omega, Lib.hid ?_, ?_, HB.out⟩
                  · rw [HKN.out, if_neg HK.out, List.append_nil]
                  · rw [← HN.out, ← HX8.out]
                    exact HROW.out
                case measure => simp [intOf]; omega
            · obtain rfl : q = n := by omega
              have dq : decide ((q : Int) < (q : Int)) = false := decide_eq_false (by omega)
              have ho2 := ho.out
              rw [List.take_of_length_le (Nat.le_of_eq HLN.out)] at ho2
              have hFo : F = o ++ [m1] := by
                rw [HF.out, ownL, ← ho2, ← HM1.out]
              have HFO := Lib.hid hFo
              clear ho ho2 hrow hb hN hX8 hFo
              go_wp2_with (at_builtin; refine wpList_append_own _ rfl _ _ 22 rfl w.heap.size 3 i3 (.int .i64 0) 1 8 Tryz.underlying22 h3 hz0 hz1 hz2 rfl (by decide) _ _ _ rfl (HROW.out.alloc _) ⟨wr.heap.size, 0, none⟩ 1 1 [.int .i64 m1] rfl rfl ?c1 ?c2 ?c3 ?c4 ?c5 ?_)
              case c1 => exact cell_one _ _ _
              case c2 => intro u hu; simp at hu; subst hu; rfl
              case c3 => unfold maxLen; omega
              case c4 => omega
              case c5 => simp; omega
              intro v9 w9 hown9 hgrow9 _
              have hb9 : Below w.heap.size w w9 := (HB.out.alloc hz9 _).grown hgrow9 (by simp; omega) (fun k hk => (HROW.out.lt k hk).1)
              obtain ⟨A9, c9, rfl, hc9, _, _⟩ := own_slice hown9
              obtain ⟨M, hMF⟩ : ∃ M, M = F.length := ⟨_, rfl⟩
              have hNM : N + 1 = M := by
                rw [hMF, HFO.out, List.length_append, ← HN.out]
                rfl
              have hz9' : ZIn w9 A9 M F := by
                have h := hown9
                rw [HX8.out] at h
                have h2 : w9.ownsRow w.heap.size 3 1 (.slice A9 (N + 1) c9) (N + 1) ((o ++ [m1]).map zv) := by
                  rw [List.map_append]
                  exact h
                rw [← HFO.out, hNM] at h2
                exact zs_of_own h2
              rw [hNM] at hc9 ⊢
              rw [← hMF] at HBE HPU hFl
              have HMF := Lib.hid hMF
              have HZ9 := Lib.hid hz9'
              have HB9 := Lib.hid hb9
              have HBE9 := Lib.hid (HBE.out w9 A9 c9 hz9' hc9)
              clear hown9 hgrow9 hb9 hz9' HBE hMF hNM HROW HB
              go_wp2_with fail
              refine HBE9.out.mono ?_
              rintro e w10 ⟨v10, rfl, hp10, hb10⟩
              obtain ⟨A1, n1, c1, B1, k1, e1, rfl, hpl10⟩ := hp10.parts
              obtain ⟨hh11, hb1011⟩ := held_new hpl10
              have hb11 := hb10.trans (hb1011.mono hb10.size)
              have HH11 := Lib.hid hh11
              have HB11 := Lib.hid (HB9.out.trans (hb11.mono HB9.out.size))
              have HZ11 := Lib.hid (HZ9.out.below hb11)
              clear hp10 hpl10 hh11 hb1011 hb10 hb11 HBE9 HB9 HZ9
              (try dsimp only)
              go_upto_region 11 with fail
              generalize w10.alloc (.cells #[.slice A1 n1 c1, .slice B1 k1 e1] 26) = w11 at *
              generalize w10.heap.size = g1' at *
              obtain ⟨q0, q1⟩ := HH11.out.cells
              have HS11 := Lib.hid (HSH.out w11 _ HH11.out.2)
              go_wp2_with fail
              clear q0 q1
              refine HS11.out.mono ?_
              rintro e w12 ⟨rfl, hb12⟩
              rw [← HX1.out, HX3.out, ← HX.out]
              have hb1213 : Below w12.heap.size w12 (w12.alloc (.cells #[.string X, .int .i64 x1] 43)) := (Below.refl _ _).alloc (Nat.le_refl _) _
              have HK13 := Lib.hid (blk_new w12 43 #[.string X, .int .i64 x1])
              have hb13 := hb12.trans (hb1213.mono hb12.size)
              have HH13 := Lib.hid (HH11.out.below hb13)
              have HB13 := Lib.hid (HB11.out.trans (hb13.mono HB11.out.size))
              have HZ13 := Lib.hid (HZ11.out.below hb13)
              clear hb12 hb1213 hb13 HS11 HH11 HB11 HZ11
              go_upto_region 12 with fail
              generalize w12.alloc (.cells #[.string X, .int .i64 x1] 43) = w13 at *
              generalize w12.heap.size = g3' at *
              obtain ⟨q0, q1⟩ := HH13.out.cells
              have HS13 := Lib.hid (HPU.out w13 _ A9 c9 HH13.out.2 HZ13.out hc9)
              go_wp2_with fail
              clear q0 q1
              refine HS13.out.mono ?_
              rintro e w14 ⟨rfl, hb14⟩
              rw [← HX2.out, HX4.out, ← HY.out]
              have hb1415 : Below w14.heap.size w14 (w14.alloc (.cells #[.string Y, .int .i64 x2] 43)) := (Below.refl _ _).alloc (Nat.le_refl _) _
              have HL15 := Lib.hid (blk_new w14 43 #[.string Y, .int .i64 x2])
              have hb15 := hb14.trans (hb1415.mono hb14.size)
              have HK15 := Lib.hid ((step_of_below hb15).blk HK13.out List.not_mem_nil List.not_mem_nil)
              have HH15 := Lib.hid (HH13.out.below hb15)
              have HB15 := Lib.hid (HB13.out.trans (hb15.mono HB13.out.size))
              have HZ15 := Lib.hid (HZ13.out.below hb15)
              clear hb14 hb1415 hb15 HS13 HH13 HB13 HZ13 HK13
              go_upto_region 13 with fail
              generalize w14.alloc (.cells #[.string Y, .int .i64 x2] 43) = w15 at *
              generalize w14.heap.size = g5' at *
              have r0 := (blk_cell HK15.out 0).trans rfl
              have HT15 := Lib.hid (HTA.out w15)
              go_wp2_with fail
              clear r0
              refine HT15.out.mono ?_
              intro e w16 h
              obtain ⟨A2, n2, c2, B2, k2, e2, rfl, hpl16, hb16⟩ := plan3_parts h
              obtain ⟨hh17, hb1617⟩ := held_new hpl16
              have hb17 := hb16.trans (hb1617.mono hb16.size)
              have HJ17 := Lib.hid hh17
              have HL17 := Lib.hid ((step_of_below hb17).blk HL15.out List.not_mem_nil List.not_mem_nil)
              have HK17 := Lib.hid ((step_of_below hb17).blk HK15.out List.not_mem_nil List.not_mem_nil)
              have HH17 := Lib.hid (HH15.out.below hb17)
              have HB17 := Lib.hid (HB15.out.trans (hb17.mono HB15.out.size))
              have HZ17 := Lib.hid (HZ15.out.below hb17)
              clear h hpl16 hh17 hb1617 hb16 hb17 HT15 HH15 HB15 HZ15 HK15 HL15
              (try dsimp only)
              go_upto_region 16 with fail
              generalize w16.alloc (.cells #[.slice A2 n2 c2, .slice B2 k2 e2] 26) = w17 at *
              generalize w16.heap.size = g7' at *
              obtain ⟨q0, q1⟩ := HH17.out.cells
              have s0 := (blk_cell HL17.out 0).trans rfl
              have HG17 := Lib.hid (HGE.out w17 _ HH17.out.2)
              go_wp2_with fail
              clear q0 q1 s0
              refine HG17.out.mono ?_
              intro e w18 h
              obtain ⟨A3, c3, rfl, hc3, hi3, hb18⟩ := all_slice h
              have hnf : (nl F).length = M := by rw [nl_length, HMF.out]
              dsimp only at hc3 hi3 ⊢
              rw [hnf] at hc3 hi3 ⊢
              have hz3 : ZIn w18 A3 M F := by
                have h := zin_of hi3
                have e : ((nl F).map fun (x : Nat) => (x : Int)) = F := HNN.out
                rw [e] at h
                exact h
              have hk18 := (step_of_below hb18).blk HK17.out List.not_mem_nil List.not_mem_nil
              have hl18 := (step_of_below hb18).blk HL17.out List.not_mem_nil List.not_mem_nil
              have hh18 := HH17.out.below hb18
              have hj18 := HJ17.out.below hb18
              have HZ18 := Lib.hid (HZ17.out.below hb18)
              have HZ3 := Lib.hid hz3
              have HB18 := Lib.hid (HB17.out.trans (hb18.mono HB17.out.size))
              have HS18 := Lib.hid (rplans_any _ _ _ _ _ _ _ hh18.2 hj18.2)
              rw [show decide (T = T ∧ P = P) = true from decide_eq_true ⟨rfl, rfl⟩] at HS18
              obtain ⟨q0, q1⟩ := hh18.cells
              obtain ⟨p0, p1⟩ := hj18.cells
              have HK18 := Lib.hid hk18
              have HL18 := Lib.hid hl18
              have eq1 : ((y1 : Int) == (y1 : Int)) = true := beq_self_eq_true _
              have eq2 : ((y2 : Int) == (y2 : Int)) = true := beq_self_eq_true _
              clear h hi3 hb18 hz3 hk18 hl18 hh18 hj18 hnf HH17 HJ17 HZ17 HK17 HL17 HB17 HG17
              go_wp2_with fail
              refine HS18.out.mono ?_
              rintro e w19 ⟨rfl, hb19⟩
              have hk19 := (step_of_below hb19).blk HK18.out List.not_mem_nil List.not_mem_nil
              have hl19 := (step_of_below hb19).blk HL18.out List.not_mem_nil List.not_mem_nil
              have r1 := (blk_cell hk19 1).trans rfl
              have s1 := (blk_cell hl19 1).trans rfl
              have HS19 := Lib.hid (zs_same w19 A3 A9 M c3 c9 F (HZ3.out.below hb19) (HZ18.out.below hb19) (by omega))
              have HB19 := Lib.hid (HB18.out.trans (hb19.mono HB18.out.size))
              have HK19 := Lib.hid hk19
              have HL19 := Lib.hid hl19
              clear hb19 hk19 hl19 q0 q1 p0 p1 HS18 HK18 HL18
              go_wp2_with fail
              refine HS19.out.mono ?_
              rintro e w20 ⟨rfl, m20, rfl⟩
              have HB20 := Lib.hid (below_drewN HB19.out m20)
              have s2 : (w19.drewN m20).cell? ⟨g5', 1, none⟩ = some (.int .i64 (x2 : Nat)) := s1
              clear r1 s1
              generalize w19.drewN m20 = w20 at *
              go_wp2_with fail
              refine (HAW.out w20).mono ?_
              rintro e w21 ⟨rfl, hb21⟩
              have HB21 := Lib.hid (HB20.out.trans (hb21.mono HB20.out.size))
              clear hb21
              go_wp2_with fail
              go_ret
              exact ⟨rfl, HB21.out⟩
end

end Go.Proofs.YtmgmgmbpldboiaaGreat
