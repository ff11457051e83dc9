/- The reference's All and Decode. Conditions: at most a million bits. Written ahead of stage 9. -/
import Derived.Test.YtgnlpbnodijkgaaOi
import Derived.Test.YtgnlpbnodijkgaaOf
namespace Go.Proofs.Ytgnlpbnodijkgaa
open Go.RowKit

/-- Symbols in a slice of the call's own, a place, and an error. -/
def AllPost (w : World) (ans : List Nat × Nat × Nat) (e : Ending) (w' : World) : Prop := ∃ v, e = .returned (.tuple #[v, .int .i64 ans.2.1, .int .i64 ans.2.2]) ∧ w'.ownsRow w.heap.size 3 1 v ans.1.length (ans.1.map iv) ∧ Below w.heap.size w w'

theorem allF_more (l bs : List Nat) (en : Int) (k a : Nat) (o : List Nat) : allF l bs en (k + 1) a o = match nextL l (bs.drop a) with
    | .hit i => if (i : Int) = en then (o ++ [i], a + l.getD i 0, 0) else allF l bs en k (a + l.getD i 0) (o ++ [i])
    | .short => ([], 0, 10)
    | .code => ([], 0, 90) := rfl

set_option maxHeartbeats 3200000 in
set_option maxRecDepth 100000 in
theorem rall_any (w : World) (A B : Option Addr) (n c0 m c : Nat) (L : List Int) (bits : List Nat) (at' k en : Int) (hL : ZIn w A n L) (hn : n ≤ maxLen) (hb : IntsIn w B m bits) (hmc : m ≤ c) (hm : m ≤ 1000000) (hc : c ≤ maxLen) (h01 : Bit01 bits) (_ : -9223372036854775808 ≤ at') (_ : at' ≤ 9223372036854775807) (_ : -9223372036854775808 ≤ k) (_ : k ≤ 9223372036854775807) (_ : -9223372036854775808 ≤ en) (_ : en ≤ 9223372036854775807) :
    Calls Try.prog 20 #[.slice A n c0, .slice B m c, .int .i64 at', .int .i64 k, .int .i64 en] w (AllPost w (allAns L bits at' k en)) := by
  have HC := Lib.hid (check_any w A n c0 L hL hn)
  have HP : Hid (∀ (v : Value) (a : List Nat × Nat × Nat) (w' : World), allAns L bits at' k en = a → w'.ownsRow w.heap.size 3 1 v a.1.length (a.1.map iv) → Below w.heap.size w w' → AllPost w (allAns L bits at' k en) (.returned (.tuple #[v, .int .i64 a.2.1, .int .i64 a.2.2])) w') := Lib.hid fun v a w' h1 h2 h3 => ⟨v, by rw [h1], by rw [h1]; exact h2, h3⟩
  have hblen := hb.1
  by_cases h : LenOk L
  · rw [if_pos h] at HC
    have hln := hL.1
    have hn2 : n ≤ 258 := by have := h.2.1; omega
    have HT := Lib.hid (table_any w A n c0 L hL h)
    have hfit := fits_of h
    have hll : (nl L).length = n := by rw [nl_length, hln]
    have HF := Lib.hid hfit
    have HLL := Lib.hid hll
    have hans : allAns L bits at' k en = (if at' < 0 ∨ (m : Int) < at' ∨ k < 0 then ([], 0, 2) else allF (nl L) bits en k.toNat at'.toNat []) := by rw [allAns, if_pos h, hblen]
    generalize nl L = l at *
    generalize AllPost w (allAns L bits at' k en) = PO at *
    generalize allAns L bits at' k en = ans at *
    have HBI := Lib.hid hb
    have HBL := Lib.hid hblen
    have H01 := Lib.hid h01
    have HNEXT := Lib.hid next_any
    clear hL h hln hfit hll hb hblen h01
    by_cases hbad : at' < 0 ∨ (m : Int) < at' ∨ k < 0
    · rw [if_pos hbad] at hans
      have HPE := Lib.hid (HP.out (.slice none 0 0) _ w hans (World.ownsRow_nil _ _ _ _) (Below.refl _ _))
      clear hans HP
      by_cases h1 : at' < 0
      · have d0 : decide (at' < 0) = true := decide_eq_true h1
        clear hbad
        go_enter Try.func20, Try.ntmps20
        go_wp2_with fail
        refine HC.out.mono ?_
        rintro e w ⟨rfl, rfl⟩
        go_wp2_with fail
        first | exact HPE.out | (go_ret3; exact HPE.out)
      · have d0 : decide (at' < 0) = false := decide_eq_false h1
        by_cases h2 : (m : Int) < at'
        · have d1 : decide ((m : Int) < at') = true := decide_eq_true h2
          clear hbad
          go_enter Try.func20, Try.ntmps20
          go_wp2_with fail
          refine HC.out.mono ?_
          rintro e w ⟨rfl, rfl⟩
          go_wp2_with fail
          first | exact HPE.out | (go_ret3; exact HPE.out)
        · have d1 : decide ((m : Int) < at') = false := decide_eq_false h2
          have d2 : decide (k < 0) = true := decide_eq_true (by omega)
          clear hbad
          go_enter Try.func20, Try.ntmps20
          go_wp2_with fail
          refine HC.out.mono ?_
          rintro e w ⟨rfl, rfl⟩
          go_wp2_with fail
          first | exact HPE.out | (go_ret3; exact HPE.out)
    · rw [if_neg hbad] at hans
      obtain ⟨a0, rfl⟩ : ∃ a0 : Nat, at' = a0 := ⟨at'.toNat, by omega⟩
      obtain ⟨k0, rfl⟩ : ∃ k0 : Nat, k = k0 := ⟨k.toNat, by omega⟩
      have d0 : decide ((a0 : Int) < 0) = false := decide_eq_false (by omega)
      have d1 : decide ((m : Int) < (a0 : Int)) = false := decide_eq_false (by omega)
      have d2 : decide ((k0 : Int) < 0) = false := decide_eq_false (by omega)
      have ha0 : a0 ≤ m := by omega
      have hk0 : k0 ≤ 9223372036854775807 := by omega
      rw [Int.toNat_natCast, Int.toNat_natCast] at hans
      have HANS := Lib.hid hans
      obtain ⟨i3, h3, hz0, hz1, hz2⟩ := info_parts Try.info3
      clear hbad hans
      go_enter Try.func20, Try.ntmps20
      go_wp2_with fail
      refine HC.out.mono ?_
      rintro e w ⟨rfl, rfl⟩
      go_wp2_with fail
      refine HT.out.mono ?_
      rintro e w2 ⟨g, rfl, hT, hb2⟩
      have HT2 := Lib.hid hT
      have HB2 := Lib.hid hb2
      have hz2' := hb2.size
      clear hT hb2
      go_wp2_with fail
      go_loopw [2, 3, 15] (fun av nv out wx => ∃ (a nn : Nat) (o : List Nat), av = .int .i64 a ∧ a ≤ m ∧ nv = .int .i64 nn ∧ nn ≤ 9223372036854775807 ∧ o.length ≤ nn ∧ o.length ≤ a ∧ Hid (ans = allF l bits en (nn - o.length) a o) ∧ wx.ownsRow w2.heap.size 3 1 out o.length (o.map iv) ∧ Below w2.heap.size w2 wx) (fun av nv out => fun _ => m - (intOf av).toNat)
      case atStart => exact ⟨a0, k0, [], rfl, ha0, rfl, hk0, Nat.zero_le _, Nat.zero_le _, HANS, World.ownsRow_nil _ _ _ _, Below.refl _ _⟩
      case round =>
        obtain ⟨a, nn, o, rfl, ha, rfl, hnn, hol, hoa, hrel2, hown, hb⟩ := hrel
        have hz9 := hb.size
        obtain ⟨A0, c5, rfl, hn0, hm0, hA0⟩ := own_slice hown
        clear hA0
        unfold maxLen at hm0
        have HB := Lib.hid hb
        have HO := Lib.hid hown
        have hb0 := HB2.out.trans (hb.mono hz2')
        have HB0 := Lib.hid hb0
        obtain ⟨N, hN⟩ : ∃ N, N = o.length := ⟨_, rfl⟩
        have HN := Lib.hid hN
        rw [← hN] at hol hoa hn0 ⊢
        by_cases e : N < nn
        · have d3 : decide ((N : Int) < (nn : Int)) = true := decide_eq_true (by omega)
          have hstep := hrel2.out
          rw [← hN, show nn - N = (nn - N - 1) + 1 by omega, allF_more] at hstep
          have HNX := Lib.hid (HNEXT.out wr g n l (HT2.out.below hb) HF.out HLL.out hn2 B m c bits (ints_low HBI.out hb0) hmc hm hc H01.out a ha)
          cases hx : nextL l (bits.drop a) with
          | hit i =>
            have his := nextF_is 20 1 (show nextF l (bits.drop a) 20 1 = .hit i from hx)
            have hin : i < n := by have := his.2.1; rw [HLL.out] at this; exact this
            have hone := HF.out.one his.2.1
            have hle : a + l.getD i 0 ≤ m := by
              have := his.1
              rw [List.length_drop, HBL.out] at this
              omega
            rw [hx] at HNX hstep
            obtain ⟨a2, ha2⟩ : ∃ a2, a2 = a + l.getD i 0 := ⟨_, rfl⟩
            have HNX2 : Hid (Calls Try.prog 39 #[.slice (some ⟨g, 0, none⟩) n n, .slice B m c, .int .i64 a] wr fun e w' => e = .returned (.tuple #[.int .i64 (i : Nat), .int .i64 (a2 : Nat), .int .i64 0]) ∧ ∃ d, w' = wr.drewN d) := Lib.hid (by
              have h := HNX.out
              rw [show nxAns l a (.hit i) = (i, a2, 0) by rw [ha2]; rfl] at h
              exact h)
            rw [← ha2] at hle
            have ha3 : a < a2 := by omega
            have hst2 : ans = if (i : Int) = en then (o ++ [i], a2, 0) else allF l bits en (nn - N - 1) a2 (o ++ [i]) := by rw [hstep, ha2]
            have HST := Lib.hid hst2
            obtain ⟨X, hX⟩ : ∃ X, X = o.map iv := ⟨_, rfl⟩
            rw [← hX, ← hN] at HO
            have HX := Lib.hid hX
            clear hstep hst2 hx his hone ha2 HNX hrel2 hown hb hb0 hX hN
            by_cases een : (i : Int) = en
            · have d4 : ((i : Int) == en) = true := by rw [een]; exact beq_self_eq_true _
              have hans2 := HST.out
              rw [if_pos een] at hans2
              have HA2 := Lib.hid hans2
              subst een
              clear hans2 HST
              go_wp2_with fail
              refine HNX2.out.mono ?_
              rintro e w3 ⟨rfl, d, rfl⟩
              have HO3 : Hid ((wr.drewN d).ownsRow w2.heap.size 3 1 (.slice A0 N c5) N X) := HO
              have HB3 := Lib.hid (below_drewN HB.out d)
              have hz5 : w2.heap.size ≤ (wr.drewN d).heap.size := hz9
              generalize wr.drewN d = w5 at *
              go_wp2_with (at_builtin; refine wpList_append_own _ rfl _ _ 22 rfl w2.heap.size 3 i3 (.int .i64 0) 1 8 Try.underlying22 h3 hz0 hz1 hz2 rfl (by decide) _ _ _ rfl (HO3.out.alloc _) ⟨w5.heap.size, 0, none⟩ 1 1 [.int .i64 i] rfl rfl ?c1 ?c2 ?c3 ?c4 ?c5 ?_)
              case c1 => exact cell_one _ _ _
              case c2 => intro u hu; simp at hu; subst hu; rfl
              case c3 => unfold maxLen; omega
              case c4 => omega
              case c5 => simp; omega
              intro v6 w6 hown6 hgrow6 _
              have hb6 : Below w2.heap.size w2 w6 := (HB3.out.alloc hz5 _).grown hgrow6 (by simp; omega) (fun k hk => (HO3.out.lt k hk).1)
              obtain ⟨A6, c6, rfl, hn6, hm6, _⟩ := own_slice hown6
              have HO6 := Lib.hid hown6
              have HB6 := Lib.hid hb6
              clear hown6 hgrow6 hb6
              go_wp2_with fail
              go_roundw
              case rel =>
                refine ⟨a2, N + 1, o ++ [i], rfl, hle, by go_num, by omega, by rw [List.length_append, ← HN.out]; exact Nat.le_refl _, by rw [List.length_append, ← HN.out]; show N + 1 ≤ a2; omega, Lib.hid ?_, ?_, HB6.out⟩
                · rw [List.length_append, ← HN.out, show N + 1 - (N + [i].length) = 0 by simp]
                  exact HA2.out
                · rw [List.length_append, ← HN.out, List.map_append, ← HX.out]
                  exact HO6.out
              case measure => simp [intOf]; omega
            · have d4 : ((i : Int) == en) = false := by
                rw [beq_eq_false_iff_ne]
                exact een
              have hans2 := HST.out
              rw [if_neg een] at hans2
              have HA2 := Lib.hid hans2
              clear hans2 HST een
              go_wp2_with fail
              refine HNX2.out.mono ?_
              rintro e w3 ⟨rfl, d, rfl⟩
              have HO3 : Hid ((wr.drewN d).ownsRow w2.heap.size 3 1 (.slice A0 N c5) N X) := HO
              have HB3 := Lib.hid (below_drewN HB.out d)
              have hz5 : w2.heap.size ≤ (wr.drewN d).heap.size := hz9
              generalize wr.drewN d = w5 at *
              go_wp2_with (at_builtin; refine wpList_append_own _ rfl _ _ 22 rfl w2.heap.size 3 i3 (.int .i64 0) 1 8 Try.underlying22 h3 hz0 hz1 hz2 rfl (by decide) _ _ _ rfl (HO3.out.alloc _) ⟨w5.heap.size, 0, none⟩ 1 1 [.int .i64 i] rfl rfl ?c1 ?c2 ?c3 ?c4 ?c5 ?_)
              case c1 => exact cell_one _ _ _
              case c2 => intro u hu; simp at hu; subst hu; rfl
              case c3 => unfold maxLen; omega
              case c4 => omega
              case c5 => simp; omega
              intro v6 w6 hown6 hgrow6 _
              have hb6 : Below w2.heap.size w2 w6 := (HB3.out.alloc hz5 _).grown hgrow6 (by simp; omega) (fun k hk => (HO3.out.lt k hk).1)
              have HO6 := Lib.hid hown6
              have HB6 := Lib.hid hb6
              clear hown6 hgrow6 hb6
              go_wp2_with fail
              go_roundw
              case rel =>
                refine ⟨a2, nn, o ++ [i], rfl, hle, rfl, hnn, by rw [List.length_append, ← HN.out]; show N + 1 ≤ nn; omega, by rw [List.length_append, ← HN.out]; show N + 1 ≤ a2; omega, Lib.hid ?_, ?_, HB6.out⟩
                · rw [List.length_append, ← HN.out, show nn - (N + [i].length) = nn - N - 1 by simp; omega]
                  exact HA2.out
                · rw [List.length_append, ← HN.out, List.map_append, ← HX.out]
                  exact HO6.out
              case measure => simp [intOf]; omega
          | short =>
            rw [hx] at HNX hstep
            have HPE := Lib.hid fun d => HP.out (.slice none 0 0) _ (wr.drewN d) hstep (World.ownsRow_nil _ _ _ _) (below_drewN HB0.out d)
            have HNX2 : Hid (Calls Try.prog 39 #[.slice (some ⟨g, 0, none⟩) n n, .slice B m c, .int .i64 a] wr fun e w' => e = .returned (.tuple #[.int .i64 0, .int .i64 0, .int .i64 10]) ∧ ∃ d, w' = wr.drewN d) := HNX
            clear hstep hx HNX hrel2 hown hb hb0 hN HP HANS
            go_wp2_with fail
            refine HNX2.out.mono ?_
            rintro e w3 ⟨rfl, d, rfl⟩
            go_wp2_with fail
            first | exact HPE.out _ | (go_ret3; exact HPE.out _)
          | code =>
            rw [hx] at HNX hstep
            have HPE := Lib.hid fun d => HP.out (.slice none 0 0) _ (wr.drewN d) hstep (World.ownsRow_nil _ _ _ _) (below_drewN HB0.out d)
            have HNX2 : Hid (Calls Try.prog 39 #[.slice (some ⟨g, 0, none⟩) n n, .slice B m c, .int .i64 a] wr fun e w' => e = .returned (.tuple #[.int .i64 0, .int .i64 0, .int .i64 90]) ∧ ∃ d, w' = wr.drewN d) := HNX
            clear hstep hx HNX hrel2 hown hb hb0 hN HP HANS
            go_wp2_with fail
            refine HNX2.out.mono ?_
            rintro e w3 ⟨rfl, d, rfl⟩
            go_wp2_with fail
            first | exact HPE.out _ | (go_ret3; exact HPE.out _)
        · have d3 : decide ((N : Int) < (nn : Int)) = false := decide_eq_false (by omega)
          have hend := hrel2.out
          rw [← hN, show nn - N = 0 by omega] at hend
          have hend2 : ans = (o, a, 0) := hend
          have hpe := HP.out (.slice A0 o.length c5) (o, a, 0) wr hend2 (World.ownsRow.mono HO.out hz2') HB0.out
          rw [← hN] at hpe
          have HPE := Lib.hid hpe
          clear hend hend2 hpe hrel2 hown hb hb0 hN HP HANS
          go_wp2_with fail
          first | exact HPE.out | (go_ret3; exact HPE.out)
  · rw [if_neg h] at HC
    have HPE := Lib.hid (HP.out (.slice none 0 0) ([], 0, 80) w (by rw [allAns, if_neg h]) (World.ownsRow_nil _ _ _ _) (Below.refl _ _))
    generalize AllPost w (allAns L bits at' k en) = PO at *
    clear hL h hb hblen HP
    go_enter Try.func20, Try.ntmps20
    go_wp2_with fail
    refine HC.out.mono ?_
    rintro e w ⟨rfl, rfl⟩
    go_wp2_with fail
    first | exact HPE.out | (go_ret3; exact HPE.out)

end Go.Proofs.Ytgnlpbnodijkgaa
