/- The reference's Decode. Conditions: at most two million symbols. -/
import Derived.Test.YtdlndcjiccfhgaaZb
import Derived.Test.YtdlndcjiccfhgaaZc
namespace Go.Proofs.Ytdlndcjiccfhgaa
open Go.RowKit

/-- What noughts answers. -/
def NoughtPost (B : Nat) (w : World) (o : List Nat) (k : Nat) (e : Ending) (w' : World) : Prop := ∃ v, e = .returned (.tuple #[v, .bool true]) ∧ w'.ownsRow B 3 1 v (o ++ List.replicate k 0).length ((o ++ List.replicate k 0).map iv) ∧ Below B w w'

theorem noughts_no (w : World) (A : Option Addr) (n c k most : Nat) (h : most < n + k) (hn : n ≤ 2000000) (hk : k ≤ 2000000) (hm : most ≤ 2000000) : Calls Try.prog 22 #[.slice A n c, .int .i64 k, .int .i64 most] w fun e w' => e = .returned (.tuple #[.slice none 0 0, .bool false]) ∧ w = w' := by
  have d0 : decide ((most : Int) - (n : Int) < (k : Int)) = true := decide_eq_true (by omega)
  go_enter Try.func22, Try.ntmps22
  go_wp2_with fail
  go_ret2
  exact ⟨rfl, rfl⟩

set_option maxHeartbeats 1600000 in
theorem noughts_yes (w : World) (B : Nat) (v : Value) (o : List Nat) (k most : Nat) (hown : w.ownsRow B 3 1 v o.length (o.map iv)) (h : o.length + k ≤ most) (h0 : 0 < k) (hm : most ≤ 1000000) (hB : B ≤ w.heap.size) : Calls Try.prog 22 #[v, .int .i64 k, .int .i64 most] w (NoughtPost B w o k) := by
  obtain ⟨i3, h3, hz0, hz1, hz2⟩ := info_parts Try.info3
  obtain ⟨A, c, rfl, hnc, hcm, _⟩ := own_slice hown
  obtain ⟨v2, w2, hrun, hown2, hgrow2, _⟩ := run_own_noughts (P := Try.prog) w B 22 3 22 3 i3 .i64 .i64 Try.underlying22 Try.underlying3 h3 hz0 hz1 hz2 _ _ _ hown k h0 (by omega) (by omega) hB
  have hb2 : Below B w w2 := (Below.refl B w).grown hgrow2 hB (fun k hk => (hown.lt k hk).1)
  have hfin : w2.ownsRow B 3 1 v2 (o ++ List.replicate k 0).length ((o ++ List.replicate k 0).map iv) := by
    rw [List.length_append, List.length_replicate, List.map_append, List.map_replicate]
    exact hown2
  have HF : Hid (NoughtPost B w o k (.returned (.tuple #[v2, .bool true])) w2) := Lib.hid ⟨v2, rfl, hfin, hb2⟩
  have HR := Lib.hid hrun
  obtain ⟨n, hn⟩ : ∃ n, n = o.length := ⟨_, rfl⟩
  rw [← hn] at HR h hnc ⊢
  have d0 : decide ((most : Int) - (n : Int) < (k : Int)) = false := decide_eq_false (by omega)
  clear hrun hown hown2 hgrow2 hb2 hfin hn
  generalize NoughtPost B w o k = PO at *
  go_enter Try.func22, Try.ntmps22
  go_wp2_with (at_builtin; refine Lib.wpList_append_run _ rfl _ _ 22 3 rfl (.slice A n c) (.int .i64 k) rfl rfl v2 w2 HR.out ?_)
  exact HF.out

theorem dec_cons (n most : Nat) (s : Int) (l : List Int) (o : List Nat) (wo : Nat) (ended : Bool) : decZ n most (s :: l) o wo ended =
    if s < 0 ∨ (n : Int) + 1 < s then ([], 60)
    else if ended then ([], 70)
    else if s = (n : Int) + 1 then decZ n most l o wo true
    else if 1 < s then (if most ≤ o.length then ([], 3) else decZ n most l (o ++ [s.toNat - 1]) 1 false)
    else if most < o.length + (s.toNat + 1) * wo then ([], 3) else decZ n most l (o ++ List.replicate ((s.toNat + 1) * wo) 0) (wo * 2) false := rfl

set_option maxRecDepth 100000 in
theorem rdec_out (w : World) (A : Option Addr) (m c : Nat) (n most : Int) (h : n < 1 ∨ 256 < n ∨ most < 0 ∨ 262144 < most) : Calls Try.prog 15 #[.int .i64 n, .int .i64 most, .slice A m c] w (ListPost w ([], 2)) := by
  have fin : ∀ w' : World, w = w' → ListPost w ([], 2) (.returned (.tuple #[.slice none 0 0, .int .i64 2])) w' := by
    rintro w' rfl
    exact ⟨_, rfl, World.ownsRow_nil _ _ _ _, Below.refl _ _⟩
  have F := Lib.hid (fin w rfl)
  clear fin
  by_cases h1 : n < 1
  · have d0 : decide (n < 1) = true := decide_eq_true h1
    clear h
    go_enter Try.func15, Try.ntmps15
    go_wp2_with fail
    go_ret2
    exact F.out
  · have d0 : decide (n < 1) = false := decide_eq_false h1
    by_cases h2 : 256 < n
    · have d1 : decide (256 < n) = true := decide_eq_true h2
      clear h
      go_enter Try.func15, Try.ntmps15
      go_wp2_with fail
      go_ret2
      exact F.out
    · have d1 : decide (256 < n) = false := decide_eq_false h2
      by_cases h3 : most < 0
      · have d2 : decide (most < 0) = true := decide_eq_true h3
        clear h
        go_enter Try.func15, Try.ntmps15
        go_wp2_with fail
        go_ret2
        exact F.out
      · have d2 : decide (most < 0) = false := decide_eq_false h3
        have h4 : 262144 < most := by omega
        have d3 : decide (262144 < most) = true := decide_eq_true h4
        clear h
        go_enter Try.func15, Try.ntmps15
        go_wp2_with fail
        go_ret2
        exact F.out

set_option maxHeartbeats 3200000 in
set_option maxRecDepth 100000 in
theorem rdec_any (w : World) (A : Option Addr) (m c : Nat) (L : List Int) (n most : Nat) (hL : ZIn w A m L) (hmc : m ≤ c) (hm : m ≤ 2000000) (hn : 1 ≤ n) (hn2 : n ≤ 256) (hmost : most ≤ 262144) : Calls Try.prog 15 #[.int .i64 n, .int .i64 most, .slice A m c] w (ListPost w (decZ n most L [] 1 false)) := by
  obtain ⟨i3, h3, hz0, hz1, hz2⟩ := info_parts Try.info3
  have d0 : decide ((n : Int) < 1) = false := decide_eq_false (by omega)
  have d1 : decide ((256 : Int) < (n : Int)) = false := decide_eq_false (by omega)
  have d2 : decide ((most : Int) < 0) = false := decide_eq_false (by omega)
  have d3 : decide ((262144 : Int) < (most : Int)) = false := decide_eq_false (by omega)
  have HP : Hid (∀ (v : Value) (a : List Nat × Nat) (w' : World), decZ n most L [] 1 false = a → w'.ownsRow w.heap.size 3 1 v a.1.length (a.1.map iv) → Below w.heap.size w w' → ListPost w (decZ n most L [] 1 false) (.returned (.tuple #[v, .int .i64 a.2])) w') := Lib.hid fun v a w' h1 h2 h3 => ⟨v, by rw [h1], by rw [h1]; exact h2, h3⟩
  have HL := Lib.hid hL
  have hlm := hL.1
  have HLM := Lib.hid hlm
  obtain ⟨n1, hn1⟩ : ∃ n1, n1 = n + 1 := ⟨_, rfl⟩
  have hnw : ((n : Int) + 1) = (n1 : Int) := by omega
  have HN1 := Lib.hid hn1
  have hn12 : n1 ≤ 257 := by omega
  have hn11 : 2 ≤ n1 := by omega
  clear hL hlm hn1
  generalize ListPost w (decZ n most L [] 1 false) = PO at *
  generalize hans : decZ n most L [] 1 false = ans at *
  have HANS := Lib.hid hans
  clear hans
  go_enter Try.func15, Try.ntmps15
  go_wp2_with fail
  go_loopw [8, 9, 10, 11] (fun out wt ed i wx => ∃ (q wo : Nat) (o : List Nat) (ended : Bool), q ≤ m ∧ i = .int .i64 q ∧ wt = .int .i64 wo ∧ ed = .bool ended ∧ wx.ownsRow w.heap.size 3 1 out o.length (o.map iv) ∧ o.length ≤ most ∧ 1 ≤ wo ∧ wo ≤ 2 * o.length + 1 ∧ Hid (ans = decZ n most (L.drop q) o wo ended) ∧ Below w.heap.size w wx) (fun _ _ _ i _ => m - (intOf i).toNat)
  case atStart => exact ⟨0, 1, [], false, Nat.zero_le _, rfl, rfl, rfl, World.ownsRow_nil _ _ _ _, Nat.zero_le _, Nat.le_refl _, by simp, by rw [← HANS.out]; rfl, Below.refl _ _⟩
  case round =>
    obtain ⟨q, wo, o, ended, hq, rfl, rfl, rfl, hown, hol, hw1, hw2, hdec, hb⟩ := hrel
    have hz9 := hb.size
    obtain ⟨A0, c0, rfl, hn0, hm0, hA0⟩ := own_slice hown
    clear hA0
    unfold maxLen at hm0
    have HB := Lib.hid hb
    by_cases e : q < m
    · have dq : decide ((q : Int) < (m : Int)) = true := decide_eq_true (by omega)
      obtain ⟨b, off, rfl, hc⟩ := HL.out.2 (by omega)
      have hcw := hc q e
      have hlt := World.block_lt_of_cell? w _ hcw
      have hdr : L.drop q = L.getD q 0 :: L.drop (q + 1) := by
        rw [List.drop_eq_getElem_cons (by rw [HLM.out]; exact e), List.getD_eq_getElem?_getD, List.getElem?_eq_getElem (by rw [HLM.out]; exact e)]
        rfl
      obtain ⟨x, hx⟩ : ∃ x, x = L.getD q 0 := ⟨_, rfl⟩
      rw [← hx] at hcw hdr
      have hcq := (hb.cell (p := ⟨b, off + q, none⟩) hlt).trans hcw
      have hstep := hdec.out
      rw [hdr, dec_cons, hnw] at hstep
      have HO := Lib.hid hown
      clear hc hx hcw hdr hb hown
      by_cases e1 : x < 0 ∨ (n1 : Int) < x
      · rw [if_pos e1] at hstep
        have HPE := Lib.hid (HP.out (.slice none 0 0) _ wr hstep (World.ownsRow_nil _ _ _ _) HB.out)
        clear hstep HP HANS hdec
        by_cases e2 : x < 0
        · have d4 : decide (x < 0) = true := decide_eq_true e2
          clear e1
          go_wp2_with fail
          exact HPE.out
        · have d4 : decide (x < 0) = false := decide_eq_false e2
          have e3 : (n1 : Int) < x := e1.resolve_left e2
          have d5 : decide ((n1 : Int) < x) = true := decide_eq_true e3
          clear e1
          go_wp2_with fail
          exact HPE.out
      · obtain ⟨s, rfl⟩ : ∃ s : Nat, x = s := ⟨x.toNat, by omega⟩
        have d4 : decide ((s : Int) < 0) = false := decide_eq_false (by omega)
        have hs1 : s ≤ n1 := by omega
        have hns1 : ¬ n1 < s := by omega
        have d5 : decide ((n1 : Int) < (s : Int)) = false := decide_eq_false (by omega)
        rw [if_neg e1, Int.toNat_natCast] at hstep
        clear e1
        cases ended with
        | true =>
          rw [if_pos rfl] at hstep
          have HPE := Lib.hid (HP.out (.slice none 0 0) _ wr hstep (World.ownsRow_nil _ _ _ _) HB.out)
          clear hstep HP HANS hdec
          go_wp2_with fail
          exact HPE.out
        | false =>
          rw [if_neg (by decide)] at hstep
          by_cases e2 : s = n1
          · subst e2
            rw [if_pos rfl] at hstep
            have d6 : ((s : Int) == (s : Int)) = true := beq_self_eq_true _
            have HST := Lib.hid hstep
            clear hstep hdec
            go_wp2_with fail
            go_roundw
            case rel => exact ⟨q + 1, wo, o, true, by omega, by go_num, rfl, rfl, HO.out, hol, hw1, hw2, HST, HB.out⟩
            case measure => simp [intOf]; omega
          · have d6 : ((s : Int) == (n1 : Int)) = false := by
              rw [beq_eq_false_iff_ne]
              omega
            rw [if_neg (by omega)] at hstep
            by_cases e3 : 1 < s
            · have d7 : decide ((1 : Int) < (s : Int)) = true := decide_eq_true (by omega)
              rw [if_pos (by omega)] at hstep
              by_cases e4 : most ≤ o.length
              · rw [if_pos e4] at hstep
                have HPE := Lib.hid (HP.out (.slice none 0 0) _ wr hstep (World.ownsRow_nil _ _ _ _) HB.out)
                obtain ⟨N, hN⟩ : ∃ N, N = o.length := ⟨_, rfl⟩
                rw [← hN] at e4 hn0 hol hw2 ⊢
                have d8 : decide ((most : Int) ≤ (N : Int)) = true := decide_eq_true (by omega)
                clear hstep HP HANS hdec hN
                go_wp2_with fail
                exact HPE.out
              · rw [if_neg e4] at hstep
                have HST := Lib.hid hstep
                obtain ⟨s1, hs2⟩ : ∃ s1, s1 = s - 1 := ⟨_, rfl⟩
                rw [← hs2] at HST
                have hsw : ((s : Int) - 1) = (s1 : Int) := by omega
                obtain ⟨N, hN⟩ : ∃ N, N = o.length := ⟨_, rfl⟩
                obtain ⟨X, hX⟩ : ∃ X, X = o.map iv := ⟨_, rfl⟩
                rw [← hN, ← hX] at HO
                have HN := Lib.hid hN
                have HX := Lib.hid hX
                rw [← hN] at e4 hn0 hol hw2 ⊢
                have d8 : decide ((most : Int) ≤ (N : Int)) = false := decide_eq_false (by omega)
                clear hstep hdec hN hX hs2
                go_wp2_with (at_builtin; refine wpList_append_own _ rfl _ _ 22 rfl w.heap.size 3 i3 (.int .i64 0) 1 8 Try.underlying22 h3 hz0 hz1 hz2 rfl (by decide) _ _ _ rfl (HO.out.alloc _) ⟨wr.heap.size, 0, none⟩ 1 1 [.int .i64 s1] rfl rfl ?c1 ?c2 ?c3 ?c4 ?c5 ?_)
                (try (case c1 => exact cell_one _ _ _))
                case c2 => first | (intro u hu; simp at hu; subst hu; rfl) | rfl
                case c3 => unfold maxLen; omega
                case c4 => omega
                case c5 => first | (simp; omega) | omega
                intro v4 w4 hown4 hgrow4 _
                have hb4 : Below w.heap.size w w4 := (HB.out.alloc hz9 _).grown hgrow4 (by simp; omega) (fun k hk => (HO.out.lt k hk).1)
                have HO4 := Lib.hid hown4
                have HB4 := Lib.hid hb4
                clear hown4 hgrow4 hb4
                go_wp2_with fail
                go_roundw
                case rel =>
                  refine ⟨q + 1, 1, o ++ [s1], false, by omega, by go_num, rfl, rfl, ?_, by rw [List.length_append, ← HN.out]; show N + 1 ≤ most; omega, Nat.le_refl _, by omega, HST, HB4.out⟩
                  rw [List.length_append, ← HN.out, List.map_append, ← HX.out]
                  exact HO4.out
                case measure => simp [intOf]; omega
            · have d7 : decide ((1 : Int) < (s : Int)) = false := decide_eq_false (by omega)
              rw [if_neg (by omega)] at hstep
              obtain ⟨t, ht⟩ : ∃ t, t = (s + 1) * wo := ⟨_, rfl⟩
              rw [← ht] at hstep
              have htz : ((s : Int) + 1) * (wo : Int) = (t : Int) := by rw [ht]; simp
              have ht1 : wo ≤ t := by rw [ht]; exact Nat.le_mul_of_pos_left wo (by omega)
              have ht2 : t ≤ 2 * wo := by rw [ht]; exact Nat.mul_le_mul_right wo (by omega)
              obtain ⟨N, hN⟩ : ∃ N, N = o.length := ⟨_, rfl⟩
              by_cases e4 : most < o.length + t
              · rw [if_pos e4] at hstep
                have HPE := Lib.hid fun w5 (h5 : Below w.heap.size w w5) => HP.out (.slice none 0 0) _ w5 hstep (World.ownsRow_nil _ _ _ _) h5
                have HNO := Lib.hid (noughts_no wr A0 o.length c0 t most e4 (by omega) (by omega) (by omega))
                clear hstep HP HANS hdec hN ht
                go_wp2_with fail
                refine HNO.out.mono ?_
                rintro e w5 ⟨rfl, rfl⟩
                have HPE2 := Lib.hid (HPE.out _ HB.out)
                clear HPE
                go_wp2_with fail
                exact HPE2.out
              · rw [if_neg e4] at hstep
                have HST := Lib.hid hstep
                have HYE := Lib.hid (noughts_yes wr w.heap.size _ o t most HO.out (by omega) (by omega) (by omega) hz9)
                have hlen : (o ++ List.replicate t 0).length = o.length + t := by rw [List.length_append, List.length_replicate]
                have HLEN := Lib.hid hlen
                have hol2 : o.length + t ≤ most := by omega
                obtain ⟨wo2, hwo2⟩ : ∃ wo2, wo2 = wo * 2 := ⟨_, rfl⟩
                have hwz : (wo : Int) * 2 = (wo2 : Int) := by omega
                have hww2 : IntKind.i64.wrap (wo2 : Int) = (wo2 : Int) := by rw [IntKind.wrap_i64]; omega
                rw [← hwo2] at HST
                have hwo3 : wo2 ≤ 2 * (o.length + t) + 1 := by omega
                have hwo4 : 1 ≤ wo2 := by omega
                clear hstep hdec hN ht hlen hwo2
                go_wp2_with fail
                refine HYE.out.mono ?_
                rintro e w5 ⟨v5, rfl, ho5, hb5⟩
                have HO5 := Lib.hid ho5
                have HB5 := Lib.hid (HB.out.trans hb5)
                clear ho5 hb5
                go_wp2_with fail
                go_roundw
                case rel => exact ⟨q + 1, wo2, o ++ List.replicate t 0, false, by omega, by go_num, rfl, rfl, HO5.out, by rw [HLEN.out]; exact hol2, hwo4, by rw [HLEN.out]; exact hwo3, HST, HB5.out⟩
                case measure => simp [intOf]; omega
    · obtain rfl : q = m := by omega
      have dq : decide ((q : Int) < (q : Int)) = false := decide_eq_false (by omega)
      have hend := hdec.out
      rw [List.drop_of_length_le (Nat.le_of_eq HLM.out)] at hend
      cases ended with
      | true =>
        have HPE := Lib.hid (HP.out _ (o, 0) wr hend hown HB.out)
        clear hend HP HANS hdec hown hb
        go_wp2_with fail
        exact HPE.out
      | false =>
        have HPE := Lib.hid (HP.out (.slice none 0 0) ([], 70) wr hend (World.ownsRow_nil _ _ _ _) HB.out)
        clear hend HP HANS hdec hown hb
        go_wp2_with fail
        exact HPE.out

theorem rdec_all (w : World) (A : Option Addr) (m c : Nat) (L : List Int) (n most : Int) (hL : ZIn w A m L) (hmc : m ≤ c) (hm : m ≤ 2000000) : Calls Try.prog 15 #[.int .i64 n, .int .i64 most, .slice A m c] w (ListPost w (decAns n most L)) := by
  by_cases h : n < 1 ∨ 256 < n ∨ most < 0 ∨ 262144 < most
  · rw [show decAns n most L = ([], 2) from if_pos h]
    exact rdec_out w A m c n most h
  · obtain ⟨k, rfl⟩ : ∃ k : Nat, n = k := ⟨n.toNat, by omega⟩
    obtain ⟨j, rfl⟩ : ∃ j : Nat, most = j := ⟨most.toNat, by omega⟩
    rw [show decAns (k : Int) (j : Int) L = decZ k j L [] 1 false by unfold decAns; rw [if_neg h, Int.toNat_natCast, Int.toNat_natCast]]
    exact rdec_any w A m c L k j hL hmc hm (by omega) (by omega) (by omega)

end Go.Proofs.Ytdlndcjiccfhgaa
