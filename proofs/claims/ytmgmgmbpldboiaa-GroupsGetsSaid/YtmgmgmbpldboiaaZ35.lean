/- Xk Grv: texts laid together, what is not used left out. -/
import Derived.Test.YtmgmgmbpldboiaaZ34
import Derived.Test.YtmgmgmbpldboiaaZ25
import Derived.Lib.OwnKind
import Derived.Test.YtmgmgmbpldboiaaZ23
import Derived.Test.YtmgmgmbpldboiaaZ13
import Derived.Test.YtmgmgmbpldboiaaZ15
namespace Go.Proofs.Ytmgmgmbpldboiaa
open Go.RowKit

set_option maxRecDepth 100000 in
theorem own_apart {w : World} {B e n p : Nat} {v : Value} {xs : List Value} {u : TypeId} {ds : Array Value} (h : w.ownsRow B e 1 v n xs) (k : Blk w p u ds) (hne : e ≠ u) : ∀ j, v.ownBlock = some j → j ∉ [p] := by
  intro j hj hm
  rw [List.mem_singleton] at hm
  subst hm
  obtain ⟨c1, f1, e1⟩ := Lib.ownsRow_kind h j hj
  unfold Blk at k
  rw [e1] at k
  simp only [Option.some.injEq, Obj.cells.injEq] at k
  exact hne k.2.1

set_option maxHeartbeats 3200000 in
set_option maxRecDepth 100000 in
theorem call_any (w : World) (A : Option Addr) (n c : Nat) (L : List Int) (s : ByteArray) (at' k en : Int) (hL : ZIn w A n L) (hn : n ≤ maxLen) (hs : s.size ≤ 2000000) (_ : -9223372036854775808 ≤ at') (_ : at' ≤ 9223372036854775807) (_ : -9223372036854775808 ≤ k) (_ : k ≤ 9223372036854775807) (_ : -9223372036854775808 ≤ en) (_ : en ≤ 9223372036854775807) :
    Calls Try.prog 28 #[.slice A n c, .string s, .int .i64 at', .int .i64 k, .int .i64 en] w (AllPost w (allAns L (bitsB s.data.toList) at' k en)) := by
  have hz := zeroTb.1
  rw [show tb (.slice none 0 0) (fun _ => 0) (fun _ => 0) (fun _ => 0) (.slice none 0 0) = tb0 from rfl] at hz
  have HST := Lib.hid tab_stored
  have HDL := Lib.hid (dec_len s)
  have HP : Hid (∀ (v : Value) (a : List Nat × Nat × Nat) (w' : World), allAns L (bitsB s.data.toList) at' k en = a → w'.ownsRow w.heap.size 3 1 v a.1.length (a.1.map iv) → Below w.heap.size w w' → AllPost w (allAns L (bitsB s.data.toList) at' k en) (.returned (.tuple #[v, .int .i64 a.2.1, .int .i64 a.2.2])) w') := Lib.hid fun v a w' h1 h2 h3 => ⟨v, by rw [h1], by rw [h1]; exact h2, h3⟩
  by_cases h : LenOk L
  · have HT := Lib.hid (tableOf_yes w A n c L hL hn h)
    have hans : allAns L (bitsB s.data.toList) at' k en = (if at' < 0 ∨ (8 * (s.size : Int)) < at' ∨ k < 0 then ([], 0, 2) else allF (nl L) (bitsB s.data.toList) en k.toNat at'.toNat []) := by
      rw [allAns, if_pos h, HDL.out]
      rfl
    generalize AllPost w (allAns L (bitsB s.data.toList) at' k en) = PO at *
    generalize allAns L (bitsB s.data.toList) at' k en = ans at *
    have HO := Lib.hid tb0_size
    have HLN := Lib.hid hL.1
    have HK := Lib.hid h
    have HTS := Lib.hid fun (K F P : Nat → Nat) (s4 : Value) => tb_size (.slice A n c) K F P s4
    have HIS := Lib.hid tab_is
    have HANS := Lib.hid hans
    obtain ⟨i3, h3, hz0, hz1, hz2⟩ := info_parts Try.info3
    clear hL h hans
    go_enter Try.func28, Try.ntmps28
    generalize tb0 = Z at *
    go_wp2_with fail
    refine HT.out.mono ?_
    rintro e w2 ⟨g, F, rfl, hrow, hsym, hb⟩
    obtain ⟨T9, hT9⟩ : ∃ T9, T9 = tb (.slice A n c) (cntL (nl L)) (fun k => cd (nl L) k 0) (plcL (nl L)) (.slice (some ⟨g, 0, none⟩) n n) := ⟨_, rfl⟩
    have hs9 : T9.size = 65 := by rw [hT9, HTS.out]
    have ho9 : T9.all (·.oneCell') = true := by rw [hT9]; exact tb_one _ _ _ _ _ rfl rfl
    obtain ⟨hst, hk3, hb3⟩ := HST.out w2 T9 hs9 ho9
    have hT3 := HIS.out w2 _ A n c g _ _ F T9 hT9 hk3 hb3 hrow hsym
    have HB3 := Lib.hid (hb.trans (hb3.mono hb.size))
    have HT3 := Lib.hid hT3
    rw [← hT9]
    clear hT9 ho9 hk3 hb3 hT3 hrow hsym hb HT
    go_upto_region 2 with fail
    generalize (w2.alloc (.cells Z 98)).setRow w2.heap.size T9 = w3 at *
    generalize w2.heap.size = g2 at *
    clear hst hz
    by_cases hbad : at' < 0 ∨ (8 * (s.size : Int)) < at'
    · have HNR := Lib.hid (newR_none w3 s at' (by omega) hbad)
      have ha := HANS.out
      rw [if_pos (by omega)] at ha
      have HPE := Lib.hid (HP.out (.slice none 0 0) _ w3 ha (World.ownsRow_nil _ _ _ _) HB3.out)
      clear ha hbad
      go_wp2_with fail
      refine HNR.out.mono ?_
      rintro e w4 ⟨rfl, rfl⟩
      go_wp2_with fail
      first | exact HPE.out | (go_ret3; exact HPE.out)
    · obtain ⟨a0, rfl⟩ : ∃ a0 : Nat, at' = a0 := ⟨at'.toNat, by omega⟩
      have ha8 : a0 ≤ 8 * s.size := by omega
      have HNR := Lib.hid (newR_yes w3 s a0 (by omega) (by omega) (by omega))
      by_cases hk0 : k < 0
      · have dk : decide (k < 0) = true := decide_eq_true hk0
        have ha := HANS.out
        rw [if_pos (by omega)] at ha
        have HA := Lib.hid ha
        clear ha hbad HANS
        go_wp2_with fail
        refine HNR.out.mono ?_
        rintro e w4 ⟨rfl, hw4⟩
        have hb4 : Below w3.heap.size w3 w4 := by rw [hw4]; exact (Below.refl _ _).alloc (Nat.le_refl _) _
        have HPE := Lib.hid (HP.out (.slice none 0 0) _ w4 HA.out (World.ownsRow_nil _ _ _ _) (HB3.out.trans (hb4.mono HB3.out.size)))
        clear hw4 hb4
        go_wp2_with fail
        first | exact HPE.out | (go_ret3; exact HPE.out)
      · obtain ⟨k0, rfl⟩ : ∃ k0 : Nat, k = k0 := ⟨k.toNat, by omega⟩
        have dk : decide ((k0 : Int) < 0) = false := decide_eq_false hk0
        have ha := HANS.out
        rw [if_neg (by omega), Int.toNat_natCast, Int.toNat_natCast] at ha
        have HA := Lib.hid ha
        have hk0b : k0 ≤ 9223372036854775807 := by omega
        clear ha hbad HANS hk0
        go_wp2_with fail
        refine HNR.out.mono ?_
        rintro e w4 ⟨rfl, hw4⟩
        have hb4 : Below w3.heap.size w3 w4 := by rw [hw4]; exact (Below.refl _ _).alloc (Nat.le_refl _) _
        have hR4 : IsR w3.heap.size w4 w3.heap.size s a0 := by rw [hw4]; exact isR_new w3 _ (Nat.le_refl _) s a0
        have hlt4 : w3.heap.size < w4.heap.size := by rw [hw4]; simp
        have HB4 := Lib.hid hb4
        have HR4 := Lib.hid hR4
        have HNX := Lib.hid cnext_any
        clear hw4 hb4 hR4 HNR
        obtain ⟨l, hl⟩ : ∃ l, l = nl L := ⟨_, rfl⟩
        rw [← hl] at HA
        have HL := Lib.hid hl
        have HFIT : Hid (Fits l) := Lib.hid (by rw [hl]; exact fits_of HK.out)
        obtain ⟨bs, hbs⟩ : ∃ bs, bs = bitsB s.data.toList := ⟨_, rfl⟩
        rw [← hbs] at HA
        have HBS := Lib.hid hbs
        have HBL : Hid (bs.length = 8 * s.size) := Lib.hid (by rw [hbs]; exact HDL.out)
        clear hl hbs
        obtain ⟨p, hp⟩ : ∃ p, p = w3.heap.size := ⟨_, rfl⟩
        rw [← hp] at HR4 hlt4 ⊢
        have HPS := Lib.hid hp
        clear hp
        go_wp2_with fail
        go_loopw [16, 17, 18] (fun lv sv ev wx => ∃ (a : Nat) (o : List Nat), a ≤ 8 * s.size ∧ o.length ≤ k0 ∧ o.length ≤ a ∧ Hid (ans = allF l bs en (k0 - o.length) a o) ∧ wx.ownsRow p 3 1 lv o.length (o.map iv) ∧ IsR p wx p s a ∧ Below w3.heap.size w3 wx ∧ p < wx.heap.size) (fun lv _ _ wx => k0 - (match lv with | .slice _ n _ => n | _ => 0))
        case atStart => exact ⟨a0, [], ha8, Nat.zero_le _, Nat.zero_le _, HA, World.ownsRow_nil _ _ _ _, HR4.out, HB4.out, hlt4⟩
        case round =>
          obtain ⟨a, o, ha, hol, hoa, hrel2, hown, hR, hb, hlt⟩ := hrel
          obtain ⟨A0, c5, rfl, hn0, hm0, hA0⟩ := own_slice hown
          clear hA0
          unfold maxLen at hm0
          have HOW := Lib.hid hown
          have HR := Lib.hid hR
          have HB := Lib.hid hb
          have HNX2 := Lib.hid (HNX.out wr g2 p A n c L s a (HT3.out.below hb) HLN.out HK.out hR (by omega) ha)
          rw [← HL.out, ← HBS.out] at HNX2
          obtain ⟨N, hN⟩ : ∃ N, N = o.length := ⟨_, rfl⟩
          have HN := Lib.hid hN
          rw [← hN] at hol hoa hn0 ⊢
          by_cases e : N < k0
          · have d3 : decide ((N : Int) < (k0 : Int)) = true := decide_eq_true (by omega)
            have hstep := hrel2.out
            rw [← hN, show k0 - N = (k0 - N - 1) + 1 by omega, allF_more] at hstep
            cases hx : nextL l (bs.drop a) with
            | hit i =>
              rw [hx] at hstep HNX2
              have his := nextF_is 20 1 (show nextF l (bs.drop a) 20 1 = .hit i from hx)
              have hin := his.2.1
              have hone := HFIT.out.one hin
              have hil : l.length ≤ 258 := by
                have := HK.out.2.1
                rw [HL.out, nl_length]
                exact this
              have hle : a + l.getD i 0 ≤ 8 * s.size := by
                have := his.1
                rw [List.length_drop, HBL.out] at this
                omega
              obtain ⟨a2, ha2⟩ : ∃ a2, a2 = a + l.getD i 0 := ⟨_, rfl⟩
              have hst2 : ans = if (i : Int) = en then (o ++ [i], a2, 0) else allF l bs en (k0 - N - 1) a2 (o ++ [i]) := by rw [hstep, ha2]
              have HST2 := Lib.hid hst2
              rw [← ha2] at hle
              have ha3 : a < a2 := by omega
              have hib : i < 258 := by omega
              have HA2 := Lib.hid ha2
              obtain ⟨X, hX⟩ : ∃ X, X = o.map iv := ⟨_, rfl⟩
              rw [← hX, ← hN] at HOW
              have HX := Lib.hid hX
              clear hstep hst2 his hin hone hil hrel2 hown hb hX hN ha2
              go_wp2_with fail
              refine HNX2.out.mono ?_
              rintro e w5 ⟨rfl, hR5, hS5⟩
              have hR5' := hR5 i rfl
              rw [← HA2.out] at hR5'
              have HR5 := Lib.hid hR5'
              have HB5 := Lib.hid (HB.out.trans (by rw [← HPS.out]; exact hS5.below))
              have HO3 : Hid (w5.ownsRow p 3 1 (.slice A0 N c5) N X) := Lib.hid (hS5.row HOW.out (own_apart HOW.out HR.out.blk (by decide)) List.not_mem_nil)
              have hlt5 : p < w5.heap.size := Nat.lt_of_lt_of_le hlt hS5.size
              clear hR5 hR5' hS5 hR hx HNX2
              simp only [nxV]
              go_wp2_with (at_builtin; refine wpList_append_own _ rfl _ _ 30 rfl p 3 i3 (.int .i64 0) 1 8 Try.underlying30 h3 hz0 hz1 hz2 rfl (by decide) _ _ _ rfl (HO3.out.alloc _) ⟨w5.heap.size, 0, none⟩ 1 1 [.int .i64 i] rfl rfl ?c1 ?c2 ?c3 ?c4 ?c5 ?_)
              case c1 => exact cell_one _ _ _
              case c2 => intro u hu; simp at hu; subst hu; rfl
              case c3 => unfold maxLen; omega
              case c4 => omega
              case c5 => simp; omega
              intro v6 w6 hown6 hgrow6 _
              have hb6 : Below w3.heap.size w3 w6 := (HB5.out.alloc (by have := HB5.out.size; exact this) _).grown hgrow6 (by simp; have := HPS.out; omega) (fun k hk => by have := (HO3.out.lt k hk).1; have := HPS.out; omega)
              have hR6 : IsR p w6 p s a2 := ⟨Nat.le_refl _, blk_grown HR5.out.blk HO3.out (by decide) hgrow6⟩
              have hsz6 : p < w6.heap.size := Nat.lt_of_lt_of_le hlt5 (by have := hgrow6.size; simp at this; omega)
              obtain ⟨A6, c6, rfl, hn6, hm6, _⟩ := own_slice hown6
              have HO6 := Lib.hid hown6
              have HB6 := Lib.hid hb6
              have HR6 := Lib.hid hR6
              have HSZ6 := Lib.hid hsz6
              clear hown6 hgrow6 hb6 hR6 hsz6
              by_cases een : (i : Int) = en
              · have d4 : ((i : Int) == en) = true := by rw [een]; exact beq_self_eq_true _
                have hans2 := HST2.out
                rw [if_pos een] at hans2
                have c0 : w6.cell? ⟨p, 0, none⟩ = some (.bool true) := blk_cell HR6.out.blk 0
                have c2 : w6.cell? ⟨p, 2, none⟩ = some (.int .i64 (a2 : Nat)) := blk_cell HR6.out.blk 2
                have HAT := Lib.hid (rat_yes w6 p (a2 : Nat) c0 c2)
                have hpe := HP.out (.slice A6 (N + 1) c6) (o ++ [i], a2, 0) w6 hans2 (by
                  rw [List.length_append, ← HN.out, List.map_append, ← HX.out]
                  exact World.ownsRow.mono HO6.out (by rw [HPS.out]; exact HB3.out.size)) (HB3.out.trans (HB6.out.mono HB3.out.size))
                have HPE := Lib.hid hpe
                subst een
                clear hans2 c0 c2 hpe HST2 HP HA
                go_wp2_with fail
                refine HAT.out.mono ?_
                rintro e w7 ⟨rfl, rfl⟩
                go_wp2_with fail
                first | exact HPE.out | (go_ret3; exact HPE.out)
              · have d4 : ((i : Int) == en) = false := by
                  rw [beq_eq_false_iff_ne]
                  exact een
                have hans2 := HST2.out
                rw [if_neg een] at hans2
                have HA3 := Lib.hid hans2
                clear hans2 HST2 een
                go_wp2_with fail
                go_roundw
                case rel =>
                  refine ⟨a2, o ++ [i], hle, by rw [List.length_append, ← HN.out]; show N + 1 ≤ k0; omega, by rw [List.length_append, ← HN.out]; show N + 1 ≤ a2; omega, Lib.hid ?_, ?_, HR6.out, HB6.out, HSZ6.out⟩
                  · rw [List.length_append, ← HN.out, show k0 - (N + [i].length) = k0 - N - 1 by simp; omega]
                    exact HA3.out
                  · rw [List.length_append, ← HN.out, List.map_append, ← HX.out]
                    exact HO6.out
                case measure => simp; omega
            | short =>
              rw [hx] at hstep HNX2
              have HST2 := Lib.hid hstep
              clear hstep hx hrel2 hown hb hR hN
              go_wp2_with fail
              refine HNX2.out.mono ?_
              rintro e w5 ⟨rfl, hR5, hS5⟩
              have HPE := Lib.hid (HP.out (.slice none 0 0) _ w5 HST2.out (World.ownsRow_nil _ _ _ _) (HB3.out.trans ((HB.out.trans (by rw [← HPS.out]; exact hS5.below)).mono HB3.out.size)))
              clear hR5 hS5 HNX2
              simp only [nxV]
              go_wp2_with fail
              first | exact HPE.out | (go_ret3; exact HPE.out)
            | code =>
              rw [hx] at hstep HNX2
              have HST2 := Lib.hid hstep
              clear hstep hx hrel2 hown hb hR hN
              go_wp2_with fail
              refine HNX2.out.mono ?_
              rintro e w5 ⟨rfl, hR5, hS5⟩
              have HPE := Lib.hid (HP.out (.slice none 0 0) _ w5 HST2.out (World.ownsRow_nil _ _ _ _) (HB3.out.trans ((HB.out.trans (by rw [← HPS.out]; exact hS5.below)).mono HB3.out.size)))
              clear hR5 hS5 HNX2
              simp only [nxV]
              go_wp2_with fail
              first | exact HPE.out | (go_ret3; exact HPE.out)
          · have d3 : decide ((N : Int) < (k0 : Int)) = false := decide_eq_false (by omega)
            have hend := hrel2.out
            rw [← hN, show k0 - N = 0 by omega] at hend
            have hend2 : ans = (o, a, 0) := hend
            have hpe := HP.out (.slice A0 o.length c5) (o, a, 0) wr hend2 (World.ownsRow.mono HOW.out (by rw [HPS.out]; exact HB3.out.size)) (HB3.out.trans (HB.out.mono HB3.out.size))
            rw [← hN] at hpe
            have HPE := Lib.hid hpe
            have c0 : wr.cell? ⟨p, 0, none⟩ = some (.bool true) := blk_cell HR.out.blk 0
            have c2 : wr.cell? ⟨p, 2, none⟩ = some (.int .i64 (a : Nat)) := blk_cell HR.out.blk 2
            have HAT := Lib.hid (rat_yes wr p (a : Nat) c0 c2)
            clear hend hend2 hpe hrel2 hown hb hR hN c0 c2
            go_wp2_with fail
            refine HAT.out.mono ?_
            rintro e w7 ⟨rfl, rfl⟩
            go_wp2_with fail
            first | exact HPE.out | (go_ret3; exact HPE.out)
  · have HT := Lib.hid (tableOf_no w A n c L hL hn h)
    have hans : allAns L (bitsB s.data.toList) at' k en = ([], 0, 80) := by rw [allAns, if_neg h]
    generalize AllPost w (allAns L (bitsB s.data.toList) at' k en) = PO at *
    generalize allAns L (bitsB s.data.toList) at' k en = ans at *
    have HO := Lib.hid tb0_size
    have HONE := Lib.hid tb0_one
    have HANS := Lib.hid hans
    clear hL h hans
    go_enter Try.func28, Try.ntmps28
    generalize tb0 = Z at *
    go_wp2_with fail
    refine HT.out.mono ?_
    rintro e w2 ⟨rfl, hb⟩
    have hs9 : Z.size = 65 := HO.out
    obtain ⟨hst, hk3, hb3⟩ := HST.out w2 Z hs9 HONE.out
    have HPE := Lib.hid (HP.out (.slice none 0 0) _ _ HANS.out (World.ownsRow_nil _ _ _ _) (hb.trans (hb3.mono hb.size)))
    clear hk3 hb3 hb HT
    go_wp2_with fail
    first | exact HPE.out | (go_ret3; exact HPE.out)

end Go.Proofs.Ytmgmgmbpldboiaa
namespace Go.Proofs.Ytmgmgmbpldboiaa
open Go.RowKit

theorem gall_small (l bs : List Nat) (en : Int) (h : Fits l) : ∀ (k a : Nat) (o : List Nat), o.length ≤ a → a ≤ bs.length → (allF l bs en k a o).1.length ≤ bs.length ∧ (allF l bs en k a o).2.1 ≤ bs.length ∧ (allF l bs en k a o).2.2 ≤ 90
  | 0, a, o, h1, h2 => ⟨Nat.le_trans h1 h2, h2, Nat.zero_le _⟩
  | k + 1, a, o, h1, h2 => by
    rw [allF_more]
    cases hx : nextL l (bs.drop a) with
    | hit i =>
      have his := nextF_is 20 1 (show nextF l (bs.drop a) 20 1 = .hit i from hx)
      have h3 := (h.one his.2.1).1
      have h4 := his.1
      rw [List.length_drop] at h4
      have h5 : (o ++ [i]).length ≤ a + l.getD i 0 := by rw [List.length_append]; show o.length + 1 ≤ _; omega
      show (if (i : Int) = en then (o ++ [i], a + l.getD i 0, 0) else allF l bs en k (a + l.getD i 0) (o ++ [i])).1.length ≤ _ ∧ (if (i : Int) = en then (o ++ [i], a + l.getD i 0, 0) else allF l bs en k (a + l.getD i 0) (o ++ [i])).2.1 ≤ _ ∧ (if (i : Int) = en then (o ++ [i], a + l.getD i 0, 0) else allF l bs en k (a + l.getD i 0) (o ++ [i])).2.2 ≤ _
      by_cases e : (i : Int) = en
      · rw [if_pos e]
        exact ⟨by show (o ++ [i]).length ≤ _; omega, by show a + l.getD i 0 ≤ _; omega, Nat.zero_le _⟩
      · rw [if_neg e]
        exact gall_small l bs en h k _ _ h5 (by omega)
    | short => exact ⟨Nat.zero_le _, Nat.zero_le _, by show 10 ≤ 90; omega⟩
    | code => exact ⟨Nat.zero_le _, Nat.zero_le _, Nat.le_refl _⟩

set_option maxRecDepth 100000 in
/-- What a group's symbols make of what is read. -/
theorem getF_group (T : List (List Nat)) (P bits : List Nat) (n0 g r : Nat) (pre : List Nat) (hn0 : 1 ≤ n0) : ∀ (k a : Nat) (out : List Nat), k ≤ 50 → (∀ x ∈ out, x + 1 ≠ n0) →
    ((allF (T.getD (P.getD g 0) []) bits (n0 - 1 : Nat) k a out).2.2 ≠ 0 ∧ getF T P bits n0 (k + r) (50 * g + (50 - k)) a (pre ++ out) = ([], 0, (allF (T.getD (P.getD g 0) []) bits (n0 - 1 : Nat) k a out).2.2)) ∨
    ((allF (T.getD (P.getD g 0) []) bits (n0 - 1 : Nat) k a out).2.2 = 0 ∧ (∃ o, (allF (T.getD (P.getD g 0) []) bits (n0 - 1 : Nat) k a out).1 = o ++ [n0 - 1]) ∧ getF T P bits n0 (k + r) (50 * g + (50 - k)) a (pre ++ out) = (pre ++ (allF (T.getD (P.getD g 0) []) bits (n0 - 1 : Nat) k a out).1, (allF (T.getD (P.getD g 0) []) bits (n0 - 1 : Nat) k a out).2.1, 0)) ∨
    ((allF (T.getD (P.getD g 0) []) bits (n0 - 1 : Nat) k a out).2.2 = 0 ∧ (∀ x ∈ (allF (T.getD (P.getD g 0) []) bits (n0 - 1 : Nat) k a out).1, x + 1 ≠ n0) ∧ (allF (T.getD (P.getD g 0) []) bits (n0 - 1 : Nat) k a out).1.length = out.length + k ∧ getF T P bits n0 (k + r) (50 * g + (50 - k)) a (pre ++ out) = getF T P bits n0 r (50 * g + 50) (allF (T.getD (P.getD g 0) []) bits (n0 - 1 : Nat) k a out).2.1 (pre ++ (allF (T.getD (P.getD g 0) []) bits (n0 - 1 : Nat) k a out).1))
  | 0, a, out, _, ho => .inr (.inr ⟨rfl, ho, rfl, by rw [Nat.zero_add, Nat.sub_zero]; rfl⟩)
  | k + 1, a, out, hk, ho => by
    have hi : (50 * g + (50 - (k + 1))) / 50 = g := by omega
    rw [allF_more, show k + 1 + r = (k + r) + 1 by omega, getF_more, hi]
    cases hx : nextL (T.getD (P.getD g 0) []) (bits.drop a) with
    | hit x =>
      dsimp only
      by_cases e : x + 1 = n0
      · have e1 : ((x : Int) = ((n0 - 1 : Nat) : Int)) := by omega
        rw [if_pos e1, if_pos e]
        refine .inr (.inl ⟨rfl, ⟨out, ?_⟩, ?_⟩)
        · rw [show n0 - 1 = x by omega]
        · simp
      · have e1 : ¬ ((x : Int) = ((n0 - 1 : Nat) : Int)) := by omega
        rw [if_neg e1, if_neg e]
        have ih := getF_group T P bits n0 g r pre hn0 k (a + (T.getD (P.getD g 0) []).getD x 0) (out ++ [x]) (by omega) (fun y hy => by
          rcases List.mem_append.1 hy with hy | hy
          · exact ho y hy
          · rw [List.mem_singleton.1 hy]
            exact e)
        rw [show 50 * g + (50 - (k + 1)) + 1 = 50 * g + (50 - k) by omega, List.append_assoc]
        rcases ih with ⟨h1, h2⟩ | ⟨h1, h2, h3⟩ | ⟨h1, h2, h3, h4⟩
        · exact .inl ⟨h1, h2⟩
        · exact .inr (.inl ⟨h1, h2, h3⟩)
        · exact .inr (.inr ⟨h1, h2, by rw [h3, List.length_append, List.length_singleton]; omega, h4⟩)
    | short => exact .inl ⟨by show (10 : Nat) ≠ 0; omega, rfl⟩
    | code => exact .inl ⟨by show (90 : Nat) ≠ 0; omega, rfl⟩

set_option maxHeartbeats 3200000 in
set_option maxRecDepth 100000 in
theorem cget_bad (w : World) (v : Value) (T : List (List Int)) (P : List Int) (h : PlanIn w v T P) (s : ByteArray) (at' : Int) (hM : ¬ MayPlan T P) :
    Calls Try.prog 12 #[v, .string s, .int .i64 at'] w (AllPost w (getG T P (bitsB s.data.toList) at')) := by
  rw [show getG T P (bitsB s.data.toList) at' = ([], 0, 110) from if_neg hM]
  obtain ⟨A, q, c, B, m, d, rfl, _⟩ := id h
  have hb1 : Below w.heap.size w (w.alloc (.cells #[.slice A q c, .slice B m d] 32)) := (Below.refl _ _).alloc (Nat.le_refl _) _
  have hk1 := blk_new w 32 #[.slice A q c, .slice B m d]
  have HM := Lib.hid (cmay_any _ _ T P (h.below hb1))
  rw [decide_eq_false hM] at HM
  have HB1 := Lib.hid hb1
  have HK1 := Lib.hid hk1
  have HPO : Hid (∀ w', Below w.heap.size w w' → AllPost w ([], 0, 110) (.returned (.tuple #[.slice none 0 0, .int .i64 0, .int .i64 110])) w') := Lib.hid fun w' hb => ⟨_, rfl, World.ownsRow_nil _ _ _ _, hb⟩
  generalize AllPost w ([], 0, 110) = PO at *
  clear h hM hb1 hk1
  go_enter Try.func12, Try.ntmps12
  go_upto_region 1 with fail
  generalize w.alloc (.cells #[.slice A q c, .slice B m d] 32) = w1 at *
  have p0 : w1.cell? ⟨w.heap.size, 0, none⟩ = some (.slice A q c) := (blk_cell HK1.out 0).trans rfl
  have p1 : w1.cell? ⟨w.heap.size, 1, none⟩ = some (.slice B m d) := (blk_cell HK1.out 1).trans rfl
  go_wp2_with fail
  refine HM.out.mono ?_
  rintro e w2 ⟨rfl, hb2⟩
  have HE := Lib.hid (HPO.out w2 (HB1.out.trans (hb2.mono HB1.out.size)))
  clear hb2 HPO HB1 HK1 HM
  go_wp2_with fail
  first | go_ret3 | skip
  exact HE.out

end Go.Proofs.Ytmgmgmbpldboiaa
