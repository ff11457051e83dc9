/- The reference of symbols, walked: Back. Conditions: at most a million numbers, and bytes. -/
import Derived.Test.YtcmhcfbmjceioaaJe
import Derived.Test.YtcmhcfbmjceioaaRt
namespace Go.Proofs.Ytcmhcfbmjceioaa
open Go.RowKit

/-- A slice of whole numbers that is read. -/
def ZIn (w : World) (A : Option Addr) (n : Nat) (L : List Int) : Prop :=
  L.length = n ∧ (0 < n → ∃ b off, A = some ⟨b, off, none⟩ ∧ ∀ i, i < n → w.cell? ⟨b, off + i, none⟩ = some (.int .i64 (L.getD i 0)))
theorem ZIn.below {w w' : World} {A : Option Addr} {n : Nat} {L : List Int} (h : ZIn w A n L) (hb : Below w.heap.size w w') : ZIn w' A n L := by
  refine ⟨h.1, fun hn => ?_⟩
  obtain ⟨b, off, rfl, hc⟩ := h.2 hn
  exact ⟨b, off, rfl, fun i hi => (hb.cell (p := ⟨b, off + i, none⟩) (World.block_lt_of_cell? w _ (hc i hi))).trans (hc i hi)⟩
/-- What Back answers. -/
def backAns (l : List Int) (a : List UInt8) : List UInt8 × Nat := if MayL a then (match bytesL l a with | none => ([], 60) | some t => (t, 0)) else ([], 2)

set_option maxHeartbeats 1600000 in
set_option maxRecDepth 100000 in
theorem rback_any (w : World) (A : Option Addr) (n c : Nat) (L : List Int) (a : ByteArray) (hL : ZIn w A n L) (hn : n ≤ 1000000) (ha : a.size ≤ 1000000) :
    Calls Try.prog 17 #[.slice A n c, .string a] w fun e w' => e = .returned (.tuple #[.string (strB (backAns L a.data.toList).1), .int .i64 (backAns L a.data.toList).2]) ∧ Below w.heap.size w w' := by
  obtain ⟨i5, h5, hz0, hz1, hz2⟩ := info_parts Try.info5
  have HM := Lib.hid (may_any w a ha)
  by_cases hm : MayL a.data.toList
  · have d0 : decide (MayL a.data.toList) = true := decide_eq_true hm
    rw [d0] at HM
    have HANS := Lib.hid (show backAns L a.data.toList = (match bytesL L a.data.toList with | none => ([], 60) | some t => (t, 0)) from if_pos hm)
    have HL := Lib.hid hL
    clear d0 hm hL
    generalize backAns L a.data.toList = ans at *
    go_enter Try.func17, Try.ntmps17
    go_wp2_with fail
    refine HM.out.mono ?_
    rintro e w1 ⟨rfl, hb1⟩
    have HB1 := Lib.hid hb1
    have HL1 := Lib.hid (HL.out.below hb1)
    have hz1' := hb1.size
    clear hb1
    go_wp2_with fail
    go_loopw [6, 7, 8] (fun out list i wx => ∃ (q : Nat) (t : ByteArray) (o : List UInt8), q ≤ n ∧ i = .int .i64 q ∧ list = .string t ∧ t.size = a.size ∧ wx.ownsRow w1.heap.size 5 1 out o.length (o.map bv) ∧ o.length = q ∧
      bytesL L a.data.toList = (bytesL (L.drop q) t.data.toList).map (o ++ ·) ∧ Below w1.heap.size w1 wx) (fun _ _ i _ => n - (intOf i).toNat)
    case atStart => exact ⟨0, a, [], Nat.zero_le _, rfl, rfl, rfl, World.ownsRow_nil _ _ _ _, rfl, by simp, Below.refl _ _⟩
    case round =>
      obtain ⟨q, t, o, hq, rfl, rfl, hts, hown, hol, hfr, hb⟩ := hrel
      have hz9 := hb.size
      obtain ⟨A0, c0, rfl, hn0, hm0, hA0⟩ := own_slice hown
      clear hA0
      unfold maxLen at hm0
      have hln := HL1.out.1
      by_cases e : q < n
      · have d1 : decide ((q : Int) < (n : Int)) = true := decide_eq_true (by omega)
        obtain ⟨b, off, rfl, hc⟩ := HL1.out.2 (by omega)
        have hcw := hc q e
        have hlt := World.block_lt_of_cell? w1 _ hcw
        have hdr : L.drop q = L.getD q 0 :: L.drop (q + 1) := by
          rw [List.drop_eq_getElem_cons (by omega), List.getD_eq_getElem?_getD, List.getElem?_eq_getElem (by omega)]
          rfl
        obtain ⟨x, hx⟩ : ∃ x, x = L.getD q 0 := ⟨_, rfl⟩
        rw [← hx] at hcw hdr
        have hcq := (hb.cell (p := ⟨b, off + q, none⟩) hlt).trans hcw
        have HCW := Lib.hid hcw
        rw [hol] at hown hn0 ⊢
        have HOL := Lib.hid hol
        have HB := Lib.hid hb
        have HFR := Lib.hid hfr
        have HTS := Lib.hid hts
        have HDR := Lib.hid hdr
        obtain ⟨X, hX⟩ : ∃ X, X = o.map bv := ⟨_, rfl⟩
        rw [← hX] at hown
        have HX := Lib.hid hX
        have HO := Lib.hid hown
        obtain ⟨m, hm⟩ : ∃ m, m = a.size := ⟨_, rfl⟩
        have htm : t.size = m := hts.trans hm.symm
        clear hX hown hol hb hfr hts hdr hc hx hln hcw
        by_cases e1 : 0 ≤ x ∧ x < m
        · obtain ⟨p, rfl⟩ : ∃ p : Nat, x = p := ⟨x.toNat, by omega⟩
          have hpm : p < m := by omega
          have hpt : p < t.size := by omega
          have d2 : decide ((p : Int) < 0) = false := decide_eq_false (by omega)
          have d3 : decide ((m : Int) ≤ (p : Int)) = false := decide_eq_false (by omega)
          have hnp : ¬ m ≤ p := by omega
          have htu := fun w9 : World => turned_any w9 t p hpt (by omega)
          have hby := getD_byte t p hpt
          have hnx : bytesL L a.data.toList = (bytesL (L.drop (q + 1)) (turnL t.data.toList p)).map ((o ++ [t[p]]) ++ ·) := by
            rw [HFR.out, HDR.out, bytesL, if_pos ⟨e1.1, by rw [show t.data.toList.length = m from htm]; exact e1.2⟩, Int.toNat_natCast, hby, Option.map_map]
            congr 1
            funext l
            simp
          have htl : (turnL t.data.toList p).length = t.size := turnL_length _ p hpt
          have HTU := Lib.hid htu
          have HNX := Lib.hid hnx
          obtain ⟨t2, ht2⟩ : ∃ t2, t2 = strB (turnL t.data.toList p) := ⟨_, rfl⟩
          rw [← ht2] at HTU
          have HT2 := Lib.hid (show t2.data.toList = turnL t.data.toList p by rw [ht2]; rfl)
          have HT2S := Lib.hid (show t2.size = a.size by rw [ht2, strB_size, htl, HTS.out])
          clear e1 htu hnx htl ht2 hby
          go_wp2_with (at_builtin; refine wpList_append_own _ rfl _ _ 56 rfl w1.heap.size 5 i5 (.int .u8 0) 1 1 Try.underlying56 h5 hz0 hz1 hz2 rfl (by decide) _ _ _ rfl (HO.out.alloc _) ⟨wr.heap.size, 0, none⟩ 1 1 [.int .u8 (t[p]).toNat] rfl rfl ?c1 ?c2 ?c3 ?c4 ?c5 ?_)
          case c1 => exact cell_one _ _ _
          case c2 => intro u hu; simp at hu; subst hu; rfl
          case c3 => unfold maxLen; omega
          case c4 => omega
          case c5 => simp; omega
          intro v4 w4 hown4 hgrow4 _
          have hb4 : Below w1.heap.size w1 w4 := (HB.out.alloc hz9 _).grown hgrow4 (by simp; omega) (fun k hk => (HO.out.lt k hk).1)
          have hcq4 := (hb4.cell (p := ⟨b, off + q, none⟩) hlt).trans HCW.out
          have HO4 := Lib.hid hown4
          have HB4 := Lib.hid hb4
          clear hown4 hgrow4 hb4
          go_wp2_with fail
          refine (HTU.out w4).mono ?_
          rintro e w5 ⟨rfl, m5, rfl⟩
          have HB5 := Lib.hid (below_drewN HB4.out m5)
          have HO5 := Lib.hid (show (w4.drewN m5).ownsRow w1.heap.size 5 1 v4 (q + 1) (X ++ [.int .u8 (t[p]).toNat]) from HO4.out)
          generalize w4.drewN m5 = w5 at *
          go_wp2_with fail
          go_roundw
          case rel =>
            refine ⟨q + 1, t2, o ++ [t[p]], by omega, by go_num, rfl, HT2S.out, ?_, by rw [List.length_append, HOL.out]; rfl, by rw [HT2.out]; exact HNX.out, HB5.out⟩
            rw [List.length_append, HOL.out, List.map_append, ← HX.out]
            exact HO5.out
          case measure => simp [intOf]; omega
        · have hno : bytesL L a.data.toList = none := by
            rw [HFR.out, HDR.out, bytesL, if_neg (fun h => e1 ⟨h.1, by have := h.2; rw [show t.data.toList.length = m from htm] at this; exact this⟩)]
            rfl
          have hans : ans = ([], 60) := by rw [HANS.out, hno]
          subst hans
          have HBF := Lib.hid (HB1.out.trans (HB.out.mono hz1'))
          clear hno HANS
          by_cases e2 : x < 0
          · have d2 : decide (x < 0) = true := decide_eq_true e2
            clear e1
            go_wp2_with fail
            go_ret2
            exact ⟨rfl, HBF.out⟩
          · obtain ⟨p, rfl⟩ : ∃ p : Nat, x = p := ⟨x.toNat, by omega⟩
            have hnp : m ≤ p := by omega
            have d2 : decide ((p : Int) < 0) = false := decide_eq_false (by omega)
            have d3 : decide ((m : Int) ≤ (p : Int)) = true := decide_eq_true (by omega)
            clear e1 e2
            go_wp2_with fail
            go_ret2
            exact ⟨rfl, HBF.out⟩
      · obtain rfl : q = n := by omega
        have d1 : decide ((q : Int) < (q : Int)) = false := decide_eq_false (by omega)
        have hfin : bytesL L a.data.toList = some o := by
          rw [hfr, List.drop_of_length_le (by omega)]
          simp [bytesL]
        have hans : ans = (o, 0) := by rw [HANS.out, hfin]
        have hcv := conv_row hown
        rw [hol] at hcv ⊢
        subst hans
        have HBF := Lib.hid (HB1.out.trans (hb.mono hz1'))
        clear hfin hb hown hfr hol hts HANS hln
        go_wp2_with fail
        go_ret2
        exact ⟨rfl, HBF.out⟩
  · have d0 : decide (MayL a.data.toList) = false := decide_eq_false hm
    rw [d0] at HM
    have hans : backAns L a.data.toList = ([], 2) := if_neg hm
    rw [hans]
    clear d0 hm hans
    go_enter Try.func17, Try.ntmps17
    go_wp2_with fail
    refine HM.out.mono ?_
    rintro e w1 ⟨rfl, hb1⟩
    have HB1 := Lib.hid hb1
    clear hb1
    go_wp2_with fail
    go_ret2
    exact ⟨rfl, HB1.out⟩

end Go.Proofs.Ytcmhcfbmjceioaa
