/- Back. Conditions: a text and a list of at most a million. -/
import Derived.Test.YtcmhcfbmjceioaaVi
import Derived.Test.YtcmhcfbmjceioaaJf
namespace Go.Proofs.Ytcmhcfbmjceioaa
open Go.RowKit

/-- What the code's Back answers. -/
def BackPost (w : World) (L : List Int) (a : List UInt8) (e : Ending) (w' : World) : Prop := e = .returned (.tuple #[.string (strB (backAns L a).1), .int .i64 (backAns L a).2]) ∧ Below w.heap.size w w'

set_option maxRecDepth 100000 in
theorem cback_no (w : World) (A : Option Addr) (n c : Nat) (L : List Int) (a : ByteArray) (ha : a.size ≤ 1000000) (hm : ¬ MayL a.data.toList) : Calls Try.prog 16 #[.slice A n c, .string a] w (BackPost w L a.data.toList) := by
  have HM := Lib.hid (cmay_any w a ha)
  have d0 : decide (MayL a.data.toList) = false := decide_eq_false hm
  rw [d0] at HM
  have HANS := Lib.hid (show backAns L a.data.toList = ([], 2) from if_neg hm)
  clear d0 hm
  go_enter Try.func16, Try.ntmps16
  go_wp2_with fail
  refine HM.out.mono ?_
  rintro e w1 ⟨rfl, hb1⟩
  have HB1 := Lib.hid hb1
  clear hb1
  go_wp2_with fail
  go_ret2
  refine ⟨?_, HB1.out⟩
  rw [HANS.out]
  rfl

set_option maxHeartbeats 1600000 in
set_option maxRecDepth 100000 in
theorem cback_yes (w : World) (A : Option Addr) (n k : Nat) (L : List Int) (a : ByteArray) (hL : ZIn w A n L) (hnk : n ≤ k) (hn : n ≤ 1000000) (ha : a.size ≤ 1000000) (hm : MayL a.data.toList) :
    Calls Try.prog 16 #[.slice A n k, .string a] w (BackPost w L a.data.toList) := by
  obtain ⟨i5, h5, hz0, hz1, hz2⟩ := info_parts Try.info5
  have hmk : ∀ w1 : World, (Instr.makeSlice 56 (.int .i64 0) (.int .i64 n)).run Try.prog w1 = .ok (.slice (some ⟨w1.heap.size, 0, none⟩) 0 n) (w1.alloc (.cells (madeCells #[.int .u8 0] n) 5)) := by
    intro w1
    have h := run_make (P := Try.prog) w1 56 5 i5 (.int .u8 0) Try.underlying56 h5 hz0 .i64 .i64 (0 : Int) (n : Int) (by omega) (by omega) (by rw [hz2]; omega) (by omega)
    rw [hz1, Int.toNat_natCast, Nat.mul_one] at h
    exact h
  have HMK := Lib.hid hmk
  have HM := Lib.hid (cmay_any w a ha)
  have d0 : decide (MayL a.data.toList) = true := decide_eq_true hm
  rw [d0] at HM
  have HANS := Lib.hid (show backAns L a.data.toList = (match bytesL L a.data.toList with | none => ([], 60) | some t => (t, 0)) from if_pos hm)
  have HL := Lib.hid hL
  have HAL := Lib.hid (show a.data.toList.length = a.size from rfl)
  have HP : Hid (∀ (ans : List UInt8 × Nat) w', backAns L a.data.toList = ans → Below w.heap.size w w' → BackPost w L a.data.toList (.returned (.tuple #[.string (strB ans.1), .int .i64 ans.2])) w') := Lib.hid fun ans w' h1 h2 => ⟨by rw [h1], h2⟩
  clear d0 hm hL hmk
  generalize BackPost w L a.data.toList = PO at *
  generalize backAns L a.data.toList = ans at *
  go_enter Try.func16, Try.ntmps16
  go_wp2_with fail
  refine HM.out.mono ?_
  rintro e w1 ⟨rfl, hb1⟩
  have HB1 := Lib.hid hb1
  have HL1 := Lib.hid (HL.out.below hb1)
  have hz1' := hb1.size
  obtain ⟨c, w2, hconv, hac, hlin, hb2, hsz2⟩ := conv_lin w1 a
  obtain ⟨g, hg⟩ : ∃ g, g = w1.heap.size := ⟨_, rfl⟩
  have hmk2 := HMK.out w2
  rw [← hg] at hconv hlin hsz2
  have HB2 := Lib.hid hb2
  have HLIN := Lib.hid hlin
  have HSZ2 := Lib.hid hsz2
  have HG := Lib.hid hg
  have hg2 : g < w2.heap.size := by omega
  have hz2' : w1.heap.size ≤ w2.heap.size := hb2.size
  clear hb1 hb2 hlin hsz2 hg
  go_wp2_with fail
  clear hconv hmk2
  go_loopw [7, 20] (fun out i wx => ∃ (q : Nat) (t : List UInt8) (o : List UInt8), q ≤ n ∧ i = .int .i64 q ∧ t.length = a.size ∧ LIn wx g t ∧ wx.ownsRow w2.heap.size 5 1 out o.length (o.map bv) ∧ o.length = q ∧
    bytesL L a.data.toList = (bytesL (L.drop q) t).map (o ++ ·) ∧ Below w1.heap.size w1 wx ∧ w2.heap.size ≤ wx.heap.size) (fun _ i _ => n - (intOf i).toNat)
  case atStart =>
    have hm : (madeCells #[.int .u8 0] n).size = n * 1 := by simp [madeCells]
    have hba : Below w2.heap.size w2 (w2.alloc (.cells (madeCells #[.int .u8 0] n) 5)) := (Below.refl _ _).alloc (Nat.le_refl _) _
    exact ⟨0, a.data.toList, [], Nat.zero_le _, rfl, rfl, HLIN.out.below hba hg2, World.ownsRow_made w2 (madeCells #[.int .u8 0] n) n (Nat.le_refl _) (by unfold maxLen; omega) hm, rfl, by simp, HB2.out.trans (hba.mono hz2'), hba.size⟩
  case round =>
    obtain ⟨q, t, o, hq, rfl, htl, hlt, hown, hol, hfr, hb, hz9⟩ := hrel
    obtain ⟨A0, c0, rfl, hn0, hm0, hA0⟩ := own_slice hown
    clear hA0
    unfold maxLen at hm0
    have hln := HL1.out.1
    by_cases e : q < n
    · have d1 : decide ((q : Int) < (n : Int)) = true := decide_eq_true (by omega)
      obtain ⟨b, off, rfl, hc⟩ := HL1.out.2 (by omega)
      have hcw := hc q e
      have hlt' := World.block_lt_of_cell? w1 _ hcw
      have hdr : L.drop q = L.getD q 0 :: L.drop (q + 1) := by
        rw [List.drop_eq_getElem_cons (by omega), List.getD_eq_getElem?_getD, List.getElem?_eq_getElem (by omega)]
        rfl
      obtain ⟨x, hx⟩ : ∃ x, x = L.getD q 0 := ⟨_, rfl⟩
      rw [← hx] at hcw hdr
      have hcq := (hb.cell (p := ⟨b, off + q, none⟩) hlt').trans hcw
      have HCW := Lib.hid hcw
      rw [hol] at hown hn0 ⊢
      have HOL := Lib.hid hol
      have HB := Lib.hid hb
      have HFR := Lib.hid hfr
      have HTL := Lib.hid htl
      have HLT := Lib.hid hlt
      have HDR := Lib.hid hdr
      obtain ⟨X, hX⟩ : ∃ X, X = o.map bv := ⟨_, rfl⟩
      rw [← hX] at hown
      have HX := Lib.hid hX
      have HO := Lib.hid hown
      have htm : t.length = a.size := htl
      clear hX hown hol hb hfr htl hlt hdr hc hx hln hcw
      by_cases e1 : 0 ≤ x ∧ x < a.size
      · obtain ⟨p, rfl⟩ : ∃ p : Nat, x = p := ⟨x.toNat, by omega⟩
        have hpm : p < a.size := by omega
        have d2 : decide ((p : Int) < 0) = false := decide_eq_false (by omega)
        have d3 : decide ((a.size : Int) ≤ (p : Int)) = false := decide_eq_false (by omega)
        have hnp : ¬ a.size ≤ p := by omega
        have hgI : w1.heap.size ≤ g := by rw [HG.out]; exact Nat.le_refl _
        have HTU := Lib.hid (fun w9 (h9 : LIn w9 g t) => mtf_any w1.heap.size w9 g a.size c t p hgI h9 htm hac hpm (by omega))
        have hnx : bytesL L a.data.toList = (bytesL (L.drop (q + 1)) (turnL t p)).map ((o ++ [t.getD p 0]) ++ ·) := by
          rw [HFR.out, HDR.out, bytesL, if_pos ⟨e1.1, by rw [htm]; exact e1.2⟩, Int.toNat_natCast, Option.map_map]
          congr 1
          funext l
          simp
        have HNX := Lib.hid hnx
        have HTL2 := Lib.hid (show (turnL t p).length = a.size from (turnL_length _ p (by omega)).trans HTL.out)
        have hlt2 : (turnL t p).length = a.size := (turnL_length _ p (by omega)).trans htm
        obtain ⟨x, hx⟩ : ∃ x, x = t.getD p 0 := ⟨_, rfl⟩
        have HXX := Lib.hid hx
        have hmI : (0 : Int) < (a.size : Int) := by omega
        clear e1 hnx hx hlt2
        go_wp2_with fail
        refine (HTU.out wr HLT.out).mono ?_
        rintro e w3 ⟨rfl, hlt3, hst3⟩
        have ho3 := hst3.row HO.out (fun k hk => by have := (HO.out.lt k hk).1; simp; omega) (by simp)
        have hz3 : w2.heap.size ≤ w3.heap.size := Nat.le_trans hz9 hst3.size
        have hb3 := HB.out.trans hst3.below
        have HB3 := Lib.hid hb3
        have hcq3 := (hb3.cell (p := ⟨b, off + q, none⟩) hlt').trans HCW.out
        have hc3 := (hlt3 0 (by rw [turnL_length _ _ (by omega)]; omega)).1
        rw [turnL_zero, ← HXX.out] at hc3
        obtain ⟨y, hy⟩ : ∃ y, y = x.toNat := ⟨_, rfl⟩
        have hbx : bv x = .int .u8 y := by rw [hy]; rfl
        rw [hbx] at hc3
        have HBX := Lib.hid hbx
        have HO3 := Lib.hid ho3
        have HLT3 := Lib.hid hlt3
        clear hlt3 hst3 ho3 hb3 hbx hy
        go_wp2_with (at_builtin; refine wpList_append_own _ rfl _ _ 56 rfl w2.heap.size 5 i5 (.int .u8 0) 1 1 Try.underlying56 h5 hz0 hz1 hz2 rfl (by decide) _ _ _ rfl (HO3.out.alloc _) ⟨w3.heap.size, 0, none⟩ 1 1 [.int .u8 y] rfl rfl ?c1 ?c2 ?c3 ?c4 ?c5 ?_)
        case c1 => exact cell_one _ _ _
        case c2 => intro u hu; simp at hu; subst hu; rfl
        case c3 => unfold maxLen; omega
        case c4 => omega
        case c5 => simp; omega
        intro v4 w4 hown4 hgrow4 _
        have hb4 : Below w2.heap.size w3 w4 := ((Below.refl w2.heap.size w3).alloc hz3 _).grown hgrow4 (by simp; omega) (fun k hk => (HO3.out.lt k hk).1)
        have HO4 := Lib.hid hown4
        have HB4 := Lib.hid (HB3.out.trans (hb4.mono hz2'))
        have HLT4 := Lib.hid (HLT3.out.below hb4 hg2)
        have hz4 : w2.heap.size ≤ w4.heap.size := Nat.le_trans hz3 hb4.size
        clear hown4 hgrow4 hb4
        go_wp2_with fail
        go_roundw
        case rel =>
          refine ⟨q + 1, turnL t p, o ++ [x], by omega, by go_num, HTL2.out, HLT4.out, ?_, by rw [List.length_append, HOL.out]; rfl, by rw [HXX.out]; exact HNX.out, HB4.out, hz4⟩
          rw [List.length_append, HOL.out, List.map_append, ← HX.out]
          show World.ownsRow _ _ _ _ _ _ (X ++ [bv x])
          rw [HBX.out]
          exact HO4.out
        case measure => simp [intOf]; omega
      · have hno : bytesL L a.data.toList = none := by
          rw [HFR.out, HDR.out, bytesL, if_neg (fun h => e1 ⟨h.1, by have := h.2; rw [htm] at this; exact this⟩)]
          rfl
        have hans : ans = ([], 60) := by rw [HANS.out, hno]
        have HBF := Lib.hid (HB1.out.trans (HB.out.mono hz1'))
        have HPE := Lib.hid (HP.out ([], 60) wr hans HBF.out)
        clear hno HANS hans HP
        by_cases e2 : x < 0
        · have d2 : decide (x < 0) = true := decide_eq_true e2
          clear e1
          go_wp2_with fail
          exact HPE.out
        · obtain ⟨p, rfl⟩ : ∃ p : Nat, x = p := ⟨x.toNat, by omega⟩
          have hnp : a.size ≤ p := by omega
          have d2 : decide ((p : Int) < 0) = false := decide_eq_false (by omega)
          have d3 : decide ((a.size : Int) ≤ (p : Int)) = true := decide_eq_true (by omega)
          clear e1 e2
          go_wp2_with fail
          exact HPE.out
    · obtain rfl : q = n := by omega
      have d1 : decide ((q : Int) < (q : Int)) = false := decide_eq_false (by omega)
      have hfin : bytesL L a.data.toList = some o := by
        rw [hfr, List.drop_of_length_le (by omega)]
        simp [bytesL]
      have hans : ans = (o, 0) := by rw [HANS.out, hfin]
      have hconv := conv_row hown
      have HPE := Lib.hid (HP.out (o, 0) wr hans (HB1.out.trans (hb.mono hz1')))
      clear hfin hans hown hb hfr hol hlt HANS HP
      go_wp2_with fail
      exact HPE.out

theorem cback_any (w : World) (A : Option Addr) (n k : Nat) (L : List Int) (a : ByteArray) (hL : ZIn w A n L) (hnk : n ≤ k) (hn : n ≤ 1000000) (ha : a.size ≤ 1000000) : Calls Try.prog 16 #[.slice A n k, .string a] w (BackPost w L a.data.toList) := by
  by_cases hm : MayL a.data.toList
  · exact cback_yes w A n k L a hL hnk hn ha hm
  · exact cback_no w A n k L a ha hm

end Go.Proofs.Ytcmhcfbmjceioaa
