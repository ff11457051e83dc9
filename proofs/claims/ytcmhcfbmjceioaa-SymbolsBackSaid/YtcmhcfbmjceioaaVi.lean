/- Front. Conditions: texts of at most a million bytes. -/
import Derived.Test.YtcmhcfbmjceioaaVf
import Derived.Test.YtcmhcfbmjceioaaVh
import Derived.Deep.Onto
namespace Go.Proofs.Ytcmhcfbmjceioaa
open Go.RowKit

set_option maxRecDepth 100000 in
theorem cfront_no (w : World) (s a : ByteArray) (ha : a.size ≤ 1000000) (hm : ¬ MayL a.data.toList) : Calls Try.prog 13 #[.string s, .string a] w (FrontPost w s.data.toList a.data.toList) := by
  have HM := Lib.hid (cmay_any w a ha)
  have d0 : decide (MayL a.data.toList) = false := decide_eq_false hm
  rw [d0] at HM
  have HANS := Lib.hid (show frontAns s.data.toList a.data.toList = ([], 2) from if_neg hm)
  clear d0 hm
  go_enter Try.func13, Try.ntmps13
  go_wp2_with fail
  refine HM.out.mono ?_
  rintro e w1 ⟨rfl, hb1⟩
  have HB1 := Lib.hid hb1
  clear hb1
  go_wp2_with fail
  go_ret2
  exact ⟨_, [], 2, HANS.out, rfl, World.ownsRow_nil _ _ _ _, HB1.out⟩

set_option maxHeartbeats 1600000 in
set_option maxRecDepth 100000 in
theorem cfront_yes (w : World) (s a : ByteArray) (hs : s.size ≤ 1000000) (ha : a.size ≤ 1000000) (hm : MayL a.data.toList) : Calls Try.prog 13 #[.string s, .string a] w (FrontPost w s.data.toList a.data.toList) := by
  obtain ⟨i3, h3, hz0, hz1, hz2⟩ := info_parts Try.info3
  have hmk : ∀ w1 : World, (Instr.makeSlice 25 (.int .i64 0) (.int .i64 s.size)).run Try.prog w1 = .ok (.slice (some ⟨w1.heap.size, 0, none⟩) 0 s.size) (w1.alloc (.cells (madeCells #[.int .i64 0] s.size) 3)) := by
    intro w1
    have h := run_make (P := Try.prog) w1 25 3 i3 (.int .i64 0) Try.underlying25 h3 hz0 .i64 .i64 (0 : Int) (s.size : Int) (by omega) (by omega) (by rw [hz2]; omega) (by omega)
    rw [hz1, Int.toNat_natCast, Nat.mul_one] at h
    exact h
  have HMK := Lib.hid hmk
  have HM := Lib.hid (cmay_any w a ha)
  have d0 : decide (MayL a.data.toList) = true := decide_eq_true hm
  rw [d0] at HM
  have HANS := Lib.hid (show frontAns s.data.toList a.data.toList = (match frontL s.data.toList a.data.toList with | none => ([], 60) | some l => (l, 0)) from if_pos hm)
  have HSL := Lib.hid (show s.data.toList.length = s.size from rfl)
  have HAL := Lib.hid (show a.data.toList.length = a.size from rfl)
  clear d0 hm hmk
  go_enter Try.func13, Try.ntmps13
  go_wp2_with fail
  refine HM.out.mono ?_
  rintro e w1 ⟨rfl, hb1⟩
  have HB1 := Lib.hid hb1
  have hz1' := hb1.size
  obtain ⟨c, w2, hconv, hac, hlin, hb2, hsz2⟩ := conv_lin w1 a
  obtain ⟨g, hg⟩ : ∃ g, g = w1.heap.size := ⟨_, rfl⟩
  have hmk2 := HMK.out w2
  rw [← hg] at hconv hlin hsz2
  have HB2 := Lib.hid hb2
  have HLIN := Lib.hid hlin
  have HSZ2 := Lib.hid hsz2
  have HG := Lib.hid hg
  have hg2 : g < w2.heap.size := by omega
  have hz2' : w1.heap.size ≤ w2.heap.size := hb2.size
  clear hb1 hb2 hlin hsz2 hg
  go_wp2_with fail
  clear hconv hmk2
  go_loopw [7, 20] (fun out i wx => ∃ (q : Nat) (t : List UInt8) (o : List Nat), q ≤ s.size ∧ i = .int .i64 q ∧ t.length = a.size ∧ LIn wx g t ∧ wx.ownsRow w2.heap.size 3 1 out o.length (o.map iv) ∧ o.length = q ∧
    frontL s.data.toList a.data.toList = (frontL (s.data.toList.drop q) t).map (o ++ ·) ∧ Below w1.heap.size w1 wx ∧ w2.heap.size ≤ wx.heap.size) (fun _ i _ => s.size - (intOf i).toNat)
  case atStart =>
    have hm : (madeCells #[.int .i64 0] s.size).size = s.size * 1 := by simp [madeCells]
    have hba : Below w2.heap.size w2 (w2.alloc (.cells (madeCells #[.int .i64 0] s.size) 3)) := (Below.refl _ _).alloc (Nat.le_refl _) _
    exact ⟨0, a.data.toList, [], Nat.zero_le _, rfl, rfl, HLIN.out.below hba hg2, World.ownsRow_made w2 (madeCells #[.int .i64 0] s.size) s.size (Nat.le_refl _) (by unfold maxLen; omega) hm, rfl, by simp, HB2.out.trans (hba.mono hz2'), hba.size⟩
  case round =>
    obtain ⟨q, t, o, hq, rfl, htl, hlt, hown, hol, hfr, hb, hz9⟩ := hrel
    obtain ⟨A0, c0, rfl, hn0, hm0, hA0⟩ := own_slice hown
    clear hA0
    unfold maxLen at hm0
    rw [hol] at hown hn0 ⊢
    have HOL := Lib.hid hol
    have HB := Lib.hid hb
    have HFR := Lib.hid hfr
    have HTL := Lib.hid htl
    have HLT := Lib.hid hlt
    obtain ⟨X, hX⟩ : ∃ X, X = o.map iv := ⟨_, rfl⟩
    rw [← hX] at hown
    have HX := Lib.hid hX
    have HO := Lib.hid hown
    clear hX hown hol hb hfr hlt
    by_cases e : q < s.size
    · have d1 : decide ((q : Int) < (s.size : Int)) = true := decide_eq_true (by omega)
      have hdr := drop_byte s q e
      have HIX := Lib.hid (idxbyte_any wr g a.size c t s[q] HLT.out htl)
      by_cases e1 : s[q] ∈ t
      · have hps : t.idxOf s[q] < t.length := List.idxOf_lt_length_of_mem e1
        rw [if_pos e1] at HIX
        obtain ⟨p, hp⟩ : ∃ p, p = t.idxOf s[q] := ⟨_, rfl⟩
        rw [← hp] at HIX hps
        have d2 : decide ((p : Int) < 0) = false := decide_eq_false (by omega)
        have hpa : p < a.size := by omega
        have HTU := Lib.hid (mtf_any w1.heap.size wr g a.size c t p (by rw [HG.out]; exact Nat.le_refl _) HLT.out htl hac hpa ha)
        have hnx : frontL s.data.toList a.data.toList = (frontL (s.data.toList.drop (q + 1)) (turnL t p)).map ((o ++ [p]) ++ ·) := by
          rw [HFR.out, hdr, frontL, if_pos e1, ← hp, Option.map_map]
          congr 1
          funext l
          simp
        have HTL2 := Lib.hid (show (turnL t p).length = a.size from (turnL_length _ p hps).trans htl)
        have HNX := Lib.hid hnx
        clear hdr e1 hp hnx htl hps
        go_wp2_with fail
        refine HIX.out.mono ?_
        rintro e w3 ⟨rfl, rfl⟩
        go_wp2_with fail
        refine HTU.out.mono ?_
        rintro e w3 ⟨rfl, hlt3, hst3⟩
        have ho3 := hst3.row HO.out (fun k hk => by have := (HO.out.lt k hk).1; simp; omega) (by simp)
        have hz3 : w2.heap.size ≤ w3.heap.size := Nat.le_trans hz9 hst3.size
        have HB3 := Lib.hid (HB.out.trans hst3.below)
        have HO3 := Lib.hid ho3
        have HLT3 := Lib.hid hlt3
        clear hlt3 hst3 ho3
        go_wp2_with (at_builtin; refine wpList_append_own _ rfl _ _ 25 rfl w2.heap.size 3 i3 (.int .i64 0) 1 8 Try.underlying25 h3 hz0 hz1 hz2 rfl (by decide) _ _ _ rfl (HO3.out.alloc _) ⟨w3.heap.size, 0, none⟩ 1 1 [.int .i64 p] rfl rfl ?c1 ?c2 ?c3 ?c4 ?c5 ?_)
        case c1 => exact cell_one _ _ _
        case c2 => intro u hu; simp at hu; subst hu; rfl
        case c3 => unfold maxLen; omega
        case c4 => omega
        case c5 => simp; omega
        intro v4 w4 hown4 hgrow4 _
        have hb4 : Below w2.heap.size w3 w4 := ((Below.refl w2.heap.size w3).alloc hz3 _).grown hgrow4 (by simp; omega) (fun k hk => (HO3.out.lt k hk).1)
        have HO4 := Lib.hid hown4
        have HB4 := Lib.hid (HB3.out.trans (hb4.mono hz2'))
        have HLT4 := Lib.hid (HLT3.out.below hb4 hg2)
        have hz4 : w2.heap.size ≤ w4.heap.size := Nat.le_trans hz3 hb4.size
        clear hown4 hgrow4 hb4
        go_wp2_with fail
        go_roundw
        case rel =>
          refine ⟨q + 1, turnL t p, o ++ [p], by omega, by go_num, HTL2.out, HLT4.out, ?_, by rw [List.length_append, HOL.out]; rfl, HNX.out, HB4.out, hz4⟩
          rw [List.length_append, HOL.out, List.map_append, ← HX.out]
          exact HO4.out
        case measure => simp [intOf]; omega
      · rw [if_neg e1] at HIX
        have hno : frontL s.data.toList a.data.toList = none := by
          rw [HFR.out, hdr, frontL, if_neg e1]
          rfl
        have HNO := Lib.hid hno
        clear hdr e1 hno
        go_wp2_with fail
        refine HIX.out.mono ?_
        rintro e w3 ⟨rfl, rfl⟩
        go_wp2_with fail
        go_ret2
        refine ⟨_, [], 60, ?_, rfl, World.ownsRow_nil _ _ _ _, HB1.out.trans (HB.out.mono hz1')⟩
        rw [HANS.out, HNO.out]
    · obtain rfl : q = s.size := by omega
      have d1 : decide ((s.size : Int) < (s.size : Int)) = false := decide_eq_false (by omega)
      have hfin : frontL s.data.toList a.data.toList = some o := by
        rw [HFR.out, List.drop_of_length_le (by rw [HSL.out]; exact Nat.le_refl _)]
        simp [frontL]
      have HFIN := Lib.hid hfin
      clear hfin
      go_wp2_with fail
      go_ret2
      refine ⟨_, o, 0, ?_, rfl, ?_, HB1.out.trans (HB.out.mono hz1')⟩
      · rw [HANS.out, HFIN.out]
      · have h1 := HO.out
        rw [HX.out] at h1
        rw [HOL.out]
        exact World.ownsRow.mono h1 (Nat.le_trans hz1' hz2')

theorem cfront_any (w : World) (s a : ByteArray) (hs : s.size ≤ 1000000) (ha : a.size ≤ 1000000) : Calls Try.prog 13 #[.string s, .string a] w (FrontPost w s.data.toList a.data.toList) := by
  by_cases hm : MayL a.data.toList
  · exact cfront_yes w s a hs ha hm
  · exact cfront_no w s a ha hm

end Go.Proofs.Ytcmhcfbmjceioaa
