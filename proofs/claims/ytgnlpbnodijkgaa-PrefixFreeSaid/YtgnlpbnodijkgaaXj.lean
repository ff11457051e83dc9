/- prefix.Decode. Conditions: texts of at most 2^48 bytes. -/
import Derived.Test.YtgnlpbnodijkgaaXi
import Derived.Test.YtgnlpbnodijkgaaOk
namespace Go.Proofs.Ytgnlpbnodijkgaa
open Go.RowKit

theorem dec_len (s : ByteArray) : (bitsB s.data.toList).length = 8 * s.size := by
  rw [bitsB_length]
  rfl
set_option maxHeartbeats 1600000 in
set_option maxRecDepth 100000 in
theorem cdec_any (w : World) (A : Option Addr) (n c : Nat) (L : List Int) (s : ByteArray) (at' : Int) (hL : ZIn w A n L) (hn : n ≤ maxLen) (hs : s.size ≤ 281474976710656) (_ : -9223372036854775808 ≤ at') (_ : at' ≤ 9223372036854775807) : Calls Try.prog 16 #[.slice A n c, .string s, .int .i64 at'] w (DecPost w (decAns L (bitsB s.data.toList) at')) := by
  have hz := zeroTb.1
  rw [show tb (.slice none 0 0) (fun _ => 0) (fun _ => 0) (fun _ => 0) (.slice none 0 0) = tb0 from rfl] at hz
  have HST := Lib.hid tab_stored
  have HDL := Lib.hid (dec_len s)
  have HP : Hid (∀ (x y k : Nat) (w' : World), decAns L (bitsB s.data.toList) at' = (x, y, k) → Below w.heap.size w w' → DecPost w (decAns L (bitsB s.data.toList) at') (.returned (.tuple #[.int .i64 x, .int .i64 y, .int .i64 k])) w') := Lib.hid fun x y k w' h1 h2 => ⟨by rw [h1], h2⟩
  by_cases h : LenOk L
  · have HT := Lib.hid (tableOf_yes w A n c L hL hn h)
    have hans : decAns L (bitsB s.data.toList) at' = (if at' < 0 ∨ (8 * (s.size : Int)) < at' then (0, 0, 2) else match nextL (nl L) ((bitsB s.data.toList).drop at'.toNat) with
      | .hit i => (i, at'.toNat + (nl L).getD i 0, 0)
      | .short => (0, 0, 10)
      | .code => (0, 0, 90)) := by
      rw [decAns, if_pos h, HDL.out]
      rfl
    generalize DecPost w (decAns L (bitsB s.data.toList) at') = PO at *
    generalize decAns L (bitsB s.data.toList) at' = ans at *
    have HO := Lib.hid tb0_size
    have HLN := Lib.hid hL.1
    have HK := Lib.hid h
    have HTS := Lib.hid fun (K F P : Nat → Nat) (s4 : Value) => tb_size (.slice A n c) K F P s4
    have HIS := Lib.hid tab_is
    have HANS := Lib.hid hans
    clear hL h hans
    go_enter Try.func16, Try.ntmps16
    generalize tb0 = Z at *
    go_wp2_with fail
    refine HT.out.mono ?_
    rintro e w2 ⟨g, F, rfl, hrow, hsym, hb⟩
    obtain ⟨T9, hT9⟩ : ∃ T9, T9 = tb (.slice A n c) (cntL (nl L)) (fun k => cd (nl L) k 0) (plcL (nl L)) (.slice (some ⟨g, 0, none⟩) n n) := ⟨_, rfl⟩
    have hs9 : T9.size = 65 := by rw [hT9, HTS.out]
    have ho9 : T9.all (·.oneCell') = true := by rw [hT9]; exact tb_one _ _ _ _ _ rfl rfl
    obtain ⟨hst, hk3, hb3⟩ := HST.out w2 T9 hs9 ho9
    have hT3 := HIS.out w2 _ A n c g _ _ F T9 hT9 hk3 hb3 hrow hsym
    have HB3 := Lib.hid (hb.trans (hb3.mono hb.size))
    have HT3 := Lib.hid hT3
    rw [← hT9]
    clear hT9 ho9 hk3 hb3 hT3 hrow hsym hb HT
    go_upto_region 2 with fail
    generalize (w2.alloc (.cells Z 57)).setRow w2.heap.size T9 = w3 at *
    generalize w2.heap.size = g2 at *
    clear hst hz
    by_cases hbad : at' < 0 ∨ (8 * (s.size : Int)) < at'
    · have HNR := Lib.hid (newR_none w3 s at' hs hbad)
      have ha := HANS.out
      rw [if_pos hbad] at ha
      have HPE := Lib.hid (HP.out 0 0 2 w3 ha HB3.out)
      clear ha hbad
      go_wp2_with fail
      refine HNR.out.mono ?_
      rintro e w4 ⟨rfl, rfl⟩
      go_wp2_with fail
      first | exact HPE.out | (go_ret3; exact HPE.out)
    · have ha := HANS.out
      rw [if_neg hbad] at ha
      obtain ⟨a0, rfl⟩ : ∃ a0 : Nat, at' = a0 := ⟨at'.toNat, by omega⟩
      rw [Int.toNat_natCast] at ha
      have ha8 : a0 ≤ 8 * s.size := by omega
      have HNR := Lib.hid (newR_yes w3 s a0 hs (by omega) (by omega))
      have HA := Lib.hid ha
      clear ha hbad HANS
      go_wp2_with fail
      refine HNR.out.mono ?_
      rintro e w4 ⟨rfl, hw4⟩
      have hb4 : Below w3.heap.size w3 w4 := by rw [hw4]; exact (Below.refl _ _).alloc (Nat.le_refl _) _
      have hR4 : IsR w3.heap.size w4 w3.heap.size s a0 := by rw [hw4]; exact isR_new w3 _ (Nat.le_refl _) s a0
      have hT4 := HT3.out.below hb4
      have HNX := Lib.hid (cnext_any w4 g2 w3.heap.size A n c L s a0 hT4 HLN.out HK.out hR4 hs ha8)
      have HB4 := Lib.hid (HB3.out.trans (hb4.mono HB3.out.size))
      have HLOW := Lib.hid HB3.out.size
      clear hw4 hb4 hR4 hT4 HT3 HB3 HNR
      generalize w3.heap.size = p at *
      go_wp2_with fail
      refine HNX.out.mono ?_
      rintro e w5 ⟨rfl, hR5, hS5⟩
      have hb5 := HB4.out.trans (hS5.below.mono HLOW.out)
      cases hx : nextL (nl L) ((bitsB s.data.toList).drop a0) with
      | hit i =>
        have hR := hR5 i hx
        have hA := HA.out
        rw [hx] at hA
        obtain ⟨a2, ha2⟩ : ∃ a2, a2 = a0 + (nl L).getD i 0 := ⟨_, rfl⟩
        have hA2 : ans = (i, a2, 0) := by rw [hA, ha2]
        have c0 : w5.cell? ⟨p, 0, none⟩ = some (.bool true) := blk_cell hR.blk 0
        have c2 : w5.cell? ⟨p, 2, none⟩ = some (.int .i64 (a2 : Nat)) := by rw [ha2]; exact blk_cell hR.blk 2
        have HAT := Lib.hid (rat_yes w5 p (a2 : Nat) c0 c2)
        have HPE := Lib.hid (HP.out i a2 0 w5 hA2 hb5)
        clear hR hR5 hS5 hA hA2 ha2 c0 c2 hb5 hx HNX
        simp only [nxV]
        go_wp2_with fail
        refine HAT.out.mono ?_
        rintro e w6 ⟨rfl, rfl⟩
        go_wp2_with fail
        first | exact HPE.out | (go_ret3; exact HPE.out)
      | short =>
        have hA := HA.out
        rw [hx] at hA
        have HPE := Lib.hid (HP.out 0 0 10 w5 hA hb5)
        clear hR5 hS5 hA hb5 hx HNX
        simp only [nxV]
        go_wp2_with fail
        first | exact HPE.out | (go_ret3; exact HPE.out)
      | code =>
        have hA := HA.out
        rw [hx] at hA
        have HPE := Lib.hid (HP.out 0 0 90 w5 hA hb5)
        clear hR5 hS5 hA hb5 hx HNX
        simp only [nxV]
        go_wp2_with fail
        first | exact HPE.out | (go_ret3; exact HPE.out)
  · have HT := Lib.hid (tableOf_no w A n c L hL hn h)
    have hans : decAns L (bitsB s.data.toList) at' = (0, 0, 80) := by rw [decAns, if_neg h]
    generalize DecPost w (decAns L (bitsB s.data.toList) at') = PO at *
    generalize decAns L (bitsB s.data.toList) at' = ans at *
    have HO := Lib.hid tb0_size
    have HONE := Lib.hid tb0_one
    have HANS := Lib.hid hans
    clear hL h hans
    go_enter Try.func16, Try.ntmps16
    generalize tb0 = Z at *
    go_wp2_with fail
    refine HT.out.mono ?_
    rintro e w2 ⟨rfl, hb⟩
    have hs9 : Z.size = 65 := HO.out
    obtain ⟨hst, hk3, hb3⟩ := HST.out w2 Z hs9 HONE.out
    have HPE := Lib.hid (HP.out 0 0 80 _ HANS.out (hb.trans (hb3.mono hb.size)))
    clear hk3 hb3 hb HT
    go_wp2_with fail
    first | exact HPE.out | (go_ret3; exact HPE.out)

end Go.Proofs.Ytgnlpbnodijkgaa
