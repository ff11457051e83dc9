/- Ustar's code: Decode of 512 bytes. No conditions. -/
import Derived.Test.YtdjmfkodjjjhfaaGreatDoorUvd
namespace Go.Proofs.YtdjmfkodjjjhfaaGreatDoor
open Go.RowKit

theorem kinds_at (h : 0 < (⟨#[48, 53, 120, 103]⟩ : ByteArray).size) : ((⟨#[48, 53, 120, 103]⟩ : ByteArray)[0]'h).toNat = 48 := rfl
theorem one_at (c : UInt8) (h : 0 < (⟨#[c]⟩ : ByteArray).size) : (⟨#[c]⟩ : ByteArray)[0]'h = c := rfl
set_option maxHeartbeats 6400000 in
set_option maxRecDepth 100000 in
theorem cdec_yes (w : World) (t : ByteArray) (ht : t.size = 512) : Calls Tryz.prog 99 #[.string t] w fun e w' => e = .returned (.tuple #[headV (decA t.data.toList).1, .int .i64 (decA t.data.toList).2]) ∧ Below w.heap.size w w' := by
  have HP : Hid (∀ (h : HeadP) (k : Nat) (w' : World), decA t.data.toList = (h, k) → Below w.heap.size w w' → (fun e w' => e = Ending.returned (.tuple #[headV (decA t.data.toList).1, .int .i64 (decA t.data.toList).2]) ∧ Below w.heap.size w w') (.returned (.tuple #[headV h, .int .i64 k])) w') := Lib.hid fun h k w' e hb => ⟨by rw [e], hb⟩
  generalize (fun e w' => e = Ending.returned (.tuple #[headV (decA t.data.toList).1, .int .i64 (decA t.data.toList).2]) ∧ Below w.heap.size w w') = PO at *
  have CS := Lib.hid fun wx : World => csum15_any wx t (by omega)
  have hl : t.data.toList.length = 512 := ht
  have hself := strF_self t
  have hsum : (sumA t.data.toList).2 = 0 := by unfold sumA; rw [if_neg (fun h => h hl)]
  rw [hsum] at CS
  obtain ⟨l, hl0⟩ : ∃ l, l = t.data.toList := ⟨_, rfl⟩
  rw [← hl0] at HP CS hl hself
  obtain ⟨sn, hsn⟩ : ∃ n, n = (sumA l).1 := ⟨_, rfl⟩
  rw [← hsn] at CS
  have HSN := Lib.hid hsn
  clear hsum hl0 hsn
  obtain ⟨R0, hR0⟩ : ∃ r, r = strF (l.drop 0) := ⟨_, rfl⟩
  obtain ⟨R100, hR100⟩ : ∃ r, r = strF (l.drop 100) := ⟨_, rfl⟩
  obtain ⟨R108, hR108⟩ : ∃ r, r = strF (l.drop 108) := ⟨_, rfl⟩
  obtain ⟨R116, hR116⟩ : ∃ r, r = strF (l.drop 116) := ⟨_, rfl⟩
  obtain ⟨R124, hR124⟩ : ∃ r, r = strF (l.drop 124) := ⟨_, rfl⟩
  obtain ⟨R136, hR136⟩ : ∃ r, r = strF (l.drop 136) := ⟨_, rfl⟩
  obtain ⟨R148, hR148⟩ : ∃ r, r = strF (l.drop 148) := ⟨_, rfl⟩
  obtain ⟨R156, hR156⟩ : ∃ r, r = strF (l.drop 156) := ⟨_, rfl⟩
  obtain ⟨R157, hR157⟩ : ∃ r, r = strF (l.drop 157) := ⟨_, rfl⟩
  obtain ⟨R257, hR257⟩ : ∃ r, r = strF (l.drop 257) := ⟨_, rfl⟩
  obtain ⟨R265, hR265⟩ : ∃ r, r = strF (l.drop 265) := ⟨_, rfl⟩
  obtain ⟨R297, hR297⟩ : ∃ r, r = strF (l.drop 297) := ⟨_, rfl⟩
  obtain ⟨R329, hR329⟩ : ∃ r, r = strF (l.drop 329) := ⟨_, rfl⟩
  obtain ⟨R345, hR345⟩ : ∃ r, r = strF (l.drop 345) := ⟨_, rfl⟩
  obtain ⟨R500, hR500⟩ : ∃ r, r = strF (l.drop 500) := ⟨_, rfl⟩
  have HR0 : Hid (t = R0) := Lib.hid (by rw [hR0, List.drop_zero, hself])
  have C0 := Lib.hid (cut_text l 0 100 100 100 rfl rfl (by omega))
  rw [← hR0, ← hR100] at C0
  obtain ⟨P0, hP0⟩ : ∃ v, v = strP (cutZ (fld l 0 100)) := ⟨_, rfl⟩
  rw [← hP0] at C0
  have HP0 := Lib.hid hP0
  clear hP0
  have C1 := Lib.hid (cut_number l 100 8 108 8 rfl rfl (by omega))
  rw [← hR100, ← hR108] at C1
  obtain ⟨v0, hv0⟩ : ∃ v, v = (numberA (fld l 100 108)).1 := ⟨_, rfl⟩
  obtain ⟨o0, ho0⟩ : ∃ o, o = decide ((numberA (fld l 100 108)).2 ≠ 0) := ⟨_, rfl⟩
  rw [← hv0, ← ho0] at C1
  have HV0 := Lib.hid hv0
  have HO0 := Lib.hid ho0
  clear hv0 ho0
  have C2 := Lib.hid (cut_number l 108 8 116 8 rfl rfl (by omega))
  rw [← hR108, ← hR116] at C2
  obtain ⟨v1, hv1⟩ : ∃ v, v = (numberA (fld l 108 116)).1 := ⟨_, rfl⟩
  obtain ⟨o1, ho1⟩ : ∃ o, o = decide ((numberA (fld l 108 116)).2 ≠ 0) := ⟨_, rfl⟩
  rw [← hv1, ← ho1] at C2
  have HV1 := Lib.hid hv1
  have HO1 := Lib.hid ho1
  clear hv1 ho1
  have C3 := Lib.hid (cut_number l 116 8 124 8 rfl rfl (by omega))
  rw [← hR116, ← hR124] at C3
  obtain ⟨v2, hv2⟩ : ∃ v, v = (numberA (fld l 116 124)).1 := ⟨_, rfl⟩
  obtain ⟨o2, ho2⟩ : ∃ o, o = decide ((numberA (fld l 116 124)).2 ≠ 0) := ⟨_, rfl⟩
  rw [← hv2, ← ho2] at C3
  have HV2 := Lib.hid hv2
  have HO2 := Lib.hid ho2
  clear hv2 ho2
  have C4 := Lib.hid (cut_number l 124 12 136 12 rfl rfl (by omega))
  rw [← hR124, ← hR136] at C4
  obtain ⟨v3, hv3⟩ : ∃ v, v = (numberA (fld l 124 136)).1 := ⟨_, rfl⟩
  obtain ⟨o3, ho3⟩ : ∃ o, o = decide ((numberA (fld l 124 136)).2 ≠ 0) := ⟨_, rfl⟩
  rw [← hv3, ← ho3] at C4
  have HV3 := Lib.hid hv3
  have HO3 := Lib.hid ho3
  clear hv3 ho3
  have C5 := Lib.hid (cut_number l 136 12 148 12 rfl rfl (by omega))
  rw [← hR136, ← hR148] at C5
  obtain ⟨v4, hv4⟩ : ∃ v, v = (numberA (fld l 136 148)).1 := ⟨_, rfl⟩
  obtain ⟨o4, ho4⟩ : ∃ o, o = decide ((numberA (fld l 136 148)).2 ≠ 0) := ⟨_, rfl⟩
  rw [← hv4, ← ho4] at C5
  have HV4 := Lib.hid hv4
  have HO4 := Lib.hid ho4
  clear hv4 ho4
  have C6 := Lib.hid (cut_number l 148 8 156 8 rfl rfl (by omega))
  rw [← hR148, ← hR156] at C6
  obtain ⟨v5, hv5⟩ : ∃ v, v = (numberA (fld l 148 156)).1 := ⟨_, rfl⟩
  obtain ⟨o5, ho5⟩ : ∃ o, o = decide ((numberA (fld l 148 156)).2 ≠ 0) := ⟨_, rfl⟩
  rw [← hv5, ← ho5] at C6
  have HV5 := Lib.hid hv5
  have HO5 := Lib.hid ho5
  clear hv5 ho5
  have C7 := Lib.hid (cut_piece l 156 1 157 1 rfl rfl (by omega))
  rw [← hR156, ← hR157] at C7
  have hone : fld l 156 157 = [l.getD 156 0] := by
    unfold fld
    rw [List.drop_take, List.drop_eq_getElem_cons (by omega), List.getD_eq_getElem?_getD, List.getElem?_eq_getElem (by omega)]
    rfl
  obtain ⟨c, hc0⟩ : ∃ c, c = l.getD 156 0 := ⟨_, rfl⟩
  rw [hone, ← hc0, show strF [c] = (⟨#[c]⟩ : ByteArray) from rfl] at C7
  have HCC := Lib.hid hc0
  clear hone hc0
  have C8 := Lib.hid (cut_text l 157 100 257 100 rfl rfl (by omega))
  rw [← hR157, ← hR257] at C8
  obtain ⟨TL, hTL⟩ : ∃ v, v = strP (cutZ (fld l 157 257)) := ⟨_, rfl⟩
  rw [← hTL] at C8
  have HTL := Lib.hid hTL
  clear hTL
  have C9 := Lib.hid (cut_piece l 257 8 265 8 rfl rfl (by omega))
  rw [← hR257, ← hR265] at C9
  obtain ⟨TM, hTM⟩ : ∃ v, v = strF (fld l 257 265) := ⟨_, rfl⟩
  rw [← hTM] at C9
  have HTM := Lib.hid hTM
  clear hTM
  have C10 := Lib.hid (cut_text l 265 32 297 32 rfl rfl (by omega))
  rw [← hR265, ← hR297] at C10
  obtain ⟨TU, hTU⟩ : ∃ v, v = strP (cutZ (fld l 265 297)) := ⟨_, rfl⟩
  rw [← hTU] at C10
  have HTU := Lib.hid hTU
  clear hTU
  have C11 := Lib.hid (cut_text l 297 32 329 32 rfl rfl (by omega))
  rw [← hR297, ← hR329] at C11
  obtain ⟨TG, hTG⟩ : ∃ v, v = strP (cutZ (fld l 297 329)) := ⟨_, rfl⟩
  rw [← hTG] at C11
  have HTG := Lib.hid hTG
  clear hTG
  have C12 := Lib.hid (cut_piece l 329 16 345 16 rfl rfl (by omega))
  rw [← hR329, ← hR345] at C12
  obtain ⟨TS, hTS⟩ : ∃ v, v = strF (fld l 329 345) := ⟨_, rfl⟩
  rw [← hTS] at C12
  have HTS := Lib.hid hTS
  clear hTS
  have C13 := Lib.hid (cut_text l 345 155 500 155 rfl rfl (by omega))
  rw [← hR345, ← hR500] at C13
  obtain ⟨TP, hTP⟩ : ∃ v, v = strP (cutZ (fld l 345 500)) := ⟨_, rfl⟩
  rw [← hTP] at C13
  have HTP := Lib.hid hTP
  clear hTP
  clear hR0 hR100 hR108 hR116 hR124 hR136 hR148 hR156 hR157 hR257 hR265 hR297 hR329 hR345 hR500
  have HLEN := Lib.hid hl
  have HBF : Hid ((false || o0 || o1 || o2 || o3 || o4 || o5) = true ↔ ¬ ∀ i, i < 6 → (numL l i).2 = 0) := Lib.hid (by
    rw [HO0.out, HO1.out, HO2.out, HO3.out, HO4.out, HO5.out]
    simp only [Bool.or_eq_true, decide_eq_true_iff, Bool.false_eq_true, false_or]
    constructor
    · intro h hall
      have a0 := hall 0 (by omega)
      have a1 := hall 1 (by omega)
      have a2 := hall 2 (by omega)
      have a3 := hall 3 (by omega)
      have a4 := hall 4 (by omega)
      have a5 := hall 5 (by omega)
      rcases h with ((((h | h) | h) | h) | h) | h
      · exact h a0
      · exact h a1
      · exact h a2
      · exact h a3
      · exact h a4
      · exact h a5
    · intro h
      by_cases e0 : (numL l 0).2 = 0
      · by_cases e1 : (numL l 1).2 = 0
        · by_cases e2 : (numL l 2).2 = 0
          · by_cases e3 : (numL l 3).2 = 0
            · by_cases e4 : (numL l 4).2 = 0
              · refine .inr fun e5 => h fun i hi => ?_
                have : i = 0 ∨ i = 1 ∨ i = 2 ∨ i = 3 ∨ i = 4 ∨ i = 5 := by omega
                rcases this with rfl | rfl | rfl | rfl | rfl | rfl
                · exact e0
                · exact e1
                · exact e2
                · exact e3
                · exact e4
                · exact e5
              · exact .inl (.inr e4)
            · exact .inl (.inl (.inr e3))
          · exact .inl (.inl (.inl (.inr e2)))
        · exact .inl (.inl (.inl (.inl (.inr e1))))
      · exact .inl (.inl (.inl (.inl (.inl e0)))))
  have HNO : Hid (¬ decOk l → decA l = (zeroHead, 160)) := Lib.hid fun h => by unfold decA; rw [if_neg h]
  have HYES : Hid (decOk l → decA l = (decH l, 0)) := Lib.hid fun h => by unfold decA; rw [if_pos h]
  have HPZ : Hid (P0.size ≤ 100) := Lib.hid (by rw [HP0.out]; exact cut_fld l 0 100)
  have HTPZ : Hid (TP.size ≤ 155) := Lib.hid (by rw [HTP.out]; exact cut_fld l 345 500)
  have htz : t.size ≤ 140737488355328 := by omega
  have HTZ := Lib.hid htz
  have HK := Lib.hid (blk_new w 65 zeroCs)
  have HB : Hid (Below w.heap.size w (w.alloc (.cells #[.string ⟨#[]⟩, .int .i64 0, .int .u8 0, .int .i64 0, .int .i64 0, .string ⟨#[]⟩, .string ⟨#[]⟩, .string ⟨#[]⟩, .int .i64 0, .int .i64 0] 65))) := Lib.hid ((Below.refl _ _).alloc (Nat.le_refl _) _)
  clear hl ht hself htz
  go_enter Tryz.func99, Tryz.ntmps99
  go_wp2_with fail
  refine (CS.out _).mono ?_
  rintro e w2 ⟨rfl, hb2⟩
  have HZ2 : Hid (Blk w2 w.heap.size 65 zeroCs) := Lib.hid ((step_of_below hb2).blk HK.out List.not_mem_nil List.not_mem_nil)
  have HB2 := Lib.hid (HB.out.trans (hb2.mono HB.out.size))
  clear hb2 HK HB CS
  go_upto_region 5 with fail
  rw [HR0.out]
  have HC3 : Hid (CutIs (w2.alloc (.cells #[.string R0, .bool false] 164)) w2.heap.size R0 false) := Lib.hid ⟨blk_new w2 164 #[.string R0, .bool false], by rw [← HR0.out]; exact HTZ.out⟩
  have HZ3 : Hid (Blk (w2.alloc (.cells #[.string R0, .bool false] 164)) w.heap.size 65 zeroCs) := Lib.hid ((step_of_below ((Below.refl w2.heap.size w2).alloc (Nat.le_refl _) _)).blk HZ2.out List.not_mem_nil List.not_mem_nil)
  have HB3 : Hid (Below w.heap.size w (w2.alloc (.cells #[.string R0, .bool false] 164))) := Lib.hid (HB2.out.alloc HB2.out.size _)
  have HLO : Hid (w.heap.size < w2.heap.size) := Lib.hid (blk_lt HZ2.out)
  clear HZ2 HB2 HTZ
  generalize w2.alloc (.cells #[.string R0, .bool false] 164) = w3 at *
  generalize w2.heap.size = a1 at *
  go_wp2_with fail
  refine (C0.out _ _ _ HC3.out).mono ?_
  rintro e w4 ⟨rfl, hc4, hs4⟩
  have hz4 := hs4.blk HZ3.out (by have := HLO.out; simp; omega) List.not_mem_nil
  have hb4 := HB3.out.trans (hs4.below.mono (Nat.le_of_lt HLO.out))
  have hst : Below w4.heap.size w4 (w4.alloc (.cells #[.string P0, .int .i64 0, .int .u8 0, .int .i64 0, .int .i64 0, .string ⟨#[]⟩, .string ⟨#[]⟩, .string ⟨#[]⟩, .int .i64 0, .int .i64 0] 65)) := (Below.refl _ _).alloc (Nat.le_refl _) _
  have D0 : Hid (Dec w (w4.alloc (.cells #[.string P0, .int .i64 0, .int .u8 0, .int .i64 0, .int .i64 0, .string ⟨#[]⟩, .string ⟨#[]⟩, .string ⟨#[]⟩, .int .i64 0, .int .i64 0] 65)) a1 w4.heap.size R100 false #[.string P0, .int .i64 0, .int .u8 0, .int .i64 0, .int .i64 0, .string ⟨#[]⟩, .string ⟨#[]⟩, .string ⟨#[]⟩, .int .i64 0, .int .i64 0]) := Lib.hid ⟨⟨(step_of_below hst).blk hc4.1 List.not_mem_nil List.not_mem_nil, hc4.2⟩, blk_new w4 _ _, (step_of_below hst).blk hz4 List.not_mem_nil List.not_mem_nil, hb4.trans (hst.mono hb4.size), HLO.out, blk_lt hc4.1⟩
  clear hc4 hs4 hz4 hb4 hst HC3 HZ3 HB3 HLO C0
  go_upto_region 7 with fail
  generalize w4.alloc (.cells #[.string P0, .int .i64 0, .int .u8 0, .int .i64 0, .int .i64 0, .string ⟨#[]⟩, .string ⟨#[]⟩, .string ⟨#[]⟩, .int .i64 0, .int .i64 0] 65) = w5 at *
  generalize w4.heap.size = a2 at *
  go_wp2_with fail
  refine (C1.out _ _ _ D0.out.cut).mono ?_
  rintro e w6 ⟨rfl, hc, hs⟩
  have hd := D0.out.step hc hs
  have x0 : w6.cell? ⟨a2, 3, none⟩ = some (.int .i64 0) := hd.c0 3
  have f0 : w6.frozen? ⟨a2, 3, none⟩ = false := hd.f0 3
  have D1 : Hid (Dec w (w6.setCell ⟨a2, 3, none⟩ (.int .i64 v0)) a1 a2 R108 (false || o0) #[.string P0, .int .i64 0, .int .u8 0, .int .i64 v0, .int .i64 0, .string ⟨#[]⟩, .string ⟨#[]⟩, .string ⟨#[]⟩, .int .i64 0, .int .i64 0]) := Lib.hid (hd.set 3 (.int .i64 v0))
  clear hd hc hs D0 C1
  go_upto_region 8 with fail
  clear x0 f0
  generalize w6.setCell ⟨a2, 3, none⟩ (.int .i64 v0) = w6 at *
  go_wp2_with fail
  refine (C2.out _ _ _ D1.out.cut).mono ?_
  rintro e w7 ⟨rfl, hc, hs⟩
  have hd := D1.out.step hc hs
  have x0 : w7.cell? ⟨a2, 8, none⟩ = some (.int .i64 0) := hd.c0 8
  have f0 : w7.frozen? ⟨a2, 8, none⟩ = false := hd.f0 8
  have D2 : Hid (Dec w (w7.setCell ⟨a2, 8, none⟩ (.int .i64 v1)) a1 a2 R116 ((false || o0) || o1) #[.string P0, .int .i64 0, .int .u8 0, .int .i64 v0, .int .i64 0, .string ⟨#[]⟩, .string ⟨#[]⟩, .string ⟨#[]⟩, .int .i64 v1, .int .i64 0]) := Lib.hid (hd.set 8 (.int .i64 v1))
  clear hd hc hs D1 C2
  go_upto_region 9 with fail
  clear x0 f0
  generalize w7.setCell ⟨a2, 8, none⟩ (.int .i64 v1) = w7 at *
  go_wp2_with fail
  refine (C3.out _ _ _ D2.out.cut).mono ?_
  rintro e w8 ⟨rfl, hc, hs⟩
  have hd := D2.out.step hc hs
  have x0 : w8.cell? ⟨a2, 9, none⟩ = some (.int .i64 0) := hd.c0 9
  have f0 : w8.frozen? ⟨a2, 9, none⟩ = false := hd.f0 9
  have D3 : Hid (Dec w (w8.setCell ⟨a2, 9, none⟩ (.int .i64 v2)) a1 a2 R124 (((false || o0) || o1) || o2) #[.string P0, .int .i64 0, .int .u8 0, .int .i64 v0, .int .i64 0, .string ⟨#[]⟩, .string ⟨#[]⟩, .string ⟨#[]⟩, .int .i64 v1, .int .i64 v2]) := Lib.hid (hd.set 9 (.int .i64 v2))
  clear hd hc hs D2 C3
  go_upto_region 10 with fail
  clear x0 f0
  generalize w8.setCell ⟨a2, 9, none⟩ (.int .i64 v2) = w8 at *
  go_wp2_with fail
  refine (C4.out _ _ _ D3.out.cut).mono ?_
  rintro e w9 ⟨rfl, hc, hs⟩
  have hd := D3.out.step hc hs
  have x0 : w9.cell? ⟨a2, 1, none⟩ = some (.int .i64 0) := hd.c0 1
  have f0 : w9.frozen? ⟨a2, 1, none⟩ = false := hd.f0 1
  have D4 : Hid (Dec w (w9.setCell ⟨a2, 1, none⟩ (.int .i64 v3)) a1 a2 R136 ((((false || o0) || o1) || o2) || o3) #[.string P0, .int .i64 v3, .int .u8 0, .int .i64 v0, .int .i64 0, .string ⟨#[]⟩, .string ⟨#[]⟩, .string ⟨#[]⟩, .int .i64 v1, .int .i64 v2]) := Lib.hid (hd.set 1 (.int .i64 v3))
  clear hd hc hs D3 C4
  go_upto_region 11 with fail
  clear x0 f0
  generalize w9.setCell ⟨a2, 1, none⟩ (.int .i64 v3) = w9 at *
  go_wp2_with fail
  refine (C5.out _ _ _ D4.out.cut).mono ?_
  rintro e w10 ⟨rfl, hc, hs⟩
  have hd := D4.out.step hc hs
  have x0 : w10.cell? ⟨a2, 4, none⟩ = some (.int .i64 0) := hd.c0 4
  have f0 : w10.frozen? ⟨a2, 4, none⟩ = false := hd.f0 4
  have D5 : Hid (Dec w (w10.setCell ⟨a2, 4, none⟩ (.int .i64 v4)) a1 a2 R148 (((((false || o0) || o1) || o2) || o3) || o4) #[.string P0, .int .i64 v3, .int .u8 0, .int .i64 v0, .int .i64 v4, .string ⟨#[]⟩, .string ⟨#[]⟩, .string ⟨#[]⟩, .int .i64 v1, .int .i64 v2]) := Lib.hid (hd.set 4 (.int .i64 v4))
  clear hd hc hs D4 C5
  go_upto_region 12 with fail
  clear x0 f0
  generalize w10.setCell ⟨a2, 4, none⟩ (.int .i64 v4) = w10 at *
  go_wp2_with fail
  refine (C6.out _ _ _ D5.out.cut).mono ?_
  rintro e w11 ⟨rfl, hc, hs⟩
  have D6 : Hid (Dec w w11 a1 a2 R156 ((((((false || o0) || o1) || o2) || o3) || o4) || o5) #[.string P0, .int .i64 v3, .int .u8 0, .int .i64 v0, .int .i64 v4, .string ⟨#[]⟩, .string ⟨#[]⟩, .string ⟨#[]⟩, .int .i64 v1, .int .i64 v2]) := Lib.hid (D5.out.step hc hs)
  clear hc hs D5 C6
  go_upto_region 13 with fail
  go_wp2_with fail
  refine (C7.out _ _ _ D6.out.cut).mono ?_
  rintro e w12 ⟨rfl, hc, hs⟩
  have hd := D6.out.step hc hs
  have x0 : w12.cell? ⟨a2, 2, none⟩ = some (.int .u8 0) := hd.c0 2
  have f0 : w12.frozen? ⟨a2, 2, none⟩ = false := hd.f0 2
  have D7 : Hid (Dec w (w12.setCell ⟨a2, 2, none⟩ (.int .u8 c.toNat)) a1 a2 R157 ((((((false || o0) || o1) || o2) || o3) || o4) || o5) #[.string P0, .int .i64 v3, .int .u8 c.toNat, .int .i64 v0, .int .i64 v4, .string ⟨#[]⟩, .string ⟨#[]⟩, .string ⟨#[]⟩, .int .i64 v1, .int .i64 v2]) := Lib.hid (hd.set 2 (.int .u8 c.toNat))
  clear hd hc hs D6 C7
  go_upto_region 14 with fail
  clear x0 f0
  rw [one_at c]
  generalize w12.setCell ⟨a2, 2, none⟩ (.int .u8 c.toNat) = w12 at *
  go_wp2_with fail
  refine (C8.out _ _ _ D7.out.cut).mono ?_
  rintro e w13 ⟨rfl, hc, hs⟩
  have hd := D7.out.step hc hs
  have x0 : w13.cell? ⟨a2, 5, none⟩ = some (.string ⟨#[]⟩) := hd.c0 5
  have f0 : w13.frozen? ⟨a2, 5, none⟩ = false := hd.f0 5
  have D8 : Hid (Dec w (w13.setCell ⟨a2, 5, none⟩ (.string TL)) a1 a2 R257 ((((((false || o0) || o1) || o2) || o3) || o4) || o5) #[.string P0, .int .i64 v3, .int .u8 c.toNat, .int .i64 v0, .int .i64 v4, .string TL, .string ⟨#[]⟩, .string ⟨#[]⟩, .int .i64 v1, .int .i64 v2]) := Lib.hid (hd.set 5 (.string TL))
  clear hd hc hs D7 C8
  go_upto_region 15 with fail
  clear x0 f0
  generalize w13.setCell ⟨a2, 5, none⟩ (.string TL) = w13 at *
  go_wp2_with fail
  refine (C9.out _ _ _ D8.out.cut).mono ?_
  rintro e w14 ⟨rfl, hc, hs⟩
  have D9 : Hid (Dec w w14 a1 a2 R265 ((((((false || o0) || o1) || o2) || o3) || o4) || o5) #[.string P0, .int .i64 v3, .int .u8 c.toNat, .int .i64 v0, .int .i64 v4, .string TL, .string ⟨#[]⟩, .string ⟨#[]⟩, .int .i64 v1, .int .i64 v2]) := Lib.hid (D8.out.step hc hs)
  clear hc hs D8 C9
  go_upto_region 16 with fail
  go_wp2_with fail
  refine (C10.out _ _ _ D9.out.cut).mono ?_
  rintro e w15 ⟨rfl, hc, hs⟩
  have hd := D9.out.step hc hs
  have x0 : w15.cell? ⟨a2, 6, none⟩ = some (.string ⟨#[]⟩) := hd.c0 6
  have f0 : w15.frozen? ⟨a2, 6, none⟩ = false := hd.f0 6
  have D10 : Hid (Dec w (w15.setCell ⟨a2, 6, none⟩ (.string TU)) a1 a2 R297 ((((((false || o0) || o1) || o2) || o3) || o4) || o5) #[.string P0, .int .i64 v3, .int .u8 c.toNat, .int .i64 v0, .int .i64 v4, .string TL, .string TU, .string ⟨#[]⟩, .int .i64 v1, .int .i64 v2]) := Lib.hid (hd.set 6 (.string TU))
  clear hd hc hs D9 C10
  go_upto_region 17 with fail
  clear x0 f0
  generalize w15.setCell ⟨a2, 6, none⟩ (.string TU) = w15 at *
  go_wp2_with fail
  refine (C11.out _ _ _ D10.out.cut).mono ?_
  rintro e w16 ⟨rfl, hc, hs⟩
  have hd := D10.out.step hc hs
  have x0 : w16.cell? ⟨a2, 7, none⟩ = some (.string ⟨#[]⟩) := hd.c0 7
  have f0 : w16.frozen? ⟨a2, 7, none⟩ = false := hd.f0 7
  have D11 : Hid (Dec w (w16.setCell ⟨a2, 7, none⟩ (.string TG)) a1 a2 R329 ((((((false || o0) || o1) || o2) || o3) || o4) || o5) #[.string P0, .int .i64 v3, .int .u8 c.toNat, .int .i64 v0, .int .i64 v4, .string TL, .string TU, .string TG, .int .i64 v1, .int .i64 v2]) := Lib.hid (hd.set 7 (.string TG))
  clear hd hc hs D10 C11
  go_upto_region 18 with fail
  clear x0 f0
  generalize w16.setCell ⟨a2, 7, none⟩ (.string TG) = w16 at *
  go_wp2_with fail
  refine (C12.out _ _ _ D11.out.cut).mono ?_
  rintro e w17 ⟨rfl, hc, hs⟩
  have D12 : Hid (Dec w w17 a1 a2 R345 ((((((false || o0) || o1) || o2) || o3) || o4) || o5) #[.string P0, .int .i64 v3, .int .u8 c.toNat, .int .i64 v0, .int .i64 v4, .string TL, .string TU, .string TG, .int .i64 v1, .int .i64 v2]) := Lib.hid (D11.out.step hc hs)
  clear hc hs D11 C12
  go_upto_region 19 with fail
  go_wp2_with fail
  refine (C13.out _ _ _ D12.out.cut).mono ?_
  rintro e w18 ⟨rfl, hc, hs⟩
  have D13 : Hid (Dec w w18 a1 a2 R500 ((((((false || o0) || o1) || o2) || o3) || o4) || o5) #[.string P0, .int .i64 v3, .int .u8 c.toNat, .int .i64 v0, .int .i64 v4, .string TL, .string TU, .string TG, .int .i64 v1, .int .i64 v2]) := Lib.hid (D12.out.step hc hs)
  clear hc hs D12 C13
  go_upto_region 20 with fail
  have hPL : pathL l = joinP (cutZ (fld l 345 500)) (cutZ (fld l 0 100)) := rfl
  obtain ⟨B, hB⟩ : ∃ B, B = ((((((false || o0) || o1) || o2) || o3) || o4) || o5) := ⟨_, rfl⟩
  rw [← hB] at D13 HBF
  have HBB := HBF
  clear hB HBF
  by_cases et : cutZ (fld l 345 500) = []
  · have dt : TP.toList.isEmpty = true := by rw [HTP.out, strP_toList, et]; rfl
    have HPT : Hid (P0 = strP (pathL l)) := Lib.hid (by rw [hPL, HP0.out]; unfold joinP; rw [if_pos et])
    clear et hPL
    go_upto_region 22 with fail
    clear dt
    generalize P0 = PT at *
    have y2 : w18.cell? ⟨a2, 2, none⟩ = some (.int .u8 c.toNat) := D13.out.c0 2
    have z2 : w18.frozen? ⟨a2, 2, none⟩ = false := D13.out.f0 2
    by_cases ek : c.toNat = 0
    · have dk : ((c.toNat : Int) == 0) = true := by rw [ek]; rfl
      have HKL : Hid (48 = kindL c) := Lib.hid (by unfold kindL; rw [if_pos (UInt8.toNat_inj.1 ek)])
      have D9 : Hid (Dec w (w18.setCell ⟨a2, 2, none⟩ (.int .u8 ((48 : Nat) : Int))) a1 a2 R500 B #[.string PT, .int .i64 v3, .int .u8 ((48 : Nat) : Int), .int .i64 v0, .int .i64 v4, .string TL, .string TU, .string TG, .int .i64 v1, .int .i64 v2]) := Lib.hid (D13.out.set 2 (.int .u8 ((48 : Nat) : Int)))
      clear ek D13
      go_upto_region 24 with fail
      rw [kinds_at]
      clear y2 z2 dk
      generalize w18.setCell ⟨a2, 2, none⟩ (.int .u8 ((48 : Nat) : Int)) = w9 at *
      have x1 : w9.cell? ⟨a1, 1, none⟩ = some (.bool B) := blk_cell D9.out.cut.1 1
      have g0 : w9.cell? ⟨a2, 0, none⟩ = some (.string PT) := D9.out.c0 0
      by_cases eb : B = true
      · subst eb
        have HF := Lib.hid fun wx => HP.out zeroHead 160 wx (HNO.out fun hok => HBB.out.1 rfl hok.2.2.1)
        have HBZ := Lib.hid D9.out.below
        have HZZ := Lib.hid D9.out.zero
        clear D9
        go_upto_region 25 with fail
        apply wp_region_lit
        refine wpList_build rfl 65 #[] rfl (by kernel_rfl) ?_
        refine wpList_store_row rfl 65 (.tmp 2) (.tmp 99) rfl w.heap.size zeroCs rfl (by kernel_rfl) 65 zeroCs HZZ.out (by kernel_rfl) rfl (by kernel_rfl) ?_
        rw [setRow_self _ _ _ _ _ HZZ.out]
        go_wp2_with fail
        exact bodyPost_ret (ret_headC _ w.heap.size zeroHead 160 HZZ.out _ rfl rfl) rfl (HF.out _ HBZ.out)
      have eb : B = false := by cases B <;> simp_all
      subst eb
      have HALL : Hid (∀ i, i < 6 → (numL l i).2 = 0) := Lib.hid (Classical.not_not.1 fun h => Bool.noConfusion (HBB.out.2 h))
      by_cases es : v5 = sn
      · have ds : ((v5 : Int) != (sn : Int)) = false := by rw [es]; simp
        have HSE := Lib.hid es
        clear es
        by_cases em : TM.toList = [117, 115, 116, 97, 114, 0, 48, 48]
        · have dm : (TM.toList == [117, 115, 116, 97, 114, 0, 48, 48]) = true := beq_iff_eq.2 em
          have HMK : Hid (fld l 257 265 = ustarL) := Lib.hid (by rw [HTM.out, strF_toList] at em; exact em)
          clear em
          by_cases ep : pathL l = []
          · have dp : PT.toList.isEmpty = true := by rw [HPT.out, strP_toList, ep]; rfl
            have HEP := Lib.hid ep
            clear ep
            have HF := Lib.hid fun wx => HP.out zeroHead 160 wx (HNO.out fun hok => hok.2.2.2.2 HEP.out)
            have HBZ := Lib.hid D9.out.below
            have HZZ := Lib.hid D9.out.zero
            clear D9
            go_upto_region 25 with fail
            apply wp_region_lit
            refine wpList_build rfl 65 #[] rfl (by kernel_rfl) ?_
            refine wpList_store_row rfl 65 (.tmp 2) (.tmp 99) rfl w.heap.size zeroCs rfl (by kernel_rfl) 65 zeroCs HZZ.out (by kernel_rfl) rfl (by kernel_rfl) ?_
            rw [setRow_self _ _ _ _ _ HZZ.out]
            go_wp2_with fail
            exact bodyPost_ret (ret_headC _ w.heap.size zeroHead 160 HZZ.out _ rfl rfl) rfl (HF.out _ HBZ.out)
          · have dp : PT.toList.isEmpty = false := by
              rw [HPT.out, strP_toList]
              cases hq : pathL l with
              | nil => exact absurd hq ep
              | cons x l => rfl
            have HPE := Lib.hid ep
            clear ep
            have HF := Lib.hid fun wx => HP.out (decH l) 0 wx (HYES.out ⟨HLEN.out, HMK.out, HALL.out, by rw [← HSN.out]; exact HV5.out.symm.trans HSE.out, HPE.out⟩)
            have hcs : #[.string PT, .int .i64 v3, .int .u8 ((48 : Nat) : Int), .int .i64 v0, .int .i64 v4, .string TL, .string TU, .string TG, .int .i64 v1, .int .i64 v2] = headCs (decH l) := by
              unfold headCs decH
              dsimp only
              rw [HV0.out, HV1.out, HV2.out, HV3.out, HV4.out, HPT.out, HTL.out, HTU.out, HTG.out, HKL.out, HCC.out]
              rfl
            have HCS := Lib.hid hcs
            have c0 := D9.out.c0 0
            have c1 : w9.cell? ⟨a2, 1, none⟩ = some (.int .i64 v3) := D9.out.c0 1
            have c2 : w9.cell? ⟨a2, 2, none⟩ = some (.int .u8 ((48 : Nat) : Int)) := D9.out.c0 2
            have c3 : w9.cell? ⟨a2, 3, none⟩ = some (.int .i64 v0) := D9.out.c0 3
            have c4 : w9.cell? ⟨a2, 4, none⟩ = some (.int .i64 v4) := D9.out.c0 4
            have c5 : w9.cell? ⟨a2, 5, none⟩ = some (.string TL) := D9.out.c0 5
            have c6 : w9.cell? ⟨a2, 6, none⟩ = some (.string TU) := D9.out.c0 6
            have c7 : w9.cell? ⟨a2, 7, none⟩ = some (.string TG) := D9.out.c0 7
            have c8 : w9.cell? ⟨a2, 8, none⟩ = some (.int .i64 v1) := D9.out.c0 8
            have c9 : w9.cell? ⟨a2, 9, none⟩ = some (.int .i64 v2) := D9.out.c0 9
            clear hcs c0
            go_upto_region 26 with fail
            apply wp_region_lit
            refine wpList_plain rfl fun KK hKK => ?_
            go_simp
            refine hKK _ _ ?_
            clear hKK KK
            refine wpList_store_row rfl 65 (.tmp 2) (.tmp 100) rfl w.heap.size #[.string PT, .int .i64 v3, .int .u8 ((48 : Nat) : Int), .int .i64 v0, .int .i64 v4, .string TL, .string TU, .string TG, .int .i64 v1, .int .i64 v2] rfl (by kernel_rfl) 65 zeroCs D9.out.zero (by kernel_rfl) rfl (by kernel_rfl) ?_
            have hfin : Blk (w9.setRow w.heap.size #[.string PT, .int .i64 v3, .int .u8 ((48 : Nat) : Int), .int .i64 v0, .int .i64 v4, .string TL, .string TU, .string TG, .int .i64 v1, .int .i64 v2]) w.heap.size 65 #[.string PT, .int .i64 v3, .int .u8 ((48 : Nat) : Int), .int .i64 v0, .int .i64 v4, .string TL, .string TU, .string TG, .int .i64 v1, .int .i64 v2] := setRow_heap w9 w.heap.size zeroCs #[.string PT, .int .i64 v3, .int .u8 ((48 : Nat) : Int), .int .i64 v0, .int .i64 v4, .string TL, .string TU, .string TG, .int .i64 v1, .int .i64 v2] 65 (0, 0) D9.out.zero
            have HFIN := Lib.hid hfin
            have HBF9 := Lib.hid (below_row D9.out.below (Nat.le_refl w.heap.size) #[.string PT, .int .i64 v3, .int .u8 ((48 : Nat) : Int), .int .i64 v0, .int .i64 v4, .string TL, .string TU, .string TG, .int .i64 v1, .int .i64 v2])
            clear hfin g0 x1 c1 c2 c3 c4 c5 c6 c7 c8 c9 D9
            rw [HCS.out] at *
            go_wp2_with fail
            exact bodyPost_ret (ret_headC _ w.heap.size (decH l) 0 HFIN.out _ rfl rfl) rfl (HF.out _ HBF9.out)
        · have dm : (TM.toList == [117, 115, 116, 97, 114, 0, 48, 48]) = false := beq_false_of_ne em
          have HEM : Hid (fld l 257 265 ≠ ustarL) := Lib.hid fun h => em (by rw [HTM.out, strF_toList, h]; rfl)
          clear em
          have HF := Lib.hid fun wx => HP.out zeroHead 160 wx (HNO.out fun hok => HEM.out hok.2.1)
          have HBZ := Lib.hid D9.out.below
          have HZZ := Lib.hid D9.out.zero
          clear D9
          go_upto_region 25 with fail
          apply wp_region_lit
          refine wpList_build rfl 65 #[] rfl (by kernel_rfl) ?_
          refine wpList_store_row rfl 65 (.tmp 2) (.tmp 99) rfl w.heap.size zeroCs rfl (by kernel_rfl) 65 zeroCs HZZ.out (by kernel_rfl) rfl (by kernel_rfl) ?_
          rw [setRow_self _ _ _ _ _ HZZ.out]
          go_wp2_with fail
          exact bodyPost_ret (ret_headC _ w.heap.size zeroHead 160 HZZ.out _ rfl rfl) rfl (HF.out _ HBZ.out)
      · have ds : ((v5 : Int) != (sn : Int)) = true := bne_iff_ne.2 (by omega)
        have HES : Hid ((numL l 5).1 ≠ (sumA l).1) := Lib.hid fun h => es (by rw [HV5.out, HSN.out]; exact h)
        clear es
        have HF := Lib.hid fun wx => HP.out zeroHead 160 wx (HNO.out fun hok => HES.out hok.2.2.2.1)
        have HBZ := Lib.hid D9.out.below
        have HZZ := Lib.hid D9.out.zero
        clear D9
        go_upto_region 25 with fail
        apply wp_region_lit
        refine wpList_build rfl 65 #[] rfl (by kernel_rfl) ?_
        refine wpList_store_row rfl 65 (.tmp 2) (.tmp 99) rfl w.heap.size zeroCs rfl (by kernel_rfl) 65 zeroCs HZZ.out (by kernel_rfl) rfl (by kernel_rfl) ?_
        rw [setRow_self _ _ _ _ _ HZZ.out]
        go_wp2_with fail
        exact bodyPost_ret (ret_headC _ w.heap.size zeroHead 160 HZZ.out _ rfl rfl) rfl (HF.out _ HBZ.out)
    · have dk : ((c.toNat : Int) == 0) = false := beq_false_of_ne (by omega)
      have HKL : Hid (c.toNat = kindL c) := Lib.hid (by unfold kindL; rw [if_neg fun h => ek (by rw [h]; rfl)])
      have D9 := D13
      clear ek D13
      go_upto_region 24 with fail
      clear y2 z2 dk
      generalize w18 = w9 at *
      have x1 : w9.cell? ⟨a1, 1, none⟩ = some (.bool B) := blk_cell D9.out.cut.1 1
      have g0 : w9.cell? ⟨a2, 0, none⟩ = some (.string PT) := D9.out.c0 0
      by_cases eb : B = true
      · subst eb
        have HF := Lib.hid fun wx => HP.out zeroHead 160 wx (HNO.out fun hok => HBB.out.1 rfl hok.2.2.1)
        have HBZ := Lib.hid D9.out.below
        have HZZ := Lib.hid D9.out.zero
        clear D9
        go_upto_region 25 with fail
        apply wp_region_lit
        refine wpList_build rfl 65 #[] rfl (by kernel_rfl) ?_
        refine wpList_store_row rfl 65 (.tmp 2) (.tmp 99) rfl w.heap.size zeroCs rfl (by kernel_rfl) 65 zeroCs HZZ.out (by kernel_rfl) rfl (by kernel_rfl) ?_
        rw [setRow_self _ _ _ _ _ HZZ.out]
        go_wp2_with fail
        exact bodyPost_ret (ret_headC _ w.heap.size zeroHead 160 HZZ.out _ rfl rfl) rfl (HF.out _ HBZ.out)
      have eb : B = false := by cases B <;> simp_all
      subst eb
      have HALL : Hid (∀ i, i < 6 → (numL l i).2 = 0) := Lib.hid (Classical.not_not.1 fun h => Bool.noConfusion (HBB.out.2 h))
      by_cases es : v5 = sn
      · have ds : ((v5 : Int) != (sn : Int)) = false := by rw [es]; simp
        have HSE := Lib.hid es
        clear es
        by_cases em : TM.toList = [117, 115, 116, 97, 114, 0, 48, 48]
        · have dm : (TM.toList == [117, 115, 116, 97, 114, 0, 48, 48]) = true := beq_iff_eq.2 em
          have HMK : Hid (fld l 257 265 = ustarL) := Lib.hid (by rw [HTM.out, strF_toList] at em; exact em)
          clear em
          by_cases ep : pathL l = []
          · have dp : PT.toList.isEmpty = true := by rw [HPT.out, strP_toList, ep]; rfl
            have HEP := Lib.hid ep
            clear ep
            have HF := Lib.hid fun wx => HP.out zeroHead 160 wx (HNO.out fun hok => hok.2.2.2.2 HEP.out)
            have HBZ := Lib.hid D9.out.below
            have HZZ := Lib.hid D9.out.zero
            clear D9
            go_upto_region 25 with fail
            apply wp_region_lit
            refine wpList_build rfl 65 #[] rfl (by kernel_rfl) ?_
            refine wpList_store_row rfl 65 (.tmp 2) (.tmp 99) rfl w.heap.size zeroCs rfl (by kernel_rfl) 65 zeroCs HZZ.out (by kernel_rfl) rfl (by kernel_rfl) ?_
            rw [setRow_self _ _ _ _ _ HZZ.out]
            go_wp2_with fail
            exact bodyPost_ret (ret_headC _ w.heap.size zeroHead 160 HZZ.out _ rfl rfl) rfl (HF.out _ HBZ.out)
          · have dp : PT.toList.isEmpty = false := by
              rw [HPT.out, strP_toList]
              cases hq : pathL l with
              | nil => exact absurd hq ep
              | cons x l => rfl
            have HPE := Lib.hid ep
            clear ep
            have HF := Lib.hid fun wx => HP.out (decH l) 0 wx (HYES.out ⟨HLEN.out, HMK.out, HALL.out, by rw [← HSN.out]; exact HV5.out.symm.trans HSE.out, HPE.out⟩)
            have hcs : #[.string PT, .int .i64 v3, .int .u8 c.toNat, .int .i64 v0, .int .i64 v4, .string TL, .string TU, .string TG, .int .i64 v1, .int .i64 v2] = headCs (decH l) := by
              unfold headCs decH
              dsimp only
              rw [HV0.out, HV1.out, HV2.out, HV3.out, HV4.out, HPT.out, HTL.out, HTU.out, HTG.out, HKL.out, HCC.out]
              rfl
            have HCS := Lib.hid hcs
            have c0 := D9.out.c0 0
            have c1 : w9.cell? ⟨a2, 1, none⟩ = some (.int .i64 v3) := D9.out.c0 1
            have c2 : w9.cell? ⟨a2, 2, none⟩ = some (.int .u8 c.toNat) := D9.out.c0 2
            have c3 : w9.cell? ⟨a2, 3, none⟩ = some (.int .i64 v0) := D9.out.c0 3
            have c4 : w9.cell? ⟨a2, 4, none⟩ = some (.int .i64 v4) := D9.out.c0 4
            have c5 : w9.cell? ⟨a2, 5, none⟩ = some (.string TL) := D9.out.c0 5
            have c6 : w9.cell? ⟨a2, 6, none⟩ = some (.string TU) := D9.out.c0 6
            have c7 : w9.cell? ⟨a2, 7, none⟩ = some (.string TG) := D9.out.c0 7
            have c8 : w9.cell? ⟨a2, 8, none⟩ = some (.int .i64 v1) := D9.out.c0 8
            have c9 : w9.cell? ⟨a2, 9, none⟩ = some (.int .i64 v2) := D9.out.c0 9
            clear hcs c0
            go_upto_region 26 with fail
            apply wp_region_lit
            refine wpList_plain rfl fun KK hKK => ?_
            go_simp
            refine hKK _ _ ?_
            clear hKK KK
            refine wpList_store_row rfl 65 (.tmp 2) (.tmp 100) rfl w.heap.size #[.string PT, .int .i64 v3, .int .u8 c.toNat, .int .i64 v0, .int .i64 v4, .string TL, .string TU, .string TG, .int .i64 v1, .int .i64 v2] rfl (by kernel_rfl) 65 zeroCs D9.out.zero (by kernel_rfl) rfl (by kernel_rfl) ?_
            have hfin : Blk (w9.setRow w.heap.size #[.string PT, .int .i64 v3, .int .u8 c.toNat, .int .i64 v0, .int .i64 v4, .string TL, .string TU, .string TG, .int .i64 v1, .int .i64 v2]) w.heap.size 65 #[.string PT, .int .i64 v3, .int .u8 c.toNat, .int .i64 v0, .int .i64 v4, .string TL, .string TU, .string TG, .int .i64 v1, .int .i64 v2] := setRow_heap w9 w.heap.size zeroCs #[.string PT, .int .i64 v3, .int .u8 c.toNat, .int .i64 v0, .int .i64 v4, .string TL, .string TU, .string TG, .int .i64 v1, .int .i64 v2] 65 (0, 0) D9.out.zero
            have HFIN := Lib.hid hfin
            have HBF9 := Lib.hid (below_row D9.out.below (Nat.le_refl w.heap.size) #[.string PT, .int .i64 v3, .int .u8 c.toNat, .int .i64 v0, .int .i64 v4, .string TL, .string TU, .string TG, .int .i64 v1, .int .i64 v2])
            clear hfin g0 x1 c1 c2 c3 c4 c5 c6 c7 c8 c9 D9
            rw [HCS.out] at *
            go_wp2_with fail
            exact bodyPost_ret (ret_headC _ w.heap.size (decH l) 0 HFIN.out _ rfl rfl) rfl (HF.out _ HBF9.out)
        · have dm : (TM.toList == [117, 115, 116, 97, 114, 0, 48, 48]) = false := beq_false_of_ne em
          have HEM : Hid (fld l 257 265 ≠ ustarL) := Lib.hid fun h => em (by rw [HTM.out, strF_toList, h]; rfl)
          clear em
          have HF := Lib.hid fun wx => HP.out zeroHead 160 wx (HNO.out fun hok => HEM.out hok.2.1)
          have HBZ := Lib.hid D9.out.below
          have HZZ := Lib.hid D9.out.zero
          clear D9
          go_upto_region 25 with fail
          apply wp_region_lit
          refine wpList_build rfl 65 #[] rfl (by kernel_rfl) ?_
          refine wpList_store_row rfl 65 (.tmp 2) (.tmp 99) rfl w.heap.size zeroCs rfl (by kernel_rfl) 65 zeroCs HZZ.out (by kernel_rfl) rfl (by kernel_rfl) ?_
          rw [setRow_self _ _ _ _ _ HZZ.out]
          go_wp2_with fail
          exact bodyPost_ret (ret_headC _ w.heap.size zeroHead 160 HZZ.out _ rfl rfl) rfl (HF.out _ HBZ.out)
      · have ds : ((v5 : Int) != (sn : Int)) = true := bne_iff_ne.2 (by omega)
        have HES : Hid ((numL l 5).1 ≠ (sumA l).1) := Lib.hid fun h => es (by rw [HV5.out, HSN.out]; exact h)
        clear es
        have HF := Lib.hid fun wx => HP.out zeroHead 160 wx (HNO.out fun hok => HES.out hok.2.2.2.1)
        have HBZ := Lib.hid D9.out.below
        have HZZ := Lib.hid D9.out.zero
        clear D9
        go_upto_region 25 with fail
        apply wp_region_lit
        refine wpList_build rfl 65 #[] rfl (by kernel_rfl) ?_
        refine wpList_store_row rfl 65 (.tmp 2) (.tmp 99) rfl w.heap.size zeroCs rfl (by kernel_rfl) 65 zeroCs HZZ.out (by kernel_rfl) rfl (by kernel_rfl) ?_
        rw [setRow_self _ _ _ _ _ HZZ.out]
        go_wp2_with fail
        exact bodyPost_ret (ret_headC _ w.heap.size zeroHead 160 HZZ.out _ rfl rfl) rfl (HF.out _ HBZ.out)
  · have dt : TP.toList.isEmpty = false := by
      rw [HTP.out, strP_toList]
      cases hq : cutZ (fld l 345 500) with
      | nil => exact absurd hq et
      | cons x l => rfl
    have hptz := HTPZ.out
    have hpz := HPZ.out
    have hmz : (TP ++ ⟨#[47]⟩).size ≤ 200 := by rw [ByteArray.size_append]; show TP.size + 1 ≤ 200; omega
    obtain ⟨PT, hPT⟩ : ∃ PT, PT = TP ++ ⟨#[47]⟩ ++ P0 := ⟨_, rfl⟩
    have HPT : Hid (PT = strP (pathL l)) := Lib.hid (by
      rw [hPT, hPL, HP0.out, HTP.out]
      unfold joinP
      rw [if_neg et]
      refine (strF_app _ [47]).symm ▸ ?_
      refine (strF_app _ _).trans ?_
      rw [List.append_assoc]
      rfl)
    have HPD := Lib.hid hPT
    have y0 : w18.cell? ⟨a2, 0, none⟩ = some (.string P0) := D13.out.c0 0
    have z0 : w18.frozen? ⟨a2, 0, none⟩ = false := D13.out.f0 0
    have D8 : Hid (Dec w (w18.setCell ⟨a2, 0, none⟩ (.string PT)) a1 a2 R500 B #[.string PT, .int .i64 v3, .int .u8 c.toNat, .int .i64 v0, .int .i64 v4, .string TL, .string TU, .string TG, .int .i64 v1, .int .i64 v2]) := Lib.hid (D13.out.set 0 (.string PT))
    clear et hPL hPT D13
    go_upto_region 22 with fail
    rw [← HPD.out]
    clear dt hptz hpz hmz y0 z0
    generalize w18.setCell ⟨a2, 0, none⟩ (.string PT) = w8 at *
    have y2 : w8.cell? ⟨a2, 2, none⟩ = some (.int .u8 c.toNat) := D8.out.c0 2
    have z2 : w8.frozen? ⟨a2, 2, none⟩ = false := D8.out.f0 2
    by_cases ek : c.toNat = 0
    · have dk : ((c.toNat : Int) == 0) = true := by rw [ek]; rfl
      have HKL : Hid (48 = kindL c) := Lib.hid (by unfold kindL; rw [if_pos (UInt8.toNat_inj.1 ek)])
      have D9 : Hid (Dec w (w8.setCell ⟨a2, 2, none⟩ (.int .u8 ((48 : Nat) : Int))) a1 a2 R500 B #[.string PT, .int .i64 v3, .int .u8 ((48 : Nat) : Int), .int .i64 v0, .int .i64 v4, .string TL, .string TU, .string TG, .int .i64 v1, .int .i64 v2]) := Lib.hid (D8.out.set 2 (.int .u8 ((48 : Nat) : Int)))
      clear ek D8
      go_upto_region 24 with fail
      rw [kinds_at]
      clear y2 z2 dk
      generalize w8.setCell ⟨a2, 2, none⟩ (.int .u8 ((48 : Nat) : Int)) = w9 at *
      have x1 : w9.cell? ⟨a1, 1, none⟩ = some (.bool B) := blk_cell D9.out.cut.1 1
      have g0 : w9.cell? ⟨a2, 0, none⟩ = some (.string PT) := D9.out.c0 0
      by_cases eb : B = true
      · subst eb
        have HF := Lib.hid fun wx => HP.out zeroHead 160 wx (HNO.out fun hok => HBB.out.1 rfl hok.2.2.1)
        have HBZ := Lib.hid D9.out.below
        have HZZ := Lib.hid D9.out.zero
        clear D9
        go_upto_region 25 with fail
        apply wp_region_lit
        refine wpList_build rfl 65 #[] rfl (by kernel_rfl) ?_
        refine wpList_store_row rfl 65 (.tmp 2) (.tmp 99) rfl w.heap.size zeroCs rfl (by kernel_rfl) 65 zeroCs HZZ.out (by kernel_rfl) rfl (by kernel_rfl) ?_
        rw [setRow_self _ _ _ _ _ HZZ.out]
        go_wp2_with fail
        exact bodyPost_ret (ret_headC _ w.heap.size zeroHead 160 HZZ.out _ rfl rfl) rfl (HF.out _ HBZ.out)
      have eb : B = false := by cases B <;> simp_all
      subst eb
      have HALL : Hid (∀ i, i < 6 → (numL l i).2 = 0) := Lib.hid (Classical.not_not.1 fun h => Bool.noConfusion (HBB.out.2 h))
      by_cases es : v5 = sn
      · have ds : ((v5 : Int) != (sn : Int)) = false := by rw [es]; simp
        have HSE := Lib.hid es
        clear es
        by_cases em : TM.toList = [117, 115, 116, 97, 114, 0, 48, 48]
        · have dm : (TM.toList == [117, 115, 116, 97, 114, 0, 48, 48]) = true := beq_iff_eq.2 em
          have HMK : Hid (fld l 257 265 = ustarL) := Lib.hid (by rw [HTM.out, strF_toList] at em; exact em)
          clear em
          by_cases ep : pathL l = []
          · have dp : PT.toList.isEmpty = true := by rw [HPT.out, strP_toList, ep]; rfl
            have HEP := Lib.hid ep
            clear ep
            have HF := Lib.hid fun wx => HP.out zeroHead 160 wx (HNO.out fun hok => hok.2.2.2.2 HEP.out)
            have HBZ := Lib.hid D9.out.below
            have HZZ := Lib.hid D9.out.zero
            clear D9
            go_upto_region 25 with fail
            apply wp_region_lit
            refine wpList_build rfl 65 #[] rfl (by kernel_rfl) ?_
            refine wpList_store_row rfl 65 (.tmp 2) (.tmp 99) rfl w.heap.size zeroCs rfl (by kernel_rfl) 65 zeroCs HZZ.out (by kernel_rfl) rfl (by kernel_rfl) ?_
            rw [setRow_self _ _ _ _ _ HZZ.out]
            go_wp2_with fail
            exact bodyPost_ret (ret_headC _ w.heap.size zeroHead 160 HZZ.out _ rfl rfl) rfl (HF.out _ HBZ.out)
          · have dp : PT.toList.isEmpty = false := by
              rw [HPT.out, strP_toList]
              cases hq : pathL l with
              | nil => exact absurd hq ep
              | cons x l => rfl
            have HPE := Lib.hid ep
            clear ep
            have HF := Lib.hid fun wx => HP.out (decH l) 0 wx (HYES.out ⟨HLEN.out, HMK.out, HALL.out, by rw [← HSN.out]; exact HV5.out.symm.trans HSE.out, HPE.out⟩)
            have hcs : #[.string PT, .int .i64 v3, .int .u8 ((48 : Nat) : Int), .int .i64 v0, .int .i64 v4, .string TL, .string TU, .string TG, .int .i64 v1, .int .i64 v2] = headCs (decH l) := by
              unfold headCs decH
              dsimp only
              rw [HV0.out, HV1.out, HV2.out, HV3.out, HV4.out, HPT.out, HTL.out, HTU.out, HTG.out, HKL.out, HCC.out]
              rfl
            have HCS := Lib.hid hcs
            have c0 := D9.out.c0 0
            have c1 : w9.cell? ⟨a2, 1, none⟩ = some (.int .i64 v3) := D9.out.c0 1
            have c2 : w9.cell? ⟨a2, 2, none⟩ = some (.int .u8 ((48 : Nat) : Int)) := D9.out.c0 2
            have c3 : w9.cell? ⟨a2, 3, none⟩ = some (.int .i64 v0) := D9.out.c0 3
            have c4 : w9.cell? ⟨a2, 4, none⟩ = some (.int .i64 v4) := D9.out.c0 4
            have c5 : w9.cell? ⟨a2, 5, none⟩ = some (.string TL) := D9.out.c0 5
            have c6 : w9.cell? ⟨a2, 6, none⟩ = some (.string TU) := D9.out.c0 6
            have c7 : w9.cell? ⟨a2, 7, none⟩ = some (.string TG) := D9.out.c0 7
            have c8 : w9.cell? ⟨a2, 8, none⟩ = some (.int .i64 v1) := D9.out.c0 8
            have c9 : w9.cell? ⟨a2, 9, none⟩ = some (.int .i64 v2) := D9.out.c0 9
            clear hcs c0
            go_upto_region 26 with fail
            apply wp_region_lit
            refine wpList_plain rfl fun KK hKK => ?_
            go_simp
            refine hKK _ _ ?_
            clear hKK KK
            refine wpList_store_row rfl 65 (.tmp 2) (.tmp 100) rfl w.heap.size #[.string PT, .int .i64 v3, .int .u8 ((48 : Nat) : Int), .int .i64 v0, .int .i64 v4, .string TL, .string TU, .string TG, .int .i64 v1, .int .i64 v2] rfl (by kernel_rfl) 65 zeroCs D9.out.zero (by kernel_rfl) rfl (by kernel_rfl) ?_
            have hfin : Blk (w9.setRow w.heap.size #[.string PT, .int .i64 v3, .int .u8 ((48 : Nat) : Int), .int .i64 v0, .int .i64 v4, .string TL, .string TU, .string TG, .int .i64 v1, .int .i64 v2]) w.heap.size 65 #[.string PT, .int .i64 v3, .int .u8 ((48 : Nat) : Int), .int .i64 v0, .int .i64 v4, .string TL, .string TU, .string TG, .int .i64 v1, .int .i64 v2] := setRow_heap w9 w.heap.size zeroCs #[.string PT, .int .i64 v3, .int .u8 ((48 : Nat) : Int), .int .i64 v0, .int .i64 v4, .string TL, .string TU, .string TG, .int .i64 v1, .int .i64 v2] 65 (0, 0) D9.out.zero
            have HFIN := Lib.hid hfin
            have HBF9 := Lib.hid (below_row D9.out.below (Nat.le_refl w.heap.size) #[.string PT, .int .i64 v3, .int .u8 ((48 : Nat) : Int), .int .i64 v0, .int .i64 v4, .string TL, .string TU, .string TG, .int .i64 v1, .int .i64 v2])
            clear hfin g0 x1 c1 c2 c3 c4 c5 c6 c7 c8 c9 D9
            rw [HCS.out] at *
            go_wp2_with fail
            exact bodyPost_ret (ret_headC _ w.heap.size (decH l) 0 HFIN.out _ rfl rfl) rfl (HF.out _ HBF9.out)
        · have dm : (TM.toList == [117, 115, 116, 97, 114, 0, 48, 48]) = false := beq_false_of_ne em
          have HEM : Hid (fld l 257 265 ≠ ustarL) := Lib.hid fun h => em (by rw [HTM.out, strF_toList, h]; rfl)
          clear em
          have HF := Lib.hid fun wx => HP.out zeroHead 160 wx (HNO.out fun hok => HEM.out hok.2.1)
          have HBZ := Lib.hid D9.out.below
          have HZZ := Lib.hid D9.out.zero
          clear D9
          go_upto_region 25 with fail
          apply wp_region_lit
          refine wpList_build rfl 65 #[] rfl (by kernel_rfl) ?_
          refine wpList_store_row rfl 65 (.tmp 2) (.tmp 99) rfl w.heap.size zeroCs rfl (by kernel_rfl) 65 zeroCs HZZ.out (by kernel_rfl) rfl (by kernel_rfl) ?_
          rw [setRow_self _ _ _ _ _ HZZ.out]
          go_wp2_with fail
          exact bodyPost_ret (ret_headC _ w.heap.size zeroHead 160 HZZ.out _ rfl rfl) rfl (HF.out _ HBZ.out)
      · have ds : ((v5 : Int) != (sn : Int)) = true := bne_iff_ne.2 (by omega)
        have HES : Hid ((numL l 5).1 ≠ (sumA l).1) := Lib.hid fun h => es (by rw [HV5.out, HSN.out]; exact h)
        clear es
        have HF := Lib.hid fun wx => HP.out zeroHead 160 wx (HNO.out fun hok => HES.out hok.2.2.2.1)
        have HBZ := Lib.hid D9.out.below
        have HZZ := Lib.hid D9.out.zero
        clear D9
        go_upto_region 25 with fail
        apply wp_region_lit
        refine wpList_build rfl 65 #[] rfl (by kernel_rfl) ?_
        refine wpList_store_row rfl 65 (.tmp 2) (.tmp 99) rfl w.heap.size zeroCs rfl (by kernel_rfl) 65 zeroCs HZZ.out (by kernel_rfl) rfl (by kernel_rfl) ?_
        rw [setRow_self _ _ _ _ _ HZZ.out]
        go_wp2_with fail
        exact bodyPost_ret (ret_headC _ w.heap.size zeroHead 160 HZZ.out _ rfl rfl) rfl (HF.out _ HBZ.out)
    · have dk : ((c.toNat : Int) == 0) = false := beq_false_of_ne (by omega)
      have HKL : Hid (c.toNat = kindL c) := Lib.hid (by unfold kindL; rw [if_neg fun h => ek (by rw [h]; rfl)])
      have D9 := D8
      clear ek D8
      go_upto_region 24 with fail
      clear y2 z2 dk
      generalize w8 = w9 at *
      have x1 : w9.cell? ⟨a1, 1, none⟩ = some (.bool B) := blk_cell D9.out.cut.1 1
      have g0 : w9.cell? ⟨a2, 0, none⟩ = some (.string PT) := D9.out.c0 0
      by_cases eb : B = true
      · subst eb
        have HF := Lib.hid fun wx => HP.out zeroHead 160 wx (HNO.out fun hok => HBB.out.1 rfl hok.2.2.1)
        have HBZ := Lib.hid D9.out.below
        have HZZ := Lib.hid D9.out.zero
        clear D9
        go_upto_region 25 with fail
        apply wp_region_lit
        refine wpList_build rfl 65 #[] rfl (by kernel_rfl) ?_
        refine wpList_store_row rfl 65 (.tmp 2) (.tmp 99) rfl w.heap.size zeroCs rfl (by kernel_rfl) 65 zeroCs HZZ.out (by kernel_rfl) rfl (by kernel_rfl) ?_
        rw [setRow_self _ _ _ _ _ HZZ.out]
        go_wp2_with fail
        exact bodyPost_ret (ret_headC _ w.heap.size zeroHead 160 HZZ.out _ rfl rfl) rfl (HF.out _ HBZ.out)
      have eb : B = false := by cases B <;> simp_all
      subst eb
      have HALL : Hid (∀ i, i < 6 → (numL l i).2 = 0) := Lib.hid (Classical.not_not.1 fun h => Bool.noConfusion (HBB.out.2 h))
      by_cases es : v5 = sn
      · have ds : ((v5 : Int) != (sn : Int)) = false := by rw [es]; simp
        have HSE := Lib.hid es
        clear es
        by_cases em : TM.toList = [117, 115, 116, 97, 114, 0, 48, 48]
        · have dm : (TM.toList == [117, 115, 116, 97, 114, 0, 48, 48]) = true := beq_iff_eq.2 em
          have HMK : Hid (fld l 257 265 = ustarL) := Lib.hid (by rw [HTM.out, strF_toList] at em; exact em)
          clear em
          by_cases ep : pathL l = []
          · have dp : PT.toList.isEmpty = true := by rw [HPT.out, strP_toList, ep]; rfl
            have HEP := Lib.hid ep
            clear ep
            have HF := Lib.hid fun wx => HP.out zeroHead 160 wx (HNO.out fun hok => hok.2.2.2.2 HEP.out)
            have HBZ := Lib.hid D9.out.below
            have HZZ := Lib.hid D9.out.zero
            clear D9
            go_upto_region 25 with fail
            apply wp_region_lit
            refine wpList_build rfl 65 #[] rfl (by kernel_rfl) ?_
            refine wpList_store_row rfl 65 (.tmp 2) (.tmp 99) rfl w.heap.size zeroCs rfl (by kernel_rfl) 65 zeroCs HZZ.out (by kernel_rfl) rfl (by kernel_rfl) ?_
            rw [setRow_self _ _ _ _ _ HZZ.out]
            go_wp2_with fail
            exact bodyPost_ret (ret_headC _ w.heap.size zeroHead 160 HZZ.out _ rfl rfl) rfl (HF.out _ HBZ.out)
          · have dp : PT.toList.isEmpty = false := by
              rw [HPT.out, strP_toList]
              cases hq : pathL l with
              | nil => exact absurd hq ep
              | cons x l => rfl
            have HPE := Lib.hid ep
            clear ep
            have HF := Lib.hid fun wx => HP.out (decH l) 0 wx (HYES.out ⟨HLEN.out, HMK.out, HALL.out, by rw [← HSN.out]; exact HV5.out.symm.trans HSE.out, HPE.out⟩)
            have hcs : #[.string PT, .int .i64 v3, .int .u8 c.toNat, .int .i64 v0, .int .i64 v4, .string TL, .string TU, .string TG, .int .i64 v1, .int .i64 v2] = headCs (decH l) := by
              unfold headCs decH
              dsimp only
              rw [HV0.out, HV1.out, HV2.out, HV3.out, HV4.out, HPT.out, HTL.out, HTU.out, HTG.out, HKL.out, HCC.out]
              rfl
            have HCS := Lib.hid hcs
            have c0 := D9.out.c0 0
            have c1 : w9.cell? ⟨a2, 1, none⟩ = some (.int .i64 v3) := D9.out.c0 1
            have c2 : w9.cell? ⟨a2, 2, none⟩ = some (.int .u8 c.toNat) := D9.out.c0 2
            have c3 : w9.cell? ⟨a2, 3, none⟩ = some (.int .i64 v0) := D9.out.c0 3
            have c4 : w9.cell? ⟨a2, 4, none⟩ = some (.int .i64 v4) := D9.out.c0 4
            have c5 : w9.cell? ⟨a2, 5, none⟩ = some (.string TL) := D9.out.c0 5
            have c6 : w9.cell? ⟨a2, 6, none⟩ = some (.string TU) := D9.out.c0 6
            have c7 : w9.cell? ⟨a2, 7, none⟩ = some (.string TG) := D9.out.c0 7
            have c8 : w9.cell? ⟨a2, 8, none⟩ = some (.int .i64 v1) := D9.out.c0 8
            have c9 : w9.cell? ⟨a2, 9, none⟩ = some (.int .i64 v2) := D9.out.c0 9
            clear hcs c0
            go_upto_region 26 with fail
            apply wp_region_lit
            refine wpList_plain rfl fun KK hKK => ?_
            go_simp
            refine hKK _ _ ?_
            clear hKK KK
            refine wpList_store_row rfl 65 (.tmp 2) (.tmp 100) rfl w.heap.size #[.string PT, .int .i64 v3, .int .u8 c.toNat, .int .i64 v0, .int .i64 v4, .string TL, .string TU, .string TG, .int .i64 v1, .int .i64 v2] rfl (by kernel_rfl) 65 zeroCs D9.out.zero (by kernel_rfl) rfl (by kernel_rfl) ?_
            have hfin : Blk (w9.setRow w.heap.size #[.string PT, .int .i64 v3, .int .u8 c.toNat, .int .i64 v0, .int .i64 v4, .string TL, .string TU, .string TG, .int .i64 v1, .int .i64 v2]) w.heap.size 65 #[.string PT, .int .i64 v3, .int .u8 c.toNat, .int .i64 v0, .int .i64 v4, .string TL, .string TU, .string TG, .int .i64 v1, .int .i64 v2] := setRow_heap w9 w.heap.size zeroCs #[.string PT, .int .i64 v3, .int .u8 c.toNat, .int .i64 v0, .int .i64 v4, .string TL, .string TU, .string TG, .int .i64 v1, .int .i64 v2] 65 (0, 0) D9.out.zero
            have HFIN := Lib.hid hfin
            have HBF9 := Lib.hid (below_row D9.out.below (Nat.le_refl w.heap.size) #[.string PT, .int .i64 v3, .int .u8 c.toNat, .int .i64 v0, .int .i64 v4, .string TL, .string TU, .string TG, .int .i64 v1, .int .i64 v2])
            clear hfin g0 x1 c1 c2 c3 c4 c5 c6 c7 c8 c9 D9
            rw [HCS.out] at *
            go_wp2_with fail
            exact bodyPost_ret (ret_headC _ w.heap.size (decH l) 0 HFIN.out _ rfl rfl) rfl (HF.out _ HBF9.out)
        · have dm : (TM.toList == [117, 115, 116, 97, 114, 0, 48, 48]) = false := beq_false_of_ne em
          have HEM : Hid (fld l 257 265 ≠ ustarL) := Lib.hid fun h => em (by rw [HTM.out, strF_toList, h]; rfl)
          clear em
          have HF := Lib.hid fun wx => HP.out zeroHead 160 wx (HNO.out fun hok => HEM.out hok.2.1)
          have HBZ := Lib.hid D9.out.below
          have HZZ := Lib.hid D9.out.zero
          clear D9
          go_upto_region 25 with fail
          apply wp_region_lit
          refine wpList_build rfl 65 #[] rfl (by kernel_rfl) ?_
          refine wpList_store_row rfl 65 (.tmp 2) (.tmp 99) rfl w.heap.size zeroCs rfl (by kernel_rfl) 65 zeroCs HZZ.out (by kernel_rfl) rfl (by kernel_rfl) ?_
          rw [setRow_self _ _ _ _ _ HZZ.out]
          go_wp2_with fail
          exact bodyPost_ret (ret_headC _ w.heap.size zeroHead 160 HZZ.out _ rfl rfl) rfl (HF.out _ HBZ.out)
      · have ds : ((v5 : Int) != (sn : Int)) = true := bne_iff_ne.2 (by omega)
        have HES : Hid ((numL l 5).1 ≠ (sumA l).1) := Lib.hid fun h => es (by rw [HV5.out, HSN.out]; exact h)
        clear es
        have HF := Lib.hid fun wx => HP.out zeroHead 160 wx (HNO.out fun hok => HES.out hok.2.2.2.1)
        have HBZ := Lib.hid D9.out.below
        have HZZ := Lib.hid D9.out.zero
        clear D9
        go_upto_region 25 with fail
        apply wp_region_lit
        refine wpList_build rfl 65 #[] rfl (by kernel_rfl) ?_
        refine wpList_store_row rfl 65 (.tmp 2) (.tmp 99) rfl w.heap.size zeroCs rfl (by kernel_rfl) 65 zeroCs HZZ.out (by kernel_rfl) rfl (by kernel_rfl) ?_
        rw [setRow_self _ _ _ _ _ HZZ.out]
        go_wp2_with fail
        exact bodyPost_ret (ret_headC _ w.heap.size zeroHead 160 HZZ.out _ rfl rfl) rfl (HF.out _ HBZ.out)
end Go.Proofs.YtdjmfkodjjjhfaaGreatDoor
