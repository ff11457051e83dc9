/- Take. Conditions: a text of at most a million bytes. -/
import Derived.Test.YtcmhcfbmjceioaaVf
import Derived.Test.YtcmhcfbmjceioaaJm
namespace Go.Proofs.Ytcmhcfbmjceioaa
open Go.RowKit

set_option maxRecDepth 100000 in
theorem ctake_out (w : World) (s : ByteArray) (p : Int) (hs : s.size ≤ 1000000) (h : p < 0 ∨ 8 * (s.size : Int) < p) : Calls Try.prog 20 #[.string s, .int .i64 p] w (TakePost w ([], 0, 2)) := by
  have HN := Lib.hid (newR_none w s p (by omega) h)
  clear h
  go_enter Try.func20, Try.ntmps20
  go_wp2_with fail
  refine HN.out.mono ?_
  rintro e w1 ⟨rfl, rfl⟩
  go_wp2_with fail
  go_ret3
  exact ⟨rfl, Below.refl _ _⟩

set_option maxRecDepth 100000 in
theorem ctake_short (w : World) (s : ByteArray) (p : Nat) (hs : s.size ≤ 1000000) (h : p ≤ 8 * s.size) (h2 : 8 * s.size < p + 16) : Calls Try.prog 20 #[.string s, .int .i64 p] w (TakePost w ([], 0, 10)) := by
  have HN := Lib.hid (newR_yes w s p (by omega) (by omega) (by omega))
  have HR := Lib.hid (isR_new w w.heap.size (Nat.le_refl _) s p)
  have HT := Lib.hid fun w1 (hR : IsR w.heap.size w1 w.heap.size s p) => take_short w.heap.size w1 w.heap.size s p 16 hR (by omega) (by omega) h h2
  have HB := Lib.hid ((Below.refl w.heap.size w).alloc (Nat.le_refl _) (.cells #[.bool true, .string s, .int .i64 p] 77))
  clear h h2
  go_enter Try.func20, Try.ntmps20
  go_wp2_with fail
  refine HN.out.mono ?_
  rintro e w1 ⟨rfl, hw1⟩
  have HR1 := Lib.hid (show IsR w.heap.size w1 w.heap.size s p by rw [hw1]; exact HR.out)
  have HB1 := Lib.hid (show Below w.heap.size w w1 by rw [hw1]; exact HB.out)
  clear hw1 HR HB
  have HT1 := Lib.hid (HT.out w1 HR1.out)
  clear HT
  go_wp2_with fail
  refine HT1.out.mono ?_
  rintro e w2 ⟨rfl, hR2, hS2⟩
  have HB2 := Lib.hid (HB1.out.trans hS2.below)
  clear hR2 hS2
  go_wp2_with fail
  go_ret3
  exact ⟨rfl, HB2.out⟩

set_option maxHeartbeats 1600000 in
set_option maxRecDepth 100000 in
theorem ctake_any (w : World) (s : ByteArray) (p : Nat) (hs : s.size ≤ 1000000) (h2 : p + 16 ≤ 8 * s.size) : Calls Try.prog 20 #[.string s, .int .i64 p] w (TakePost w (takeL (bitsB s.data.toList) p)) := by
  obtain ⟨hz, hi⟩ := zeroRows
  obtain ⟨i50, hi50, hz50⟩ := info_u64
  obtain ⟨l, hl⟩ : ∃ l, l = bitsB s.data.toList := ⟨_, rfl⟩
  have hll : l.length = 8 * s.size := by rw [hl, bitsB_length]; rfl
  have hlb : Bit01 l := by rw [hl]; exact bit01_bitsB _
  obtain ⟨fl, hfl⟩ : ∃ fl : Nat → Nat, fl = fun i => l.getD (p + i) 0 := ⟨_, rfl⟩
  obtain ⟨G, hG⟩ : ∃ G, G = goT l fl (List.range 16) (p + 16) [] := ⟨_, rfl⟩
  have hans : takeL l p = endT G := by rw [hG, hfl, takeL_end l p (by omega)]
  obtain ⟨u, hu⟩ : ∃ u, u = val ((l.drop p).take 16) := ⟨_, rfl⟩
  have hubit : ∀ i, i < 16 → u.testBit (15 - i) = (fl i == 1) := fun i hi => by
    rw [hu, hfl]
    exact val_bit l p i hlb (by omega) hi
  have hu6 : u < 65536 := by rw [hu]; exact val_16 l p hlb (by omega)
  have hfl01 : ∀ i, i < 16 → fl i = 0 ∨ fl i = 1 := fun i hi => by
    have : fl i < 2 := by
      rw [hfl]
      show l.getD (p + i) 0 < 2
      rw [List.getD_eq_getElem?_getD, List.getElem?_eq_getElem (by omega)]
      exact hlb _ (List.getElem_mem _)
    omega
  have HN := Lib.hid (newR_yes w s p (by omega) (by omega) (by omega))
  have HR := Lib.hid (isR_new w w.heap.size (Nat.le_refl _) s p)
  have HT := Lib.hid fun w1 (hR : IsR w.heap.size w1 w.heap.size s p) => take_ok w.heap.size w1 w.heap.size s p 16 hR (by omega) (by omega) h2
  rw [← hl, ← hu] at HT
  have HTK := Lib.hid fun (w1 : World) (P : Nat) (hR : IsR w.heap.size w1 w.heap.size s P) (hP : P + 16 ≤ 8 * s.size) => take_ok w.heap.size w1 w.heap.size s P 16 hR (by omega) (by omega) hP
  rw [← hl] at HTK
  have HTS := Lib.hid fun (w1 : World) (P : Nat) (hR : IsR w.heap.size w1 w.heap.size s P) (hP : P ≤ 8 * s.size) (hP2 : 8 * s.size < P + 16) => take_short w.heap.size w1 w.heap.size s P 16 hR (by omega) (by omega) hP hP2
  have HB := Lib.hid ((Below.refl w.heap.size w).alloc (Nat.le_refl _) (.cells #[.bool true, .string s, .int .i64 p] 77))
  have HLL := Lib.hid hll
  have HLB := Lib.hid hlb
  have HG0 := Lib.hid hG
  have HANS := Lib.hid hans
  have HUB := Lib.hid hubit
  have HFL := Lib.hid hfl01
  have HI := Lib.hid hi
  have HS := Lib.hid arrG_size
  have HO := Lib.hid arrG_one
  have HSET := Lib.hid arrG_set
  have HGT := Lib.hid arrG_get
  have HBIT := Lib.hid bit_any
  have HRIS := Lib.hid rising_any
  have HP : Hid (∀ (ans : List UInt8 × Nat × Nat) w', takeL l p = ans → Below w.heap.size w w' → TakePost w (takeL l p) (.returned (.tuple #[.string (strB ans.1), .int .i64 ans.2.1, .int .i64 ans.2.2])) w') := Lib.hid fun ans w' h1 h2 => ⟨by rw [h1], h2⟩
  rw [← hl]
  clear hl hll hlb hfl hG hans hu hubit hfl01 hi
  generalize TakePost w (takeL l p) = PO at *
  generalize takeL l p = ans at *
  generalize arrG = T at *
  go_enter Try.func20, Try.ntmps20
  go_wp2_with fail
  refine HN.out.mono ?_
  rintro e w1 ⟨rfl, hw1⟩
  have HR1 := Lib.hid (show IsR w.heap.size w1 w.heap.size s p by rw [hw1]; exact HR.out)
  have HB1 := Lib.hid (show Below w.heap.size w w1 by rw [hw1]; exact HB.out)
  clear hw1 HR HB
  have HT1 := Lib.hid (HT.out w1 HR1.out)
  clear HT
  go_wp2_with fail
  refine HT1.out.mono ?_
  rintro e w2 ⟨rfl, hR2, hS2⟩
  have hb2 := HB1.out.trans hS2.below
  have hz2 := hb2.size
  have hlt2 := blk_lt hR2.blk
  have hb3 := hb2.alloc hb2.size (.cells (T fun _ => 0) 52)
  have HB3 := Lib.hid hb3
  have HR3 := Lib.hid (hR2.alloc (.cells (T fun _ => 0) 52))
  have H43 := Lib.hid (blk_new w2 52 (T fun _ => 0))
  obtain ⟨g, hg⟩ : ∃ g, g = w2.heap.size := ⟨_, rfl⟩
  have hgr : w.heap.size < g := by omega
  rw [← hg] at H43
  have HGG := Lib.hid hg
  clear hb2 hS2 hR2 hb3 HT1 HR1 HB1 hg
  go_wp2_with fail
  rw [← HGG.out]
  go_loopw [9, 26] (fun ev i wx => ∃ (q P : Nat) (f : Nat → Nat) (out : List UInt8), q ≤ 16 ∧ i = .int .i64 q ∧ ev = .int .i64 0 ∧ P ≤ 8 * s.size ∧ Hid (TookN f q out) ∧ Hid (G = goT l fl ((List.range 16).drop q) P out) ∧ IsR w.heap.size wx w.heap.size s P ∧ Blk wx g 52 (T f) ∧ Below w.heap.size w wx) (fun _ i _ => 16 - (intOf i).toNat)
  case atStart => exact ⟨0, p + 16, _, [], Nat.zero_le _, rfl, rfl, h2, took_none, HG0.out, HR3.out, H43.out, HB3.out⟩
  case round =>
    obtain ⟨q, P, f, out, hq, rfl, rfl, hP, htk, hgo, hR, hb0, hb⟩ := hrel
    have HRR := Lib.hid hR
    have H4 := Lib.hid hb0
    have HB := Lib.hid hb
    by_cases e : q < 16
    · have hdr : (List.range 16).drop q = q :: (List.range 16).drop (q + 1) := by
        rw [List.drop_eq_getElem_cons (by simpa using e), List.getElem_range]
      have hgo2 := hgo.out
      rw [hdr, goT] at hgo2
      have hub := HUB.out q e
      have hiff := bit_and_pow u (15 - q)
      have hp6 : 2 ^ (15 - q) < 65536 := Nat.pow_lt_pow_right (by decide) (show 15 - q < 16 by omega)
      have hand := u64_and_nat u (2 ^ (15 - q)) (by omega) (by omega)
      obtain ⟨y, hy⟩ : ∃ y, y = u &&& 2 ^ (15 - q) := ⟨_, rfl⟩
      rw [← hy] at hand hiff
      have hbit := fun w1 : World => HBIT.out w1 q e
      obtain ⟨x, hx⟩ : ∃ x, x = 2 ^ (15 - q) := ⟨_, rfl⟩
      rw [← hx] at hand
      replace hbit : ∀ w1 : World, Calls Try.prog 40 #[.int .i64 q] w1 fun e w' => e = .returned (.int .u64 (x : Int)) ∧ w1 = w' := by
        intro w1
        rw [hx]
        exact hbit w1
      have HBIT2 := Lib.hid hbit
      clear hbit hy hx hp6 hdr hR hb0 hb
      rcases HFL.out q e with h0 | h0
      · have hy0 : y = 0 := by
          by_cases hy0 : y = 0
          · exact hy0
          · have : u.testBit (15 - q) = true := by rw [← hiff]; exact hy0
            rw [hub, h0] at this
            simp at this
        rw [if_pos h0] at hgo2
        subst hy0
        have HGO := Lib.hid hgo2
        clear hgo2 hub hiff h0
        go_wp2_with (first | (go_at_call 40; refine (HBIT2.out _).mono ?_; rintro e w' ⟨rfl, rfl⟩))
        go_roundw
        case rel => exact ⟨q + 1, P, f, out, by omega, by go_num, rfl, hP, took_no htk.out, HGO, HRR.out, H4.out, HB.out⟩
        case measure => simp [intOf]; omega
      · have hy0 : y ≠ 0 := by
          have : (y ≠ 0) = (u.testBit (15 - q) = true) := hiff
          rw [this, hub, h0]
          rfl
        have hne := neq_zero hy0
        have hfq : f q = 0 := htk.out.2.1 q (Nat.le_refl _)
        have hcell := blk_cell H4.out q
        have hfro := blk_frozen H4.out q
        rw [HGT.out f q e, hfq] at hcell
        have hsz := HS.out f
        have hqI : (0 : Int) ≤ (q : Int) := by omega
        have hqJ : (q : Int) < 16 := by omega
        rw [if_neg (by omega)] at hgo2
        by_cases hs2 : P + 16 ≤ 8 * s.size
        · rw [if_neg (by rw [HLL.out]; omega), ← row_read l P q HLB.out (by rw [HLL.out]; exact hs2)] at hgo2
          have hv6 := val_16 l P HLB.out (by rw [HLL.out]; exact hs2)
          have HTK2 := Lib.hid (HTK.out wr P HRR.out hs2)
          obtain ⟨v, hv⟩ : ∃ v, v = val ((l.drop P).take 16) := ⟨_, rfl⟩
          rw [← hv] at hgo2 hv6 HTK2
          have HGO := Lib.hid hgo2
          have HTN := Lib.hid (took_yes htk.out hv6)
          clear hgo2 hub hiff h0 hv hfq hcell hfro
          go_wp2_with (first | (go_at_call 40; refine (HBIT2.out _).mono ?_; rintro e w' ⟨rfl, rfl⟩))
          refine HTK2.out.mono ?_
          rintro e w5 ⟨rfl, hR5, hS5⟩
          have h45 := hS5.blk H4.out (by simp; omega) (by decide)
          have hcell := blk_cell h45 q
          have hfro := blk_frozen h45 q
          rw [HGT.out f q e] at hcell
          have H45 := Lib.hid h45
          have HB5 := Lib.hid (HB.out.trans hS5.below)
          have HR5 := Lib.hid hR5
          clear h45 hR5 hS5
          go_wp2_with fail
          go_roundw
          case rel =>
            refine ⟨q + 1, P + 16, _, _, by omega, by go_num, rfl, by omega, HTN, HGO, ⟨HR5.out.lo, ?_⟩, ?_, HB5.out.setCell (p := ⟨g, q, none⟩) (by show _ ≤ g; omega) _⟩
            · exact blk_apart HR5.out.blk (by omega) _ _
            · have := blk_set H45.out q (.int .u64 (v : Nat))
              rw [HSET.out] at this
              exact this
          case measure => simp [intOf]; omega
        · rw [if_pos (by rw [HLL.out]; omega)] at hgo2
          have hans : ans = ([], 0, 10) := by rw [HANS.out, hgo2]; rfl
          have HTS2 := Lib.hid (HTS.out wr P HRR.out hP (by omega))
          have HAN := Lib.hid hans
          clear hgo2 hub hiff h0 hfq hcell hfro hans
          go_wp2_with (first | (go_at_call 40; refine (HBIT2.out _).mono ?_; rintro e w' ⟨rfl, rfl⟩))
          refine HTS2.out.mono ?_
          rintro e w5 ⟨rfl, hR5, hS5⟩
          have h45 := hS5.blk H4.out (by simp; omega) (by decide)
          have hcell := blk_cell h45 q
          have hfro := blk_frozen h45 q
          rw [HGT.out f q e] at hcell
          have HB5 := Lib.hid (HB.out.trans hS5.below)
          have HPE := Lib.hid (HP.out _ (w5.setCell ⟨g, q, none⟩ (.int .u64 0)) HAN.out (HB5.out.setCell (p := ⟨g, q, none⟩) (by show _ ≤ g; omega) _))
          clear h45 hR5 hS5 HP HAN HANS
          go_wp2_with fail
          go_ret3
          exact HPE.out
    · obtain rfl : q = 16 := by omega
      have hgo2 : G = some (out, P) := hgo.out
      have hrise : risingF f = out := took_all htk.out
      have hf6 : ∀ i, i < 16 → f i < 65536 := fun i _ => htk.out.1 i
      have hri := fun w9 => HRIS.out w9 f hf6
      rw [hrise] at hri
      have HRI := Lib.hid hri
      have HI2 := Lib.hid (show (Try.prog.info? 52).map (·.size) = some (T f).size by rw [HS.out]; exact HI.out)
      have c0 := blk_cell hR.blk 0
      have c2 := blk_cell hR.blk 2
      simp at c0 c2
      have hz9 := hb.size
      obtain ⟨S, hS⟩ : ∃ S : ByteArray, S = strB out := ⟨_, rfl⟩
      rw [← hS] at HRI
      have HSS := Lib.hid hS
      have hsz := HS.out f
      have HGO := Lib.hid hgo2
      clear hgo2 hrise hf6 hri hR hb0 hb hS hi50 hz50 hz
      generalize T f = Tf at *
      go_upto_region 16 with fail
      refine wp_region_lit (wpList_load_row rfl rfl rfl H4.out Try.underlying52 HI2.out ?_)
      go_wp2_with fail
      refine (HRI.out wr).mono ?_
      rintro e w6 ⟨rfl, hb6⟩
      have HB6 := Lib.hid (HB.out.trans (hb6.mono hz9))
      by_cases h0 : S.size = 0
      · have hd : S = ⟨#[]⟩ := by
          apply ByteArray.ext
          exact Array.eq_empty_of_size_eq_zero h0
        have hout : out = [] := by
          have h1 := HSS.out
          rw [hd] at h1
          have h3 : (⟨#[]⟩ : ByteArray).data.toList = (strB out).data.toList := by rw [h1]
          exact h3.symm
        have hans : ans = ([], 0, 60) := by rw [HANS.out, HGO.out, hout]; rfl
        have HPE := Lib.hid (HP.out _ w6 hans HB6.out)
        clear HP HANS HGO HSS hout hans hb6 h0
        subst hd
        go_wp2_with fail
        go_ret3
        exact HPE.out
      · have hne := not_empty S (by omega)
        have hout : ¬ out = [] := by
          intro h1
          have h3 := HSS.out
          rw [h1] at h3
          rw [h3] at h0
          exact h0 rfl
        have hans : ans = (out, P, 0) := by
          rw [HANS.out, HGO.out]
          show (if out = [] then (([] : List UInt8), 0, 60) else (out, P, 0)) = _
          rw [if_neg hout]
        have hs6 := step_of_below hb6
        have hR6 := HRR.out.step hs6 List.not_mem_nil List.not_mem_nil
        have c0 := blk_cell hR6.blk 0
        have c2 := blk_cell hR6.blk 2
        simp at c0 c2
        have HAT := Lib.hid (rat_yes w6 w.heap.size P c0 c2)
        have hpe := HP.out _ w6 hans HB6.out
        rw [← HSS.out] at hpe
        have HPE := Lib.hid hpe
        clear HP HANS HGO HSS hout hans hb6 h0 hs6 hR6 c0 c2 hpe
        go_wp2_with fail
        refine HAT.out.mono ?_
        rintro e w8 ⟨rfl, rfl⟩
        go_wp2_with fail
        go_ret3
        exact HPE.out

/-- Take, at any place. -/
theorem ctake_all (w : World) (s : ByteArray) (p : Int) (hs : s.size ≤ 1000000) : Calls Try.prog 20 #[.string s, .int .i64 p] w (TakePost w (takeAns (bitsB s.data.toList) p)) := by
  have hll : (bitsB s.data.toList).length = 8 * s.size := by rw [bitsB_length]; rfl
  by_cases h1 : p < 0
  · rw [show takeAns (bitsB s.data.toList) p = ([], 0, 2) from if_pos h1]
    exact ctake_out w s p hs (.inl h1)
  · obtain ⟨q, rfl⟩ : ∃ q : Nat, p = q := ⟨p.toNat, by omega⟩
    have e : takeAns (bitsB s.data.toList) (q : Int) = takeL (bitsB s.data.toList) q := by
      unfold takeAns
      rw [if_neg h1, Int.toNat_natCast]
    rw [e]
    by_cases h2 : 8 * s.size < q
    · have : takeL (bitsB s.data.toList) q = ([], 0, 2) := by
        unfold takeL
        rw [if_pos (by omega)]
      rw [this]
      exact ctake_out w s q hs (.inr (by omega))
    · by_cases h3 : 8 * s.size < q + 16
      · have : takeL (bitsB s.data.toList) q = ([], 0, 10) := by
          unfold takeL
          rw [if_neg (by omega), if_pos (by omega)]
        rw [this]
        exact ctake_short w s q hs (by omega) h3
      · exact ctake_any w s q hs (by omega)

end Go.Proofs.Ytcmhcfbmjceioaa
