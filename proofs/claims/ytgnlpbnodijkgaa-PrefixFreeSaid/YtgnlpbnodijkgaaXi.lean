/- prefix.Codes. Conditions: slices of whole cells. -/
import Derived.Test.YtgnlpbnodijkgaaXg
import Derived.Test.YtgnlpbnodijkgaaOg
import Derived.Test.YtgnlpbnodijkgaaWb
namespace Go.Proofs.Ytgnlpbnodijkgaa
open Go.RowKit

/-- A table stored where there was none. -/
theorem tab_stored (w : World) (T : Array Value) (hs : T.size = 65) (h1 : T.all (·.oneCell') = true) : (storeCells ⟨w.heap.size, 0, none⟩ T.toList 0).run Try.prog (w.alloc (.cells tb0 57)) = .ok () ((w.alloc (.cells tb0 57)).setRow w.heap.size T) ∧
    Blk ((w.alloc (.cells tb0 57)).setRow w.heap.size T) w.heap.size 57 T ∧ Below w.heap.size w ((w.alloc (.cells tb0 57)).setRow w.heap.size T) := by
  refine ⟨store_cells_row (blk_new w 57 tb0) (by rw [hs]; exact zeroTb.2) (by rw [tb0_size, hs]) h1, setRow_heap _ _ _ _ _ _ (blk_new w 57 tb0), ?_⟩
  exact below_setRow ((Below.refl _ _).alloc (Nat.le_refl _) _) (Nat.le_refl _) _
/-- The table of lengths, stored. -/
theorem tab_is (w w2 : World) (A : Option Addr) (n c g B : Nat) (l : List Nat) (F : Nat → Nat) (T : Array Value) (hT : T = tb (.slice A n c) (cntL l) (fun k => cd l k 0) (plcL l) (.slice (some ⟨g, 0, none⟩) n n)) (hk : Blk w2 w.heap.size 57 T) (hb : Below w.heap.size w w2) (hr : FRow w B g n n F) (hs : SymOk l F n) : TabIs w2 w.heap.size A n c l := by
  subst hT
  exact ⟨g, F, B, hk, hr.below hb hr.lt.2, hs⟩

set_option maxHeartbeats 1600000 in
set_option maxRecDepth 100000 in
theorem ccodes_any (w : World) (A : Option Addr) (n c : Nat) (L : List Int) (hL : ZIn w A n L) (hn : n ≤ maxLen) : Calls Try.prog 10 #[.slice A n c] w (ListPost w (codesAns L)) := by
  have hz := zeroTb.1
  rw [show tb (.slice none 0 0) (fun _ => 0) (fun _ => 0) (fun _ => 0) (.slice none 0 0) = tb0 from rfl] at hz
  have HST := Lib.hid tab_stored
  by_cases h : LenOk L
  · have HT := Lib.hid (tableOf_yes w A n c L hL hn h)
    have HP : Hid (∀ (g : Nat) (w' : World), FRow w' w.heap.size g n n (codeN (nl L)) → Below w.heap.size w w' → ListPost w (codesAns L) (.returned (.tuple #[.slice (some ⟨g, 0, none⟩) n n, .int .i64 0])) w') := Lib.hid fun g w' h1 h2 => by
      refine ⟨.slice (some ⟨g, 0, none⟩) n n, (by rw [codesAns, if_pos h]; rfl), ?_, h2⟩
      rw [codesAns, if_pos h]
      show w'.ownsRow w.heap.size 3 1 _ ((List.range L.length).map (codeN (nl L))).length (((List.range L.length).map (codeN (nl L))).map iv)
      rw [List.length_map, List.length_range, List.map_map, hL.1]
      exact h1
    have HO := Lib.hid tb0_size
    generalize ListPost w (codesAns L) = PO at *
    have HL := Lib.hid hL
    have HK := Lib.hid h
    have HTS := Lib.hid fun (K F P : Nat → Nat) (s4 : Value) => tb_size (.slice A n c) K F P s4
    have HIS := Lib.hid tab_is
    have HCD := Lib.hid ccodes_tab
    clear hL h
    generalize tb0 = Z at *
    go_enter Try.func10, Try.ntmps10
    go_wp2_with fail
    refine HT.out.mono ?_
    rintro e w2 ⟨g, F, rfl, hrow, hsym, hb⟩
    obtain ⟨T9, hT9⟩ : ∃ T9, T9 = tb (.slice A n c) (cntL (nl L)) (fun k => cd (nl L) k 0) (plcL (nl L)) (.slice (some ⟨g, 0, none⟩) n n) := ⟨_, rfl⟩
    have hs9 : T9.size = 65 := by rw [hT9, HTS.out]
    have ho9 : T9.all (·.oneCell') = true := by rw [hT9]; exact tb_one _ _ _ _ _ rfl rfl
    obtain ⟨hst, hk3, hb3⟩ := HST.out w2 T9 hs9 ho9
    have hT3 := HIS.out w2 _ A n c g _ _ F T9 hT9 hk3 hb3 hrow hsym
    have hB3 := hb.trans (hb3.mono hb.size)
    have HC := Lib.hid (HCD.out _ w2.heap.size A n c L hT3 (HL.out.below hB3) HK.out)
    have HB3 := Lib.hid hB3
    rw [← hT9]
    clear hT9 ho9 hk3 hb3 hT3 hB3 hrow hsym hb HT
    go_wp2_with fail
    refine HC.out.mono ?_
    rintro e w4 ⟨gc, rfl, hrow4, hb4⟩
    have HPE := Lib.hid (HP.out gc w4 (World.ownsRow.mono hrow4 HB3.out.size) (HB3.out.trans (hb4.mono HB3.out.size)))
    clear hrow4 hb4
    go_wp2_with fail
    first | exact HPE.out | (go_ret2; exact HPE.out)
  · have HT := Lib.hid (tableOf_no w A n c L hL hn h)
    have HP : Hid (∀ (w' : World), Below w.heap.size w w' → ListPost w (codesAns L) (.returned (.tuple #[.slice none 0 0, .int .i64 80])) w') := Lib.hid fun w' h2 => by
      refine ⟨.slice none 0 0, (by rw [codesAns, if_neg h]; rfl), ?_, h2⟩
      rw [codesAns, if_neg h]
      exact World.ownsRow_nil _ _ _ _
    generalize ListPost w (codesAns L) = PO at *
    have HO := Lib.hid tb0_size
    have HONE := Lib.hid tb0_one
    clear hL h
    generalize tb0 = Z at *
    go_enter Try.func10, Try.ntmps10
    go_wp2_with fail
    refine HT.out.mono ?_
    rintro e w2 ⟨rfl, hb⟩
    have hs9 : Z.size = 65 := HO.out
    obtain ⟨hst, hk3, hb3⟩ := HST.out w2 Z hs9 HONE.out
    have HPE := Lib.hid (HP.out _ (hb.trans (hb3.mono hb.size)))
    clear hk3 hb3 hb HT
    go_wp2_with fail
    first | exact HPE.out | (go_ret2; exact HPE.out)

end Go.Proofs.Ytgnlpbnodijkgaa
/- prefix.Encode. Conditions: at most 2000 symbols. -/
namespace Go.Proofs.Ytgnlpbnodijkgaa
open Go.RowKit

theorem length_same (w : World) (b off n c s x : Nat) (hs : s < n) (hx : w.cell? ⟨b, off + s, none⟩ = some (.int .i64 (x : Nat))) : Calls Try.prog 31 #[.slice (some ⟨b, off, none⟩) n c, .int .i64 s] w fun e w' => e = .returned (.int .i64 (x : Nat)) ∧ w' = w :=
  (length_any w b off n c s x hs hx).mono fun _ _ h => ⟨h.1, h.2.symm⟩

/-- What Encode holds as it goes. -/
def EncAt (w wx : World) (g gc p : Nat) (A : Option Addr) (n c : Nat) (l : List Nat) (v : Value) (o : List Nat) : Prop :=
  TabIs wx g A n c l ∧ FRow wx w.heap.size gc n n (codeN l) ∧ IsW w.heap.size wx p v o ∧ Blk wx w.heap.size 32 #[.string ⟨#[]⟩, .int .i64 0] ∧ Below w.heap.size w wx

set_option maxHeartbeats 1600000 in
set_option maxRecDepth 100000 in
theorem cenc_any (w : World) (A B : Option Addr) (n c m d : Nat) (L list : List Int) (hL : ZIn w A n L) (hn : n ≤ maxLen) (hB : ZIn w B m list) (hmd : m ≤ d) (hm : m ≤ 2000) : Calls Try.prog 14 #[.slice A n c, .slice B m d] w (BitsPost w (putAns L list)) := by
  have hz := zeroTb.1
  rw [show tb (.slice none 0 0) (fun _ => 0) (fun _ => 0) (fun _ => 0) (.slice none 0 0) = tb0 from rfl] at hz
  have HST := Lib.hid tab_stored
  have hb1 : Below w.heap.size w (w.alloc (.cells #[.string ⟨#[]⟩, .int .i64 0] 32)) := (Below.refl _ _).alloc (Nat.le_refl _) _
  have hk1 : Blk (w.alloc (.cells #[.string ⟨#[]⟩, .int .i64 0] 32)) w.heap.size 32 #[.string ⟨#[]⟩, .int .i64 0] := blk_new w 32 _
  have HK1 := Lib.hid hk1
  have HB1 := Lib.hid hb1
  have HL := Lib.hid hL
  have HLB := Lib.hid hB
  by_cases h : LenOk L
  · have HT := Lib.hid (tableOf_yes (w.alloc (.cells #[.string ⟨#[]⟩, .int .i64 0] 32)) A n c L (hL.below hb1) hn h)
    have hln := hL.1
    have hfit := fits_of h
    have hll : (nl L).length = n := by rw [nl_length, hln]
    have HF := Lib.hid hfit
    have HLL := Lib.hid hll
    have hans : putAns L list = (if ∀ x ∈ list, 0 ≤ x ∧ x < (n : Int) then (putB (nl L) list, 0) else ([], 60)) := by rw [putAns, if_pos h, hln]
    have HANS := Lib.hid hans
    have HLM := Lib.hid hB.1
    have HO := Lib.hid tb0_size
    have HK := Lib.hid h
    have HTS := Lib.hid fun (K F P : Nat → Nat) (s4 : Value) => tb_size (.slice A n c) K F P s4
    have HIS := Lib.hid tab_is
    have HCD := Lib.hid ccodes_tab
    have hsz1 : (w.alloc (.cells #[.string ⟨#[]⟩, .int .i64 0] 32)).heap.size = w.heap.size + 1 := by simp
    have HSZ1 := Lib.hid hsz1
    have HGL := Lib.hid (len_cells hL h)
    clear hL hB h hb1 hk1 hfit hll hans hln hsz1
    go_enter Try.func14, Try.ntmps14
    generalize tb0 = Z at *
    go_wp2_with fail
    refine HT.out.mono ?_
    rintro e w2 ⟨g, F, rfl, hrow, hsym, hb⟩
    have hk2 := (step_of_below hb).blk HK1.out List.not_mem_nil List.not_mem_nil
    have hbw := HB1.out.trans (hb.mono (by have := HSZ1.out; omega))
    generalize w.alloc (.cells #[.string ⟨#[]⟩, .int .i64 0] 32) = w1 at *
    obtain ⟨T9, hT9⟩ : ∃ T9, T9 = tb (.slice A n c) (cntL (nl L)) (fun k => cd (nl L) k 0) (plcL (nl L)) (.slice (some ⟨g, 0, none⟩) n n) := ⟨_, rfl⟩
    have hs9 : T9.size = 65 := by rw [hT9, HTS.out]
    have ho9 : T9.all (·.oneCell') = true := by rw [hT9]; exact tb_one _ _ _ _ _ rfl rfl
    obtain ⟨hst, hk3, hb3⟩ := HST.out w2 T9 hs9 ho9
    have hT3 := HIS.out w2 _ A n c g _ _ F T9 hT9 hk3 hb3 hrow hsym
    have hkb3 := (step_of_below hb3).blk hk2 List.not_mem_nil List.not_mem_nil
    have hB3 := hbw.trans (hb3.mono hbw.size)
    have HC := Lib.hid (HCD.out _ w2.heap.size A n c L hT3 (HL.out.below hB3) HK.out)
    have HB3 := Lib.hid hB3
    have HT3 := Lib.hid hT3
    have HKB3 := Lib.hid hkb3
    rw [← hT9]
    clear hT9 ho9 hk3 hb3 hT3 hB3 hrow hsym hb HT hk2 hbw hkb3 HK1 HB1
    go_upto_region 4 with fail
    generalize (w2.alloc (.cells Z 57)).setRow w2.heap.size T9 = w3 at *
    generalize w2.heap.size = g2 at *
    clear hst hz
    go_wp2_with fail
    refine HC.out.mono ?_
    rintro e w4 ⟨gc, rfl, hrow4, hb4⟩
    have HT4 := Lib.hid (HT3.out.below hb4)
    have HKB4 := Lib.hid ((step_of_below hb4).blk HKB3.out List.not_mem_nil List.not_mem_nil)
    have HR4 := Lib.hid (World.ownsRow.mono hrow4 HB3.out.size)
    have HB4 := Lib.hid (HB3.out.trans (hb4.mono HB3.out.size))
    clear hrow4 hb4 HT3 HKB3 HB3 HC HCD
    go_wp2_with fail
    refine (newW w4).mono ?_
    rintro e w5 ⟨rfl, hw5⟩
    have hb5 : Below w4.heap.size w4 w5 := by rw [hw5]; exact (Below.refl _ _).alloc (Nat.le_refl _) _
    have hW5 : IsW w.heap.size w5 w4.heap.size (.slice none 0 0) [] := by rw [hw5]; exact isW_new w4 _ HB4.out.size
    have hst5 := step_of_below hb5
    have HAT : Hid (EncAt w w5 g2 gc w4.heap.size A n c (nl L) (.slice none 0 0) []) := Lib.hid ⟨HT4.out.below hb5, hst5.row HR4.out (fun _ _ => List.not_mem_nil) List.not_mem_nil, hW5, hst5.blk HKB4.out List.not_mem_nil List.not_mem_nil, HB4.out.trans (hb5.mono HB4.out.size)⟩
    generalize nl L = l at *
    generalize putAns L list = ans at *
    clear hw5 hb5 hW5 hst5 HT4 HKB4 HR4 HB4
    generalize w4.heap.size = p at *
    go_wp2_with fail
    go_loopw [11, 25] (fun s11 x wx => ∃ (q : Nat) (v : Value) (o : List Nat), q ≤ m ∧ x = .int .i64 q ∧ Hid (o = putB l (list.take q)) ∧ Hid (o.length ≤ 20 * q) ∧ Hid (∀ x ∈ list.take q, 0 ≤ x ∧ x < (n : Int)) ∧ Hid (EncAt w wx g2 gc p A n c l v o)) (fun _ x _ => m - (intOf x).toNat)
    case atStart => exact ⟨0, _, [], Nat.zero_le _, rfl, Lib.hid rfl, Lib.hid (Nat.zero_le _), Lib.hid (by simp), HAT⟩
    case round =>
      obtain ⟨q, v, o, hq, rfl, ho, hol, hval, hat⟩ := hrel
      obtain ⟨hT, hR, hW, hK, hB⟩ := hat.out
      have HT := Lib.hid hT
      have HR := Lib.hid hR
      have HW := Lib.hid hW
      have HKK := Lib.hid hK
      have HB := Lib.hid hB
      clear hat hT hR hW hK hB
      by_cases e : q < m
      · have d0 : decide ((q : Int) < (m : Int)) = true := decide_eq_true (by omega)
        obtain ⟨b, off, rfl, hc⟩ := HLB.out.2 (by omega)
        have hcw := hc q e
        have htk := take_snoc_int list q (by rw [HLM.out]; exact e)
        obtain ⟨x, hx⟩ : ∃ x, x = list.getD q 0 := ⟨_, rfl⟩
        rw [← hx] at hcw htk
        have hcq := (HB.out.cell (p := ⟨b, off + q, none⟩) (World.block_lt_of_cell? w _ hcw)).trans hcw
        have HTK := Lib.hid htk
        obtain ⟨gs, F, B2, hbk, _, _⟩ := HT.out
        have q0 := (blk_cell hbk 0).trans (tb_head _ _ _ _ _)
        have HH := Lib.hid (has_any wr A n c x)
        clear hc hx hcw htk hbk
        by_cases e1 : 0 ≤ x ∧ x < n
        · rw [decide_eq_true e1] at HH
          obtain ⟨y, rfl⟩ : ∃ y : Nat, x = y := ⟨x.toNat, by omega⟩
          have hyn : y < n := by omega
          obtain ⟨ba, oa, hA, hget⟩ := HGL.out
          have hga := hget y hyn
          have hone := HF.out.one (i := y) (by rw [HLL.out]; exact hyn)
          have hcl := code_lt HF.out (i := y) (by rw [HLL.out]; exact hyn)
          have hcs := code_small HF.out (i := y) (by rw [HLL.out]; exact hyn)
          obtain ⟨k, hk⟩ : ∃ k, k = l.getD y 0 := ⟨_, rfl⟩
          obtain ⟨x1, hx1⟩ : ∃ x1, x1 = codeN l y := ⟨_, rfl⟩
          have q1 := (HR.out).cell y hyn
          rw [← hk] at hone hcl hga
          rw [← hx1] at hcl hcs q1
          have hga' := (HB.out.cell (p := ⟨ba, oa + y, none⟩) (World.block_lt_of_cell? w _ hga)).trans hga
          have wu : IntKind.u64.wrap (x1 : Int) = (x1 : Int) := by rw [IntKind.wrap_u64]; omega
          subst hA
          have HCODE : Hid (bitsN x1 k = codeB l y) := Lib.hid (by rw [hk, hx1]; rfl)
          have HW1 : Hid (IsW w.heap.size wr.drew p v o) := Lib.hid ⟨HW.out.lo, HW.out.blk, HW.out.row, HW.out.bit⟩
          have hk20 : k ≤ 20 := hone.2
          have HPUT := Lib.hid (put_ok w.heap.size wr.drew p v o x1 k HW1.out (by have := hol.out; omega) (by omega) hcl)
          have HLEN := Lib.hid (length_same wr.drew ba oa n c y k hyn hga')
          have q0d : wr.drew.cell? ⟨g2, 0, none⟩ = some (.slice (some ⟨ba, oa, none⟩) n c) := q0
          have q1d : wr.drew.cell? ⟨gc, y, none⟩ = some (.int .i64 (x1 : Nat)) := q1
          have q0e : ({ heap := wr.heap, tape := wr.tape, drawn := wr.drawn + 1, os := wr.os, output := wr.output } : World).cell? ⟨g2, 0, none⟩ = some (.slice (some ⟨ba, oa, none⟩) n c) := q0
          have q1e : ({ heap := wr.heap, tape := wr.tape, drawn := wr.drawn + 1, os := wr.os, output := wr.output } : World).cell? ⟨gc, y, none⟩ = some (.int .i64 (x1 : Nat)) := q1
          have HTD : Hid (TabIs wr.drew g2 (some ⟨ba, oa, none⟩) n c l) := HT
          have HRD : Hid (FRow wr.drew w.heap.size gc n n (codeN l)) := HR
          have HKD : Hid (Blk wr.drew w.heap.size 32 #[.string ⟨#[]⟩, .int .i64 0]) := HKK
          have HBD := Lib.hid HB.out.drew
          clear hga hga' hone hcl hk hx1 hget hcs
          go_upto_region 10 with (go_at_call 29; refine HH.out.mono ?_; rintro e w9 ⟨rfl, rfl⟩)
          go_still_tail 10, (by kernel_rfl)
          still_call (HLEN.out)
          refine wpStill_nil ?_
          change wpList _ _ _ _ _ wr.drew
          generalize wr.drew = wd at *
          clear q0d q1d q0e q1e q0 q1 HT HR HKK HB HH HLEN hcq HW
          go_wp2_with fail
          refine HPUT.out.mono ?_
          rintro e w6 ⟨rfl, v6, hW6, hS6⟩
          have hT6 := HTD.out.steps hS6 HW1.out.blk (by decide) (by decide) (by decide) (by decide)
          have hR6 := HRD.out.step hS6 HW1.out.blk (by decide) (by decide)
          have hne := apart_types HKD.out HW1.out.blk (by decide)
          have hK6 := hS6.blk HKD.out (by simpa using hne) (by decide)
          have HAT6 : Hid (EncAt w w6 g2 gc p (some ⟨ba, oa, none⟩) n c l v6 (o ++ bitsN x1 k)) := Lib.hid ⟨hT6, hR6, hW6, hK6, HBD.out.trans hS6.below⟩
          clear hT6 hR6 hne hK6 hW6 hS6 HPUT HW1 HTD HRD HKD HBD
          go_wp2_with fail
          go_roundw
          case rel =>
            refine ⟨q + 1, v6, o ++ bitsN x1 k, by omega, by go_num, Lib.hid ?_, Lib.hid ?_, Lib.hid ?_, HAT6⟩
            · rw [HTK.out, putB_snoc, ← ho.out, Int.toNat_natCast, HCODE.out]
            · have := hol.out
              rw [List.length_append, bitsN_length]
              omega
            · rw [HTK.out]
              intro x hx
              rcases List.mem_append.1 hx with hx | hx
              · exact hval.out x hx
              · rw [List.mem_singleton.1 hx]
                exact e1
          case measure => simp [intOf]; omega
        · rw [decide_eq_false e1] at HH
          have hno : ans = ([], 60) := by
            rw [HANS.out, if_neg]
            intro hall
            have : x ∈ list := by
              have h1 : x ∈ list.take (q + 1) := by rw [HTK.out]; exact List.mem_append_right _ (List.mem_singleton.2 rfl)
              exact List.mem_of_mem_take h1
            exact e1 (hall x this)
          have HNO := Lib.hid hno
          have k0 : wr.cell? ⟨w.heap.size, 0, none⟩ = some (.string ⟨#[]⟩) := blk_cell HKK.out 0
          have k1 : wr.cell? ⟨w.heap.size, 1, none⟩ = some (.int .i64 0) := blk_cell HKK.out 1
          have f0 := blk_frozen HKK.out 0
          have f1 := blk_frozen HKK.out 1
          clear hno e1 HANS
          go_wp2_with fail
          refine HH.out.mono ?_
          rintro e w9 ⟨rfl, rfl⟩
          go_wp2_with fail
          refine bodyPost_ret (v := .tuple #[.agg #[.string ⟨#[]⟩, .int .i64 0], .int .i64 60]) ?_ rfl ?_
          · simp [results, Try.results14, go_sem, k0, k1]
          · rw [HNO.out]
            exact ⟨rfl, (HB.out.setCell (p := ⟨w.heap.size, 0, none⟩) (Nat.le_refl _) _).setCell (p := ⟨w.heap.size, 1, none⟩) (Nat.le_refl _) _⟩
      · obtain rfl : q = m := by omega
        have d0 : decide ((q : Int) < (q : Int)) = false := decide_eq_false (by omega)
        have htl : list.take q = list := List.take_of_length_le (Nat.le_of_eq HLM.out)
        have hv := hval.out
        have ho2 := ho.out
        rw [htl] at hv ho2
        have hans2 : ans = (o, 0) := by rw [HANS.out, if_pos hv, ho2]
        have HA2 := Lib.hid hans2
        have k0 : wr.cell? ⟨w.heap.size, 0, none⟩ = some (.string ⟨#[]⟩) := blk_cell HKK.out 0
        have k1 : wr.cell? ⟨w.heap.size, 1, none⟩ = some (.int .i64 0) := blk_cell HKK.out 1
        have f0 := blk_frozen HKK.out 0
        have f1 := blk_frozen HKK.out 1
        have c0 : wr.cell? ⟨p, 0, none⟩ = some (.bool true) := blk_cell HW.out.blk 0
        have c2 : wr.cell? ⟨p, 2, none⟩ = some (.int .i64 (o.length : Nat)) := blk_cell HW.out.blk 2
        have HTX := Lib.hid (wtext_yes w.heap.size wr p v o HW.out)
        have HLN := Lib.hid (wlen_yes wr p (o.length : Nat) c0 c2)
        obtain ⟨N, hN⟩ : ∃ N, N = o.length := ⟨_, rfl⟩
        rw [← hN] at HLN
        have HN := Lib.hid hN
        clear htl hv ho2 hans2 hN c0 c2 HANS ho hval hol HT HR HW
        go_wp2_with fail
        refine HTX.out.mono ?_
        rintro e w6 ⟨rfl, rfl⟩
        go_wp2_with fail
        refine HLN.out.mono ?_
        rintro e w6 ⟨rfl, rfl⟩
        go_wp2_with fail
        refine bodyPost_ret (v := .tuple #[.agg #[.string ⟨(pack o).toArray⟩, .int .i64 N], .int .i64 0]) ?_ rfl ?_
        · simp [results, Try.results14, go_sem, k0, k1]
        · rw [HA2.out, HN.out]
          exact ⟨rfl, (HB.out.setCell (p := ⟨w.heap.size, 0, none⟩) (Nat.le_refl _) _).setCell (p := ⟨w.heap.size, 1, none⟩) (Nat.le_refl _) _⟩
  · have HT := Lib.hid (tableOf_no (w.alloc (.cells #[.string ⟨#[]⟩, .int .i64 0] 32)) A n c L (hL.below hb1) hn h)
    have hans : putAns L list = ([], 80) := by rw [putAns, if_neg h]
    have HANS := Lib.hid hans
    have HO := Lib.hid tb0_size
    have HONE := Lib.hid tb0_one
    have hsz1 : (w.alloc (.cells #[.string ⟨#[]⟩, .int .i64 0] 32)).heap.size = w.heap.size + 1 := by simp
    have HSZ1 := Lib.hid hsz1
    clear hL hB h hb1 hk1 hans hsz1
    go_enter Try.func14, Try.ntmps14
    generalize tb0 = Z at *
    go_wp2_with fail
    refine HT.out.mono ?_
    rintro e w2 ⟨rfl, hb⟩
    have hk2 := (step_of_below hb).blk HK1.out List.not_mem_nil List.not_mem_nil
    have hbw := HB1.out.trans (hb.mono (by have := HSZ1.out; omega))
    generalize w.alloc (.cells #[.string ⟨#[]⟩, .int .i64 0] 32) = w1 at *
    have hs9 : Z.size = 65 := HO.out
    obtain ⟨hst, hk3, hb3⟩ := HST.out w2 Z hs9 HONE.out
    have hkb3 := (step_of_below hb3).blk hk2 List.not_mem_nil List.not_mem_nil
    have HB3 := Lib.hid (hbw.trans (hb3.mono hbw.size))
    have k0 := blk_cell hkb3 0
    have k1 := blk_cell hkb3 1
    have f0 := blk_frozen hkb3 0
    have f1 := blk_frozen hkb3 1
    simp only [List.getElem?_toArray, List.getElem?_cons_zero, List.getElem?_cons_succ] at k0 k1
    clear hk3 hb3 hb HT hk2 hbw hkb3
    go_upto_region 2 with fail
    generalize (w2.alloc (.cells Z 57)).setRow w2.heap.size Z = w3 at *
    clear hst hz
    go_wp2_with fail
    refine bodyPost_ret (v := .tuple #[.agg #[.string ⟨#[]⟩, .int .i64 0], .int .i64 80]) ?_ rfl ?_
    · simp [results, Try.results14, go_sem, k0, k1]
    · rw [HANS.out]
      exact ⟨rfl, (HB3.out.setCell (p := ⟨w.heap.size, 0, none⟩) (Nat.le_refl _) _).setCell (p := ⟨w.heap.size, 1, none⟩) (Nat.le_refl _) _⟩

end Go.Proofs.Ytgnlpbnodijkgaa
