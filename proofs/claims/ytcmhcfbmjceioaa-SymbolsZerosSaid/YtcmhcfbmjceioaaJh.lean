/- The reference of symbols, walked: Show. Conditions: at most a million bytes. -/
import Derived.Test.YtcmhcfbmjceioaaJg
namespace Go.Proofs.Ytcmhcfbmjceioaa
open Go.RowKit

theorem bit01_show (a : List UInt8) : Bit01 (showL a) := by
  intro b hb
  unfold showL at hb
  rcases List.mem_append.1 hb with h | h
  · obtain ⟨i, _, rfl⟩ := List.mem_map.1 h
    have := rowB_le a i
    omega
  · obtain ⟨i, _, h⟩ := List.mem_flatMap.1 h
    unfold rowBits at h
    split at h
    · obtain ⟨k, _, rfl⟩ := List.mem_map.1 h
      unfold bitB
      split <;> omega
    · exact absurd h List.not_mem_nil
/-- What is told of the first rows. -/
def showUp (a : List UInt8) (q : Nat) : List Nat := (List.range 16).map (rowB a) ++ (List.range q).flatMap (rowBits a)
theorem showUp_next (a : List UInt8) (q : Nat) : showUp a (q + 1) = showUp a q ++ rowBits a q := by
  have e : (List.range (q + 1)).flatMap (rowBits a) = (List.range q).flatMap (rowBits a) ++ rowBits a q := by
    rw [List.range_succ, List.flatMap_append]
    simp
  unfold showUp
  rw [e, List.append_assoc]
theorem showUp_length (a : List UInt8) : ∀ q, (showUp a q).length ≤ 16 + 16 * q
  | 0 => by simp [showUp]
  | q + 1 => by
    rw [showUp_next, List.length_append, rowBits_length]
    have := showUp_length a q
    rcases rowB_le a q with h | h <;> rw [h] <;> omega
def ShowPost (w : World) (L : List Nat) (c : Nat) (e : Ending) (w' : World) : Prop := e = .returned (.tuple #[.agg #[.string ⟨(pack L).toArray⟩, .int .i64 L.length], .int .i64 c]) ∧ Below w.heap.size w w'

set_option maxHeartbeats 1600000 in
set_option maxRecDepth 100000 in
theorem rshow_bad (w : World) (a : ByteArray) (ha : a.size ≤ 1000000) (hm : ¬ MayL a.data.toList) : Calls Try.prog 19 #[.string a] w (ShowPost w [] 2) := by
  have HM := Lib.hid fun w1 : World => may_any w1 a ha
  have d0 : decide (MayL a.data.toList) = false := decide_eq_false hm
  rw [d0] at HM
  have hk1 : Blk (w.alloc (.cells #[.string ⟨#[]⟩, .int .i64 0] 39)) w.heap.size 39 #[.string ⟨#[]⟩, .int .i64 0] := blk_new w 39 _
  have hb1 : Below w.heap.size w (w.alloc (.cells #[.string ⟨#[]⟩, .int .i64 0] 39)) := (Below.refl _ _).alloc (Nat.le_refl _) _
  have HK1 := Lib.hid hk1
  have HB1 := Lib.hid hb1
  clear d0 hm hk1 hb1
  go_enter Try.func19, Try.ntmps19
  go_wp2_with fail
  refine (HM.out _).mono ?_
  rintro e w1 ⟨rfl, hb⟩
  have hk := (step_of_below hb).blk HK1.out List.not_mem_nil List.not_mem_nil
  have hbl : Below w.heap.size w w1 := HB1.out.trans (hb.mono (by simp))
  have q0 : w1.cell? ⟨w.heap.size, 0, none⟩ = some (.string ⟨#[]⟩) := blk_cell hk 0
  have q1 : w1.cell? ⟨w.heap.size, 1, none⟩ = some (.int .i64 0) := blk_cell hk 1
  have f0 := blk_frozen hk 0
  have f1 := blk_frozen hk 1
  have HB := Lib.hid hbl
  clear hb hk hbl
  go_wp2_with fail
  refine bodyPost_ret (v := .tuple #[.agg #[.string ⟨#[]⟩, .int .i64 0], .int .i64 2]) ?_ rfl ?_
  · simp [results, Try.results19, go_sem, q0, q1]
  · exact ⟨rfl, (HB.out.setCell (p := ⟨w.heap.size, 0, none⟩) (Nat.le_refl _) _).setCell (p := ⟨w.heap.size, 1, none⟩) (Nat.le_refl _) _⟩

set_option maxHeartbeats 1600000 in
set_option maxRecDepth 100000 in
theorem rshow_any (w : World) (a : ByteArray) (ha : a.size ≤ 1000000) (hm : MayL a.data.toList) : Calls Try.prog 19 #[.string a] w (ShowPost w (showL a.data.toList) 0) := by
  have HM := Lib.hid fun w1 : World => may_any w1 a ha
  have HR := Lib.hid fun w1 : World => rows_any w1 a ha
  have d0 : decide (MayL a.data.toList) = true := decide_eq_true hm
  rw [d0] at HM
  have hk1 : Blk (w.alloc (.cells #[.string ⟨#[]⟩, .int .i64 0] 39)) w.heap.size 39 #[.string ⟨#[]⟩, .int .i64 0] := blk_new w 39 _
  have hb1 : Below w.heap.size w (w.alloc (.cells #[.string ⟨#[]⟩, .int .i64 0] 39)) := (Below.refl _ _).alloc (Nat.le_refl _) _
  have HK1 := Lib.hid hk1
  have HB1 := Lib.hid hb1
  have HSN := Lib.hid (showUp_next a.data.toList)
  have HSL := Lib.hid (showUp_length a.data.toList)
  have HRB := Lib.hid (rowB_le a.data.toList)
  have hsf : showUp a.data.toList 16 = showL a.data.toList := rfl
  have HSF := Lib.hid hsf
  have HBS := Lib.hid (bit01_show a.data.toList)
  clear d0 hm hk1 hb1 hsf
  go_enter Try.func19, Try.ntmps19
  go_wp2_with fail
  refine (HM.out _).mono ?_
  rintro e w1 ⟨rfl, hb⟩
  have hk := (step_of_below hb).blk HK1.out List.not_mem_nil List.not_mem_nil
  have hbl : Below w.heap.size w w1 := HB1.out.trans (hb.mono (by simp))
  have HK := Lib.hid hk
  have HB := Lib.hid hbl
  clear hb hk hbl
  go_wp2_with fail
  refine (HR.out w1).mono ?_
  rintro e w2 ⟨g1, g2, rfl, hr1, hr2, hg1, hg2, hb2⟩
  have hk2 := (step_of_below hb2).blk HK.out List.not_mem_nil List.not_mem_nil
  have hbl2 : Below w.heap.size w w2 := HB.out.trans (hb2.mono HB.out.size)
  have HK2 := Lib.hid hk2
  have HB2 := Lib.hid hbl2
  have H1 := Lib.hid hr1
  have H2 := Lib.hid hr2
  clear hk2 hbl2 hb2 hr1 hr2
  have hown0 : (w2.alloc (.cells #[] 3)).ownsRow w2.heap.size 3 1 (.slice (some ⟨w2.heap.size, 0, none⟩) 0 0) 0 [] := World.ownsRow_made w2 #[] 0 (Nat.le_refl _) (Nat.zero_le _) rfl
  obtain ⟨v3, w3, hr3, hown3, hgr3⟩ := append_ints (w2.alloc (.cells #[] 3)) w2.heap.size _ 0 [] hown0 (some ⟨g1, 0, none⟩) 16 16 ((List.range 16).map (rowB a.data.toList)) (nrow_past H1.out _).ints (by omega) (by simp)
  have hb3 : Below w2.heap.size w2 w3 := ((Below.refl _ w2).alloc (Nat.le_refl _) _).grown hgr3 (by simp) (fun k hk => (hown0.lt k hk).1)
  have HR3 := Lib.hid hr3
  have HO3 := Lib.hid hown3
  have HB3 := Lib.hid hb3
  have hz2' := HB2.out.size
  clear hown0 hr3 hown3 hgr3 hb3
  go_wp2_with (at_builtin; refine Lib.wpList_append_run _ rfl _ _ 25 25 rfl (.slice (some ⟨w2.heap.size, 0, none⟩) 0 0) (.slice (some ⟨g1, 0, none⟩) 16 16) rfl rfl v3 w3 HR3.out ?_)
  go_loopw [6, 7] (fun out x wx => ∃ q : Nat, q ≤ 16 ∧ x = .int .i64 q ∧ wx.ownsRow w2.heap.size 3 1 out (showUp a.data.toList q).length ((showUp a.data.toList q).map iv) ∧ Below w2.heap.size w2 wx) (fun _ x _ => 16 - (intOf x).toNat)
  case atStart =>
    refine ⟨0, Nat.zero_le _, rfl, ?_, HB3.out⟩
    have e : showUp a.data.toList 0 = (List.range 16).map (rowB a.data.toList) := by simp [showUp]
    have h1 := HO3.out
    rw [e, List.length_map, List.length_range]
    exact h1
  case round =>
    obtain ⟨q, hq, rfl, hown, hb⟩ := hrel
    have hz9 := hb.size
    have hsl := HSL.out q
    have hg1w := H1.out.step (step_of_below hb) List.not_mem_nil List.not_mem_nil
    have hg2w := H2.out.step (step_of_below hb) List.not_mem_nil List.not_mem_nil
    obtain ⟨A0, c0, rfl, hn0, hm0, hA0⟩ := own_slice hown
    clear hA0
    unfold maxLen at hm0
    have HOW := Lib.hid hown
    have HB4 := Lib.hid hb
    have HG2 := Lib.hid hg2w
    by_cases e : q < 16
    · have d1 : decide ((q : Int) < 16) = true := decide_eq_true (by omega)
      have hc := hg1w.cell e
      have hnx := HSN.out q
      have hrl := rowBits_length a.data.toList q
      rcases HRB.out q with h0 | h0
      · rw [h0] at hc hrl
        have hnil : rowBits a.data.toList q = [] := List.eq_nil_of_length_eq_zero (by omega)
        rw [hnil, List.append_nil] at hnx
        have HNX := Lib.hid hnx
        have d2 : (((0 : Nat) : Int) == 1) = false := rfl
        clear hown hb hg1w hg2w hnx hrl hnil h0 hsl
        go_wp2_with fail
        go_roundw
        case rel => exact ⟨q + 1, by omega, by go_num, by rw [HNX.out]; exact HOW.out, HB4.out⟩
        case measure => simp [intOf]; omega
      · rw [h0] at hc hrl
        have hbits : rowBits a.data.toList q = (List.range 16).map fun k => bitB a.data.toList (16 * q + k) := by unfold rowBits; rw [if_pos h0]
        obtain ⟨p, hp⟩ : ∃ p, p = 16 * q := ⟨_, rfl⟩
        have hp1 : (16 : Int) * (q : Int) = (p : Int) := by omega
        have hp2 : (q : Int) * 16 = (p : Int) := by omega
        have hin : IntsIn wr (some ⟨g2, p, none⟩) 16 (rowBits a.data.toList q) := by
          refine ⟨by rw [hrl], fun _ => ⟨g2, p, rfl, fun i hi => ?_⟩⟩
          rw [hg2w.cell (i := p + i) (by omega), hbits, List.getD_eq_getElem?_getD, List.getElem?_map, List.getElem?_range hi, hp]
          rfl
        obtain ⟨d, hd⟩ : ∃ d, d = p + 16 - p := ⟨_, rfl⟩
        have hd16 : d = 16 := by omega
        rw [← hd16] at hin
        obtain ⟨v4, w4, hr4, hown4, hgr4⟩ := append_ints wr w2.heap.size _ _ _ hown (some ⟨g2, p, none⟩) d (256 - p) (rowBits a.data.toList q) hin (by omega) hz9
        rw [hd16] at hown4
        rw [hd] at hr4
        have hb4 : Below w2.heap.size w2 w4 := hb.grown hgr4 hz9 (fun k hk => (hown.lt k hk).1)
        have hi0 : (0 : Int) ≤ (p : Int) := by omega
        have hi1 : (p : Int) ≤ (p : Int) + 16 := by omega
        have hi2 : (p : Int) + 16 ≤ 256 := by omega
        have hi3 : ((p : Int) + 16 - (p : Int)).toNat = 16 := by omega
        have hi4 : ((256 : Int) - (p : Int)).toNat = 256 - p := by omega
        have hfin : w4.ownsRow w2.heap.size 3 1 v4 (showUp a.data.toList (q + 1)).length ((showUp a.data.toList (q + 1)).map iv) := by
          rw [hnx, List.length_append, List.map_append, hrl]
          exact hown4
        have HR4 := Lib.hid hr4
        have HF4 := Lib.hid hfin
        have HB5 := Lib.hid hb4
        have hp256 : p + 16 ≤ 256 := by omega
        obtain ⟨N, hN⟩ : ∃ N, N = (showUp a.data.toList q).length := ⟨_, rfl⟩
        rw [← hN] at HR4 hn0 ⊢
        clear hown hb hg1w hg2w hnx hrl h0 hsl hbits hin hr4 hown4 hgr4 hb4 hfin hp hN hd hd16
        go_wp2_with (at_builtin; refine Lib.wpList_append_run _ rfl _ _ 25 25 rfl (.slice A0 N c0) (.slice (some ⟨g2, p, none⟩) (p + 16 - p) (256 - p)) rfl rfl v4 w4 HR4.out ?_)
        go_roundw
        case rel => exact ⟨q + 1, by omega, by go_num, HF4.out, HB5.out⟩
        case measure => simp [intOf]; omega
    · obtain rfl : q = 16 := by omega
      have hL : showUp a.data.toList 16 = showL a.data.toList := HSF.out
      rw [hL] at hown hsl hn0 ⊢
      have hk3 := (step_of_below hb).blk HK2.out List.not_mem_nil List.not_mem_nil
      have HT := Lib.hid (text_any wr A0 _ c0 _ (ints_of_own hown) HBS.out (by omega))
      have hbl := HB2.out.trans (hb.mono hz2')
      have HK3 := Lib.hid hk3
      have HBL := Lib.hid hbl
      obtain ⟨S, hS⟩ : ∃ S : ByteArray, S = ⟨(pack (showL a.data.toList)).toArray⟩ := ⟨_, rfl⟩
      unfold ShowPost
      rw [← hS]
      rw [← hS] at HT
      obtain ⟨n, hn⟩ : ∃ n, n = (showL a.data.toList).length := ⟨_, rfl⟩
      rw [← hn] at hsl hn0 HT ⊢
      have HN := Lib.hid hn
      have HS := Lib.hid hS
      clear hown hb hg1w hg2w hsl hL hk3 hbl hS hn
      go_wp2_with fail
      refine HT.out.mono ?_
      rintro e w5 ⟨rfl, hb5⟩
      have hk5 := (step_of_below hb5).blk HK3.out List.not_mem_nil List.not_mem_nil
      have q0 : w5.cell? ⟨w.heap.size, 0, none⟩ = some (.string ⟨#[]⟩) := blk_cell hk5 0
      have q1 : w5.cell? ⟨w.heap.size, 1, none⟩ = some (.int .i64 0) := blk_cell hk5 1
      have f0 := blk_frozen hk5 0
      have f1 := blk_frozen hk5 1
      have HB5 := Lib.hid (HBL.out.trans (hb5.mono HBL.out.size))
      clear hk5 hb5
      go_wp2_with fail
      refine bodyPost_ret (v := .tuple #[.agg #[.string S, .int .i64 n], .int .i64 0]) ?_ rfl ?_
      · simp [results, Try.results19, go_sem, q0, q1]
      · refine ⟨?_, (HB5.out.setCell (p := ⟨w.heap.size, 0, none⟩) (Nat.le_refl _) _).setCell (p := ⟨w.heap.size, 1, none⟩) (Nat.le_refl _) _⟩
        rw [HN.out, HS.out]
        rfl

end Go.Proofs.Ytcmhcfbmjceioaa
