/- Show. Conditions: symbols of at most a million bytes. -/
import Derived.Test.YtcmhcfbmjceioaaVf
import Derived.Test.YtcmhcfbmjceioaaWb
import Derived.Test.YtcmhcfbmjceioaaJh
namespace Go.Proofs.Ytcmhcfbmjceioaa
open Go.RowKit

set_option maxHeartbeats 1600000 in
set_option maxRecDepth 100000 in
theorem cshow_bad (w : World) (a : ByteArray) (ha : a.size ≤ 1000000) (hm : ¬ MayL a.data.toList) : Calls Try.prog 18 #[.string a] w (ShowPost w [] 2) := by
  have HM := Lib.hid fun w1 : World => cmay_any w1 a ha
  have d0 : decide (MayL a.data.toList) = false := decide_eq_false hm
  rw [d0] at HM
  have hk1 : Blk (w.alloc (.cells #[.string ⟨#[]⟩, .int .i64 0] 39)) w.heap.size 39 #[.string ⟨#[]⟩, .int .i64 0] := blk_new w 39 _
  have hb1 : Below w.heap.size w (w.alloc (.cells #[.string ⟨#[]⟩, .int .i64 0] 39)) := (Below.refl _ _).alloc (Nat.le_refl _) _
  have HK1 := Lib.hid hk1
  have HB1 := Lib.hid hb1
  clear d0 hm hk1 hb1
  go_enter Try.func18, Try.ntmps18
  go_wp2_with fail
  refine (HM.out _).mono ?_
  rintro e w1 ⟨rfl, hb⟩
  have hk := (step_of_below hb).blk HK1.out List.not_mem_nil List.not_mem_nil
  have hbl : Below w.heap.size w w1 := HB1.out.trans (hb.mono (by simp))
  have q0 : w1.cell? ⟨w.heap.size, 0, none⟩ = some (.string ⟨#[]⟩) := blk_cell hk 0
  have q1 : w1.cell? ⟨w.heap.size, 1, none⟩ = some (.int .i64 0) := blk_cell hk 1
  have f0 := blk_frozen hk 0
  have f1 := blk_frozen hk 1
  have HB := Lib.hid hbl
  clear hb hk hbl
  go_wp2_with fail
  refine bodyPost_ret (v := .tuple #[.agg #[.string ⟨#[]⟩, .int .i64 0], .int .i64 2]) ?_ rfl ?_
  · simp [results, Try.results18, go_sem, q0, q1]
  · exact ⟨rfl, (HB.out.setCell (p := ⟨w.heap.size, 0, none⟩) (Nat.le_refl _) _).setCell (p := ⟨w.heap.size, 1, none⟩) (Nat.le_refl _) _⟩

set_option maxHeartbeats 1600000 in
set_option maxRecDepth 100000 in
theorem cshow_any (w : World) (a : ByteArray) (ha : a.size ≤ 1000000) (hm : MayL a.data.toList) : Calls Try.prog 18 #[.string a] w (ShowPost w (showL a.data.toList) 0) := by
  obtain ⟨hz, hi⟩ := zeroRows
  have HM := Lib.hid fun w1 : World => cmay_any w1 a ha
  have HST := Lib.hid fun w1 : World => setof_any w1 a ha
  have HUS := Lib.hid inuse_any
  have d0 : decide (MayL a.data.toList) = true := decide_eq_true hm
  rw [d0] at HM
  have hk1 : Blk (w.alloc (.cells #[.string ⟨#[]⟩, .int .i64 0] 39)) w.heap.size 39 #[.string ⟨#[]⟩, .int .i64 0] := blk_new w 39 _
  have hb1 : Below w.heap.size w (w.alloc (.cells #[.string ⟨#[]⟩, .int .i64 0] 39)) := (Below.refl _ _).alloc (Nat.le_refl _) _
  have HK1 := Lib.hid hk1
  have HB1 := Lib.hid hb1
  have HI := Lib.hid hi
  have HS := Lib.hid arrG_size
  have HO := Lib.hid arrG_one
  have HG := Lib.hid arrG_get
  have HRI := Lib.hid run_index_rows
  have hsf : showUp a.data.toList 16 = showL a.data.toList := rfl
  have HSF := Lib.hid hsf
  have hs0 : showUp a.data.toList 0 = (List.range 16).map (rowB a.data.toList) := by simp [showUp]
  have HS0 := Lib.hid hs0
  have HSN := Lib.hid (showUp_next a.data.toList)
  have HSL := Lib.hid (showUp_length a.data.toList)
  clear d0 hm hk1 hb1 hi hsf hs0
  go_enter Try.func18, Try.ntmps18
  go_wp2_with fail
  refine (HM.out _).mono ?_
  rintro e w1 ⟨rfl, hb⟩
  have hk := (step_of_below hb).blk HK1.out List.not_mem_nil List.not_mem_nil
  have hbl : Below w.heap.size w w1 := HB1.out.trans (hb.mono (by simp))
  have HK := Lib.hid hk
  have HB := Lib.hid hbl
  have hz1 : w.heap.size < w1.heap.size := blk_lt hk
  clear hb hk hbl
  go_wp2_with fail
  refine (HST.out w1).mono ?_
  rintro e w2 ⟨f, rfl, hrep, hb2⟩
  generalize arrG = T at *
  have hf6 : ∀ i, i < 16 → f i < 65536 := fun i hi => (hrep i hi).1
  have hst := run_storeCells_new (P := Try.prog) w2 52 (T fun _ => 0) (T f) (by rw [HS.out]; exact HI.out) (by rw [HS.out, HS.out]) (HO.out _)
  have hsz := HS.out f
  have hk2 := (step_of_below hb2).blk HK.out List.not_mem_nil List.not_mem_nil
  have hz2 := hb2.size
  have hbl2 : Below w.heap.size w w2 := HB.out.trans (hb2.mono (Nat.le_of_lt hz1))
  have hk3 : Blk (w2.alloc (.cells (T f) 52)) w.heap.size 39 #[.string ⟨#[]⟩, .int .i64 0] := (heap_alloc_past w2 _ _ (blk_lt hk2)).trans hk2
  have H43 := Lib.hid (blk_new w2 52 (T f))
  have HB3 := Lib.hid (hbl2.alloc hbl2.size (.cells (T f) 52))
  have HK3 := Lib.hid hk3
  have HUS2 := Lib.hid fun w3 => HUS.out w3 f hf6
  have HF6 := Lib.hid hf6
  have HUB := Lib.hid fun u hu => use_bits (a := a.data.toList) (f := f) hrep (u := u) hu
  have HRB := Lib.hid fun i hi h0 => row_bits (a := a.data.toList) (f := f) hrep (i := i) hi h0
  have HRN := Lib.hid fun i hi h0 => row_bits_none (a := a.data.toList) (f := f) hrep (i := i) hi h0
  have HI2 := Lib.hid (show (Try.prog.info? 52).map (·.size) = some (T f).size by rw [hsz]; exact HI.out)
  have HG2 := Lib.hid (HG.out f)
  clear hk2 hbl2 hk3 hb2 hf6 hrep HUS HST HM HK HB HK1 HB1 HG HO
  go_upto_region 4 with fail
  clear hst hz
  have hgA : w2.heap.size < (w2.alloc (.cells (T f) 52)).heap.size := blk_lt H43.out
  have hgR : w.heap.size < w2.heap.size := by omega
  obtain ⟨g4, hg4⟩ : ∃ g4, g4 = w2.heap.size := ⟨_, rfl⟩
  rw [← hg4] at H43 hgA hgR ⊢
  have HG4 := Lib.hid hg4
  clear hg4 hz2
  generalize T f = Tf at *
  generalize w2.alloc (.cells Tf 52) = w3 at *
  go_upto_region 5 with (go_at_call 31; refine (newW w3).mono ?_; rintro e w4 ⟨rfl, hw4'⟩; have HW4' := Lib.hid hw4'; clear hw4')
  have hw4 := HW4'.out
  clear HW4'
  have hz3 := HB3.out.size
  obtain ⟨p, hp⟩ : ∃ p, p = w3.heap.size := ⟨_, rfl⟩
  have hW4 : IsW w.heap.size w4 p (.slice none 0 0) [] := by rw [hw4, hp]; exact isW_new w3 _ hz3
  have hb4 : Below w3.heap.size w3 w4 := by rw [hw4]; exact (Below.refl _ _).alloc (Nat.le_refl _) _
  have hs4 := step_of_below hb4
  have H44 := Lib.hid (hs4.blk H43.out List.not_mem_nil List.not_mem_nil)
  have HK4 := Lib.hid (hs4.blk HK3.out List.not_mem_nil List.not_mem_nil)
  have HB4 := Lib.hid (HB3.out.trans (hb4.mono hz3))
  have HW4 := Lib.hid hW4
  have hpg : g4 < p := by omega
  have hpr : w.heap.size < p := by omega
  rw [← hp]
  clear hW4 hb4 hs4 hw4 hp H43 HK3 HB3 hz3 hgA
  refine wp_region_lit (wpList_move_step rfl rfl (wpList_load_row rfl rfl rfl H44.out Try.underlying52 HI2.out ?_))
  go_wp2_with fail
  refine (HUS2.out w4).mono ?_
  rintro e w5 ⟨u, hu, rfl, hb5⟩
  have hs5 := step_of_below hb5
  have hW5 := HW4.out.step hs5 List.not_mem_nil (fun _ _ => List.not_mem_nil) List.not_mem_nil List.not_mem_nil
  have H45 := Lib.hid (hs5.blk H44.out List.not_mem_nil List.not_mem_nil)
  have HK5 := Lib.hid (hs5.blk HK4.out List.not_mem_nil List.not_mem_nil)
  have HB5 := Lib.hid (HB4.out.trans (hb5.mono HB4.out.size))
  have HPUT := Lib.hid (put_ok w.heap.size w5 p _ [] u 16 hW5 (by simp) (by omega) hu.1)
  rw [List.nil_append, HUB.out u hu, ← HS0.out] at HPUT
  clear hu hb5 hs5 hW5 HUS2 HUB HW4 H44 HK4 HB4
  go_wp2_with fail
  refine HPUT.out.mono ?_
  rintro e w6 ⟨rfl, v6, hW6, hS6⟩
  have H46 := Lib.hid (hS6.blk H45.out (by simp; omega) (by decide))
  have HK6 := Lib.hid (hS6.blk HK5.out (by simp; omega) (by decide))
  have HB6 := Lib.hid (HB5.out.trans hS6.below)
  have HW6 := Lib.hid hW6
  clear hW6 hS6 HPUT H45 HK5 HB5
  go_upto_region 6 with fail
  refine wp_region_lit (wpList_load_row rfl rfl rfl H46.out Try.underlying52 HI2.out ?_)
  go_wp2_with fail
  go_loopw [20] (fun i wx => ∃ (q : Nat) (v : Value), q ≤ 16 ∧ i = .int .i64 q ∧ IsW w.heap.size wx p v (showUp a.data.toList q) ∧ Blk wx w.heap.size 39 #[.string ⟨#[]⟩, .int .i64 0] ∧ Below w.heap.size w wx) (fun i _ => 16 - (intOf i).toNat)
  case atStart => exact ⟨0, v6, Nat.zero_le _, rfl, HW6.out, HK6.out, HB6.out⟩
  case round =>
    obtain ⟨q, v, hq, rfl, hW, hk, hb⟩ := hrel
    have HW := Lib.hid hW
    have HK := Lib.hid hk
    have HB := Lib.hid hb
    have hsl := HSL.out q
    by_cases e : q < 16
    · obtain ⟨c, hcc⟩ : ∃ c, c = f q := ⟨_, rfl⟩
      have hg := HG2.out q e
      rw [← hcc] at hg
      have hrun := fun w9 => HRI.out w9 Tf q c e hg
      have hnx := HSN.out q
      by_cases hc0 : c = 0
      · subst hc0
        rw [HRN.out q e hcc.symm, List.append_nil] at hnx
        have HNX := Lib.hid hnx
        clear hnx hcc hW hk hb hg
        go_wp2_with fail
        go_roundw
        case rel => exact ⟨q + 1, v, by omega, by go_num, by rw [HNX.out]; exact HW.out, HK.out, HB.out⟩
        case measure => simp [intOf]; omega
      · have hne := neq_zero hc0
        rw [← HRB.out q e (by rw [← hcc]; exact hc0), ← hcc] at hnx
        have HPUT := Lib.hid (put_ok w.heap.size wr p _ _ c 16 hW (by omega) (by omega) (by rw [hcc]; exact HF6.out q e))
        rw [← hnx] at HPUT
        clear hnx hcc hW hk hb hg
        go_wp2_with fail
        refine HPUT.out.mono ?_
        rintro e w7 ⟨rfl, v7, hW7, hS7⟩
        have HK7 := Lib.hid (hS7.blk HK.out (by simp; omega) (by decide))
        have HB7 := Lib.hid (HB.out.trans hS7.below)
        have HW7 := Lib.hid hW7
        clear hW7 hS7 HPUT
        go_wp2_with fail
        go_roundw
        case rel => exact ⟨q + 1, v7, by omega, by go_num, HW7.out, HK7.out, HB7.out⟩
        case measure => simp [intOf]; omega
    · obtain rfl : q = 16 := by omega
      rw [HSF.out] at hW
      obtain ⟨S, hS⟩ : ∃ S : ByteArray, S = ⟨(pack (showL a.data.toList)).toArray⟩ := ⟨_, rfl⟩
      have HT := Lib.hid (wtext_yes w.heap.size wr p v _ hW)
      have HSS := Lib.hid hS
      rw [← hS] at HT
      obtain ⟨n, hn⟩ : ∃ n, n = (showL a.data.toList).length := ⟨_, rfl⟩
      have c0 := blk_cell hW.blk 0
      have c2 := blk_cell hW.blk 2
      simp at c0 c2
      have HNN := Lib.hid hn
      rw [← hn] at c2
      have HLN := Lib.hid (wlen_yes wr p n c0 c2)
      have q0 : wr.cell? ⟨w.heap.size, 0, none⟩ = some (.string ⟨#[]⟩) := blk_cell hk 0
      have q1 : wr.cell? ⟨w.heap.size, 1, none⟩ = some (.int .i64 0) := blk_cell hk 1
      have f0 := blk_frozen hk 0
      have f1 := blk_frozen hk 1
      clear hW hk hb hS hn c0 c2 HW HK
      go_wp2_with fail
      refine HT.out.mono ?_
      rintro e w8 ⟨rfl, rfl⟩
      go_wp2_with fail
      refine HLN.out.mono ?_
      rintro e w8 ⟨rfl, rfl⟩
      go_wp2_with fail
      refine bodyPost_ret (v := .tuple #[.agg #[.string S, .int .i64 n], .int .i64 0]) ?_ rfl ?_
      · simp [results, Try.results18, go_sem, q0, q1]
      · exact ⟨by rw [HSS.out, HNN.out]; rfl, (HB.out.setCell (p := ⟨w.heap.size, 0, none⟩) (Nat.le_refl _) _).setCell (p := ⟨w.heap.size, 1, none⟩) (Nat.le_refl _) _⟩

end Go.Proofs.Ytcmhcfbmjceioaa
