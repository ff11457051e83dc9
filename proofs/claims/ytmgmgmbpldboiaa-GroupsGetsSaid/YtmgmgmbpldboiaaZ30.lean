/- Grn: texts laid together, what is not used left out. -/
import Derived.Test.YtmgmgmbpldboiaaZ29
namespace Go.Proofs.Ytmgmgmbpldboiaa
open Go.RowKit

set_option maxHeartbeats 3200000 in
set_option maxRecDepth 100000 in
theorem cgshow_out (w : World) (v : Value) (T : List (List Int)) (P : List Int) (h : PlanIn w v T P) (hM : ¬ MayPlan T P) :
    Calls Try.prog 10 #[v] w (BitsPost w (bitsG T P)) := by
  rw [show bitsG T P = ([], 110) from if_neg hM]
  obtain ⟨A, q, c, B, m, d, rfl, _⟩ := id h
  have hb1 : Below w.heap.size w (w.alloc (.cells #[.slice A q c, .slice B m d] 32)) := (Below.refl _ _).alloc (Nat.le_refl _) _
  have hk1 := blk_new w 32 #[.slice A q c, .slice B m d]
  obtain ⟨w1, hw1⟩ : ∃ w1, w1 = w.alloc (.cells #[.slice A q c, .slice B m d] 32) := ⟨_, rfl⟩
  have hz1 : w1.heap.size = w.heap.size + 1 := by rw [hw1]; simp
  rw [← hw1] at hb1 hk1
  have hb2 : Below w1.heap.size w1 (w1.alloc (.cells #[.string ⟨#[]⟩, .int .i64 0] 35)) := (Below.refl _ _).alloc (Nat.le_refl _) _
  have hk2 := (step_of_below hb2).blk hk1 List.not_mem_nil List.not_mem_nil
  have hr2 := blk_new w1 35 #[.string ⟨#[]⟩, .int .i64 0]
  rw [hz1] at hr2
  have hb12 := hb1.trans (hb2.mono hb1.size)
  have HM := Lib.hid (cmay_any _ _ T P (h.below hb12))
  rw [decide_eq_false hM] at HM
  have HK2 := Lib.hid hk2
  have HR2 := Lib.hid hr2
  have HB2 := Lib.hid hb12
  have HW1 := Lib.hid hw1.symm
  clear h hM hb1 hk1 hb2 hk2 hr2 hb12 hz1 hw1
  go_enter Try.func10, Try.ntmps10
  go_upto_region 1 with fail
  rw [HW1.out]
  generalize w1.alloc (.cells #[.string ⟨#[]⟩, .int .i64 0] 35) = w2 at *
  clear HW1
  have p0 : w2.cell? ⟨w.heap.size, 0, none⟩ = some (.slice A q c) := (blk_cell HK2.out 0).trans rfl
  have p1 : w2.cell? ⟨w.heap.size, 1, none⟩ = some (.slice B m d) := (blk_cell HK2.out 1).trans rfl
  go_wp2_with fail
  refine HM.out.mono ?_
  rintro e w3 ⟨rfl, hb3⟩
  have hr3 := (step_of_below hb3).blk HR2.out List.not_mem_nil List.not_mem_nil
  have q0 := (blk_cell hr3 0).trans (rfl : _ = some (Value.string ⟨#[]⟩))
  have q1 := (blk_cell hr3 1).trans (rfl : _ = some (Value.int .i64 0))
  have f0 := blk_frozen hr3 0
  have f1 := blk_frozen hr3 1
  have HB3 := Lib.hid (HB2.out.trans (hb3.mono HB2.out.size))
  clear hr3 hb3 HR2 HK2 HB2 HM p0 p1
  go_wp2_with fail
  refine bodyPost_ret (v := .tuple #[.agg #[.string ⟨#[]⟩, .int .i64 0], .int .i64 110]) ?_ rfl ⟨rfl, (HB3.out.setCell (p := ⟨w.heap.size + 1, 0, none⟩) (Nat.le_succ _) _).setCell (p := ⟨w.heap.size + 1, 1, none⟩) (Nat.le_succ _) _⟩
  simp [results, Try.results10, go_sem, q0, q1]

set_option maxHeartbeats 6400000 in
set_option maxRecDepth 100000 in
theorem cgshow_yes (w : World) (v : Value) (T : List (List Int)) (P : List Int) (h : PlanIn w v T P) (hM : MayPlan T P) :
    Calls Try.prog 10 #[v] w (BitsPost w (bitsG T P)) := by
  obtain ⟨A, q, c, B, m, d, rfl, hT, hqc, hq, hP, hmd, hm⟩ := id h
  have hlT := hT.1
  have hlP := hP.1
  have hq26 : 2 ≤ q ∧ q ≤ 6 := by have h1 := hM.1; have h2 := hM.2.1; omega
  have hm1 : 1 ≤ m ∧ m ≤ 32767 := by have h1 := hM.2.2.1; have h2 := hM.2.2.2.1; omega
  have hPT : ∀ x ∈ P, 0 ≤ x ∧ x < (q : Int) := fun x hx => by rw [← hlT]; exact hM.2.2.2.2.2.1 x hx
  have hTl : ∀ t ∈ T, LenOk t := fun t ht => (hM.2.2.2.2.1 t ht).2
  obtain ⟨H, hH⟩ : ∃ H, H = bitsN q 3 ++ bitsN m 15 ++ putPicks (List.range q) (nl P) := ⟨_, rfl⟩
  have hnP : (nl P).length = m := by unfold nl; rw [List.length_map, hlP]
  have hPn : ∀ x ∈ nl P, x < q := by
    intro x hx
    unfold nl at hx
    obtain ⟨y, hy, rfl⟩ := List.mem_map.1 hx
    have := hPT y hy
    omega
  have hans : bitsG T P = (H ++ (T.map nl).flatMap showD, 0) := by
    unfold bitsG planB
    rw [if_pos hM, List.length_map, hlT, hnP, putPicks_range hq26.2 (nl P) hPn, hH]
  rw [hans]
  have hHb : Bit01 H := by rw [hH]; exact ((bit01_bitsN 3 q).append (bit01_bitsN 15 m)).append (bit_putPicks _ _)
  have hHl : H.length ≤ 200000 := by
    rw [hH, List.length_append, List.length_append, bitsN_length, bitsN_length]
    have := putPicks_length (nl P) (List.range q) q (by simp) (fun x hx => List.mem_range.2 (hPn x hx))
    rw [hnP] at this
    have h2 : q * m ≤ 6 * 32767 := Nat.mul_le_mul hq26.2 hm1.2
    omega
  have hTs : ((T.map nl).flatMap showD).length ≤ 11000 * T.length := short_shows T fun t ht => lenOk_dOk (hTl t ht)
  have hin : IntsIn w B m (nl P) := ints_of_zin hP fun x hx => (hPT x hx).1
  have hPb : ∀ a, B = some a → a.block < w.heap.size := fun a ha => by
    obtain ⟨b, off, he, hc⟩ := hin.2 hm1.1
    rw [he] at ha
    cases ha
    exact World.block_lt_of_cell? w _ (hc 0 hm1.1)
  have hb1 : Below w.heap.size w (w.alloc (.cells #[.slice A q c, .slice B m d] 32)) := (Below.refl _ _).alloc (Nat.le_refl _) _
  have hk1 := blk_new w 32 #[.slice A q c, .slice B m d]
  obtain ⟨w1, hw1⟩ : ∃ w1, w1 = w.alloc (.cells #[.slice A q c, .slice B m d] 32) := ⟨_, rfl⟩
  have hz1 : w1.heap.size = w.heap.size + 1 := by rw [hw1]; simp
  rw [← hw1] at hb1 hk1
  have hb2 : Below w1.heap.size w1 (w1.alloc (.cells #[.string ⟨#[]⟩, .int .i64 0] 35)) := (Below.refl _ _).alloc (Nat.le_refl _) _
  have hk2 := (step_of_below hb2).blk hk1 List.not_mem_nil List.not_mem_nil
  have hr2 := blk_new w1 35 #[.string ⟨#[]⟩, .int .i64 0]
  rw [hz1] at hr2
  have hb12 := hb1.trans (hb2.mono hb1.size)
  have HM := Lib.hid (cmay_any _ _ T P (h.below hb12))
  rw [decide_eq_true hM] at HM
  have HT := Lib.hid fun (w1 : World) (hb : Below w.heap.size w w1) => hT.below hb
  have HIN := Lib.hid fun (w1 : World) (hb : Below w.heap.size w w1) => ints_low hin hb
  have HPB := Lib.hid hPb
  have HPN := Lib.hid hPn
  have HHB := Lib.hid hHb
  have HHL := Lib.hid hHl
  have HHE := Lib.hid hH
  have HTS := Lib.hid hTs
  have HTL := Lib.hid hTl
  have HLT := Lib.hid hlT
  have HK2 := Lib.hid hk2
  have HR2 := Lib.hid hr2
  have HB2 := Lib.hid hb12
  have HW1 := Lib.hid hw1.symm
  have HPO : Hid (∀ w' X, X = H ++ (T.map nl).flatMap showD → Below w.heap.size w w' → BitsPost w (H ++ (T.map nl).flatMap showD, 0) (.returned (.tuple #[.agg #[.string ⟨(pack X).toArray⟩, .int .i64 X.length], .int .i64 0])) w') := Lib.hid fun w' X hX hb => by
    rw [hX]
    exact ⟨rfl, hb⟩
  generalize BitsPost w (H ++ (T.map nl).flatMap showD, 0) = PO at *
  clear h hM hb1 hk1 hb2 hk2 hr2 hb12 hz1 hw1 hT hP hlP hPT hTl hH hnP hPn hans hHb hHl hTs hin hPb hlT
  go_enter Try.func10, Try.ntmps10
  go_upto_region 1 with fail
  rw [HW1.out]
  generalize w1.alloc (.cells #[.string ⟨#[]⟩, .int .i64 0] 35) = w2 at *
  clear HW1
  have p0 : w2.cell? ⟨w.heap.size, 0, none⟩ = some (.slice A q c) := (blk_cell HK2.out 0).trans rfl
  have p1 : w2.cell? ⟨w.heap.size, 1, none⟩ = some (.slice B m d) := (blk_cell HK2.out 1).trans rfl
  go_wp2_with fail
  refine HM.out.mono ?_
  rintro e w3 ⟨rfl, hb3⟩
  have HK3 := Lib.hid ((step_of_below hb3).blk HK2.out List.not_mem_nil List.not_mem_nil)
  have HR3 := Lib.hid ((step_of_below hb3).blk HR2.out List.not_mem_nil List.not_mem_nil)
  have HB3 := Lib.hid (HB2.out.trans (hb3.mono HB2.out.size))
  clear hb3 HR2 HK2 HB2 HM p0 p1
  go_wp2_with fail
  refine (newW w3).mono ?_
  rintro e w4 ⟨rfl, hw4⟩
  have hW4 : IsW w3.heap.size w4 w3.heap.size (.slice none 0 0) [] := by rw [hw4]; exact isW_new w3 w3.heap.size (Nat.le_refl _)
  have hb4 : Below w3.heap.size w3 w4 := by rw [hw4]; exact (Below.refl _ _).alloc (Nat.le_refl _) _
  have hk4 := (step_of_below hb4).blk HK3.out List.not_mem_nil List.not_mem_nil
  have hr4 := (step_of_below hb4).blk HR3.out List.not_mem_nil List.not_mem_nil
  have hbw4 := HB3.out.trans (hb4.mono HB3.out.size)
  have p0 : w4.cell? ⟨w.heap.size, 0, none⟩ = some (.slice A q c) := (blk_cell hk4 0).trans rfl
  have p1 : w4.cell? ⟨w.heap.size, 1, none⟩ = some (.slice B m d) := (blk_cell hk4 1).trans rfl
  have hPP := cputpicks_any w3.heap.size w4 w3.heap.size _ [] hW4 (by simp) A q c B m d (nl P) (HIN.out w4 hbw4) (fun a ha => Nat.lt_of_lt_of_le (HPB.out a ha) HB3.out.size) hq26.1 hq26.2 hm1.1 hm1.2 HPN.out
  rw [List.nil_append, ← HHE.out] at hPP
  have HPP := Lib.hid hPP
  have HK4 := Lib.hid hk4
  have HR4 := Lib.hid hr4
  have HB4 := Lib.hid hbw4
  have hlt3 : w.heap.size < w3.heap.size := blk_lt HK3.out
  have hlt3b : w.heap.size + 1 < w3.heap.size := blk_lt HR3.out
  have hsz3 : w.heap.size ≤ w3.heap.size := HB3.out.size
  clear hw4 hW4 hb4 hk4 hr4 hbw4 hPP HK3 HR3 HB3 HPB HPN HHE
  generalize w3.heap.size = p at *
  go_wp2_with fail
  refine HPP.out.mono ?_
  rintro e w5 ⟨rfl, ⟨v5, hW5⟩, hS5⟩
  have hk5 := (hS5.below.block w.heap.size hlt3).trans HK4.out
  have hr5 := (hS5.below.block (w.heap.size + 1) hlt3b).trans HR4.out
  have hbw5 := HB4.out.trans (hS5.below.mono hsz3)
  have p0 : w5.cell? ⟨w.heap.size, 0, none⟩ = some (.slice A q c) := (blk_cell (show Blk w5 w.heap.size _ _ from hk5) 0).trans rfl
  have HTX := Lib.hid (wtext_yes p w5 p v5 H hW5)
  have HLN := Lib.hid (wlen_yes w5 p (H.length : Nat) (by have := blk_cell hW5.blk 0; simpa using this) (by have := blk_cell hW5.blk 2; simpa using this))
  have HR5 : Hid (Blk w5 (w.heap.size + 1) 35 #[.string ⟨#[]⟩, .int .i64 0]) := Lib.hid hr5
  have HB5 := Lib.hid hbw5
  have HT5 := Lib.hid (HT.out w5 hbw5)
  clear hW5 hS5 hk5 hr5 hbw5 HPP HK4 HR4 HB4 HT HIN p1
  go_wp2_with fail
  refine HTX.out.mono ?_
  rintro e w5 ⟨rfl, rfl⟩
  go_wp2_with fail
  refine HLN.out.mono ?_
  rintro e w5 ⟨rfl, rfl⟩
  clear HTX HLN
  have HPC := Lib.hid (pcs_one w5 w5.heap.size (Nat.le_refl _) H HHB.out)
  have HB6 : Hid (Below w5.heap.size w5 (w5.alloc (.cells #[.string ⟨(pack H).toArray⟩, .int .i64 H.length] 35))) := Lib.hid ((Below.refl _ _).alloc (Nat.le_refl _) _)
  have p0' : (w5.alloc (.cells #[.string ⟨(pack H).toArray⟩, .int .i64 H.length] 35)).cell? ⟨w.heap.size, 0, none⟩ = some (.slice A q c) := (HB6.out.cell (p := ⟨w.heap.size, 0, none⟩) (World.block_lt_of_cell? w5 _ p0)).trans p0
  obtain ⟨tb, tq, rfl, htc⟩ := HT5.out.2 (by omega)
  have HTC := Lib.hid htc
  have hrb : w.heap.size + 1 < w5.heap.size := blk_lt HR5.out
  clear htc HT5
  go_upto_region 6 with fail
  generalize w5.alloc (.cells #[.string ⟨(pack H).toArray⟩, .int .i64 H.length] 35) = w6 at *
  go_wp2_with fail
  go_loopw [5, 7, 8, 9, 27] (fun pv s7 s8 s9 iv' wx => ∃ (i : Nat) (A9 : Option Addr) (c9 : Nat), i ≤ q ∧ iv' = .int .i64 i ∧ pv = .slice A9 (i + 1) c9 ∧ Pcs wx w5.heap.size (.slice A9 (i + 1) c9) (H :: ((T.map nl).map showD).take i) ∧ Below w5.heap.size w5 wx) (fun _ _ _ _ iv' _ => q - (intOf iv').toNat)
  case atStart =>
    refine ⟨0, _, _, Nat.zero_le _, rfl, rfl, ?_, HB6.out⟩
    rw [List.take_zero]
    exact HPC.out
  case round =>
    clear HPC HB6 p0 p0'
    rename World => wx
    obtain ⟨i, A9, c9, hi, rfl, rfl, hpc, hbx⟩ := hrel
    by_cases e : i < q
    · have di : decide ((i : Int) < (q : Int)) = true := decide_eq_true (by omega)
      have hiI : (0 : Int) ≤ (i : Int) := by omega
      have hiq : (i : Int) < (q : Int) := by omega
      obtain ⟨A2, c2, h1, h2, _, h4⟩ := HTC.out i e
      have hiT : i < T.length := by rw [HLT.out]; exact e
      have c1 : wx.cell? ⟨tb, tq + i, none⟩ = some (.slice A2 (T.getD i []).length c2) := (hbx.cell (p := ⟨tb, tq + i, none⟩) (World.block_lt_of_cell? w5 _ h1)).trans h1
      have hsh := S10.cshow_any wx A2 (T.getD i []).length c2 (T.getD i []) (h2.below hbx) h4
      have hdk : DOk (T.getD i []) := lenOk_dOk (HTL.out _ (tab_mem T i hiT))
      rw [show showAns (T.getD i []) = (showD (nl (T.getD i [])), 0) from if_pos hdk] at hsh
      obtain ⟨X, hX⟩ : ∃ X, X = showD (nl (T.getD i [])) := ⟨_, rfl⟩
      rw [← hX] at hsh
      have hXb : Bit01 X := by
        rw [hX]
        exact bit_showD _
      have hnext : H :: ((T.map nl).map showD).take (i + 1) = (H :: ((T.map nl).map showD).take i) ++ [X] := by
        rw [List.take_succ_eq_append_getElem (by simp; exact hiT), List.getElem_map, List.getElem_map, hX, List.getD_eq_getElem?_getD, List.getElem?_eq_getElem hiT]
        rfl
      have HNX := Lib.hid hnext
      have HXB := Lib.hid hXb
      have HSH := Lib.hid hsh
      have HPC := Lib.hid hpc
      have HBX := Lib.hid hbx
      obtain ⟨tl, htl⟩ : ∃ tl, tl = (T.getD i []).length := ⟨_, rfl⟩
      rw [← htl] at c1 HSH
      have htlb : tl ≤ maxLen := by rw [htl]; exact h4
      unfold maxLen at htlb
      clear h1 h2 h4 hsh hdk hX hXb hnext hpc hbx htl
      go_wp2_with fail
      refine HSH.out.mono ?_
      rintro e w7 ⟨rfl, hb7⟩
      have hb8 : Below w7.heap.size w7 (w7.alloc (.cells #[.string ⟨(pack X).toArray⟩, .int .i64 X.length] 35)) := (Below.refl _ _).alloc (Nat.le_refl _) _
      have hk8 := blk_new w7 35 #[.string ⟨(pack X).toArray⟩, .int .i64 X.length]
      obtain ⟨w8, hw8⟩ : ∃ w8, w8 = w7.alloc (.cells #[.string ⟨(pack X).toArray⟩, .int .i64 X.length] 35) := ⟨_, rfl⟩
      rw [← hw8] at hb8 hk8
      have hpc8 := (HPC.out.below hb7).below hb8
      have hb58 := (HBX.out.trans (hb7.mono HBX.out.size)).trans (hb8.mono (Nat.le_trans HBX.out.size hb7.size))
      obtain ⟨v9, w9, hr9, hpc9, hb9⟩ := pcs_append w8 w5.heap.size (.slice A9 (i + 1) c9) _ X hpc8 hb58.size (by simp; omega) HXB.out
      rw [← HNX.out] at hpc9
      have hln : (H :: ((T.map nl).map showD).take (i + 1)).length = i + 1 + 1 := by simp; omega
      obtain ⟨A3, c3, rfl, _, _, _⟩ := own_slice hpc9.own
      rw [hln] at hpc9 hr9
      have x0 := (blk_cell hk8 0).trans (rfl : _ = some (Value.string ⟨(pack X).toArray⟩))
      have x1 := (blk_cell hk8 1).trans (rfl : _ = some (Value.int .i64 X.length))
      have HR9 := Lib.hid hr9
      have HPC9 := Lib.hid hpc9
      have HB9 := Lib.hid (hb58.trans hb9)
      have HW8 := Lib.hid hw8.symm
      clear hb7 hb8 hk8 hw8 hpc8 hb58 hr9 hpc9 hb9 hln HSH HPC HBX HNX HXB
      go_upto_region 10 with fail
      rw [HW8.out]
      clear HW8
      generalize w7.heap.size = g8 at *
      go_wp2_with (at_builtin; refine Lib.wpList_append_run _ rfl (.tmp 36) (.tmp 38) 56 56 rfl (.slice A9 (i + 1) c9) (.slice (some ⟨w8.heap.size, 0, none⟩) 1 1) rfl rfl _ w9 HR9.out ?_)
      go_roundw
      case rel => exact ⟨i + 1, A3, c3, by omega, by go_num, rfl, HPC9.out, HB9.out⟩
      case measure => simp [intOf]; omega
    · obtain rfl : i = q := by omega
      have di : decide ((i : Int) < (i : Int)) = false := decide_eq_false (by omega)
      have hall : (H :: ((T.map nl).map showD).take i) = H :: (T.map nl).map showD := by
        rw [List.take_of_length_le (by have := HLT.out; simp; omega)]
      rw [hall] at hpc
      have hfl : (H :: (T.map nl).map showD).flatten = H ++ (T.map nl).flatMap showD := by
        rw [List.flatten_cons, List.flatMap_def]
      have hfll : (H :: (T.map nl).map showD).flatten.length ≤ 1000000 := by
        rw [hfl, List.length_append]
        have h1 := HHL.out
        have h2 := HTS.out
        have h3 := HLT.out
        have h4 : 11000 * T.length ≤ 11000 * 6 := Nat.mul_le_mul_left _ (by omega)
        omega
      have HJ := Lib.hid (pcs_join wx w5.heap.size (.slice A9 (i + 1) c9) _ hpc (by simp; have := HLT.out; omega) (by omega))
      obtain ⟨X, hX⟩ : ∃ X, X = (H :: (T.map nl).map showD).flatten := ⟨_, rfl⟩
      rw [← hX] at HJ hfl
      have HFL := Lib.hid hfl
      have HBX := Lib.hid hbx
      clear hpc hbx hall hfl hfll hX
      go_wp2_with fail
      refine HJ.out.mono ?_
      rintro e w9 ⟨rfl, hb9⟩
      have hr9 := (step_of_below hb9).blk ((HBX.out.block (w.heap.size + 1) hrb).trans HR5.out) List.not_mem_nil List.not_mem_nil
      have q0 := (blk_cell hr9 0).trans (rfl : _ = some (Value.string ⟨#[]⟩))
      have q1 := (blk_cell hr9 1).trans (rfl : _ = some (Value.int .i64 0))
      have f0 := blk_frozen hr9 0
      have f1 := blk_frozen hr9 1
      have hbb := (HB5.out.trans (HBX.out.mono HB5.out.size)).trans (hb9.mono (Nat.le_trans HB5.out.size HBX.out.size))
      have HEND := Lib.hid (HPO.out _ X HFL.out ((hbb.setCell (p := ⟨w.heap.size + 1, 0, none⟩) (Nat.le_succ _) (.string ⟨(pack X).toArray⟩)).setCell (p := ⟨w.heap.size + 1, 1, none⟩) (Nat.le_succ _) (.int .i64 X.length)))
      clear hr9 hb9 hbb HJ HFL HBX HPO HR5 HB5 HTC
      go_wp2_with fail
      refine bodyPost_ret (v := .tuple #[.agg #[.string ⟨(pack X).toArray⟩, .int .i64 X.length], .int .i64 0]) ?_ rfl HEND.out
      simp [results, Try.results10, go_sem, q0, q1]

theorem cgshow_any (w : World) (v : Value) (T : List (List Int)) (P : List Int) (h : PlanIn w v T P) :
    Calls Try.prog 10 #[v] w (BitsPost w (bitsG T P)) := by
  by_cases hM : MayPlan T P
  · exact cgshow_yes w v T P h hM
  · exact cgshow_out w v T P h hM

end Go.Proofs.Ytmgmgmbpldboiaa
