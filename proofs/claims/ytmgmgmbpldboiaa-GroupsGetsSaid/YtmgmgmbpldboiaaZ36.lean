/- Grw Grx: texts laid together, what is not used left out. -/
import Derived.Test.YtmgmgmbpldboiaaZ35
namespace Go.Proofs.Ytmgmgmbpldboiaa
open Go.RowKit

set_option maxHeartbeats 6400000 in
set_option maxRecDepth 100000 in
theorem cget_arg (w : World) (v : Value) (T : List (List Int)) (P : List Int) (h : PlanIn w v T P) (s : ByteArray) (at' : Int) (hs : s.size ≤ 2000000) (hl : -9223372036854775808 ≤ at') (hh : at' ≤ 9223372036854775807) (hP : MayPlan T P) (hat : at' < 0 ∨ 8 * (s.size : Int) < at') :
    Calls Try.prog 12 #[v, .string s, .int .i64 at'] w (AllPost w (getG T P (bitsB s.data.toList) at')) := by
  have hbl : (bitsB s.data.toList).length = 8 * s.size := by rw [bitsB_length]; rfl
  rw [show getG T P (bitsB s.data.toList) at' = ([], 0, 2) by rw [getG, if_pos hP, if_pos (by rw [hbl]; omega)]]
  obtain ⟨A, q, c, B, m, d, rfl, hT, hqc, hq, hPP, hmd, hmm⟩ := id h
  have hlT := hT.1
  have hlP := hPP.1
  have hq26 : 2 ≤ q ∧ q ≤ 6 := by have h1 := hP.1; have h2 := hP.2.1; omega
  have hm1 : 1 ≤ m ∧ m ≤ 32767 := by have h1 := hP.2.2.1; have h2 := hP.2.2.2.1; omega
  obtain ⟨tb, tq, rfl, htc⟩ := hT.2 (by omega)
  obtain ⟨b, off, rfl, hpc⟩ := hPP.2 (by omega)
  have hPx : 0 ≤ P.getD 0 0 ∧ (P.getD 0 0).toNat < q := by
    have := hP.2.2.2.2.2.1 (P.getD 0 0) (by
      rw [List.getD_eq_getElem?_getD, List.getElem?_eq_getElem (by omega)]
      exact List.getElem_mem _)
    rw [hlT] at this
    omega
  have hTok : ∀ i, i < q → (T.getD i []).length = (T.getD 0 []).length ∧ LenOk (T.getD i []) := fun i hi => hP.2.2.2.2.1 _ (tab_mem T i (by omega))
  obtain ⟨m0, hm0⟩ : ∃ m0, m0 = (T.getD 0 []).length := ⟨_, rfl⟩
  rw [← hm0] at hTok
  have hm3 : 3 ≤ m0 ∧ m0 ≤ 258 := by
    have h1 := hP.2.2.2.2.2.2
    have h2 := (hTok 0 (by omega)).2.2.1
    rw [← hm0] at h1
    rw [(hTok 0 (by omega)).1] at h2
    omega
  have hb1 : Below w.heap.size w (w.alloc (.cells #[.slice (some ⟨tb, tq, none⟩) q c, .slice (some ⟨b, off, none⟩) m d] 32)) := (Below.refl _ _).alloc (Nat.le_refl _) _
  have hk1 := blk_new w 32 #[.slice (some ⟨tb, tq, none⟩) q c, .slice (some ⟨b, off, none⟩) m d]
  have HM := Lib.hid (cmay_any _ _ T P (h.below hb1))
  rw [decide_eq_true hP] at HM
  obtain ⟨y, hy⟩ : ∃ y, y = (P.getD 0 0).toNat := ⟨_, rfl⟩
  have hyP : P.getD 0 0 = (y : Int) := by omega
  have hyq : y < q := by omega
  obtain ⟨A2, c2, h1, h2, _, h4⟩ := htc y hyq
  obtain ⟨A0, c0, h10, _, _, _⟩ := htc 0 (by omega)
  rw [Nat.add_zero, ← hm0] at h10
  obtain ⟨htl, hok⟩ := hTok y hyq
  have h1' : w.cell? ⟨tb, tq + y, none⟩ = some (.slice A2 m0 c2) := by rw [← htl]; exact h1
  have hpc0 : w.cell? ⟨b, off, none⟩ = some (.int .i64 (y : Int)) := by rw [← hyP]; have := hpc 0 (by omega); rw [Nat.add_zero] at this; exact this
  have HALL := Lib.hid fun (W : World) (hb : Below w.heap.size w W) => show Calls Try.prog 28 #[.slice A2 m0 c2, .string s, .int .i64 at', .int .i64 50, .int .i64 ((m0 : Int) - 1)] W (AllPost W ([], 0, 2)) from by
    have hz : ZIn W A2 m0 (T.getD y []) := by rw [← htl]; exact h2.below hb
    have hc := call_any W A2 m0 c2 (T.getD y []) s at' 50 ((m0 : Int) - 1) hz (by unfold maxLen; omega) hs hl hh (by omega) (by omega) (by omega) (by omega)
    rw [show allAns (T.getD y []) (bitsB s.data.toList) at' 50 ((m0 : Int) - 1) = ([], 0, 2) by
      unfold allAns
      rw [if_pos hok, if_pos (by rw [hbl]; omega)]] at hc
    exact hc
  have HPO : Hid (∀ w', Below w.heap.size w w' → AllPost w ([], 0, 2) (.returned (.tuple #[.slice none 0 0, .int .i64 0, .int .i64 2])) w') := Lib.hid fun w' hb => ⟨_, rfl, World.ownsRow_nil _ _ _ _, hb⟩
  generalize AllPost w ([], 0, 2) = PO at *
  have HB1 := Lib.hid hb1
  have HK1 := Lib.hid hk1
  have HC1 := Lib.hid h1'
  have HC0 := Lib.hid h10
  have HCP := Lib.hid hpc0
  have hqI : (0 : Int) < (q : Int) := by omega
  have hyI : (0 : Int) ≤ (y : Int) := by omega
  have hyqI : (y : Int) < (q : Int) := by omega
  have hmI : (0 : Int) < (m : Int) := by omega
  clear h hb1 hk1 hP hT hPP htc hpc hPx hTok hm0 hlT hlP hy hyP h1 h2 h4 h10 htl hok h1' hpc0 hbl hat
  go_enter Try.func12, Try.ntmps12
  go_upto_region 1 with fail
  generalize w.alloc (.cells #[.slice (some ⟨tb, tq, none⟩) q c, .slice (some ⟨b, off, none⟩) m d] 32) = w1 at *
  have p0 : w1.cell? ⟨w.heap.size, 0, none⟩ = some (.slice (some ⟨tb, tq, none⟩) q c) := (blk_cell HK1.out 0).trans rfl
  have p1 : w1.cell? ⟨w.heap.size, 1, none⟩ = some (.slice (some ⟨b, off, none⟩) m d) := (blk_cell HK1.out 1).trans rfl
  go_wp2_with fail
  refine HM.out.mono ?_
  rintro e w2 ⟨rfl, hb2⟩
  have hk2 := (step_of_below hb2).blk HK1.out List.not_mem_nil List.not_mem_nil
  have hbw2 := HB1.out.trans (hb2.mono HB1.out.size)
  have p0 : w2.cell? ⟨w.heap.size, 0, none⟩ = some (.slice (some ⟨tb, tq, none⟩) q c) := (blk_cell hk2 0).trans rfl
  have p1 : w2.cell? ⟨w.heap.size, 1, none⟩ = some (.slice (some ⟨b, off, none⟩) m d) := (blk_cell hk2 1).trans rfl
  have k0 : w2.cell? ⟨tb, tq, none⟩ = some (.slice A0 m0 c0) := (hbw2.cell (p := ⟨tb, tq, none⟩) (World.block_lt_of_cell? w _ HC0.out)).trans HC0.out
  have k1 : w2.cell? ⟨tb, tq + y, none⟩ = some (.slice A2 m0 c2) := (hbw2.cell (p := ⟨tb, tq + y, none⟩) (World.block_lt_of_cell? w _ HC1.out)).trans HC1.out
  have k2 : w2.cell? ⟨b, off, none⟩ = some (.int .i64 (y : Int)) := (hbw2.cell (p := ⟨b, off, none⟩) (World.block_lt_of_cell? w _ HCP.out)).trans HCP.out
  have HA2 := Lib.hid (HALL.out w2 hbw2)
  have HBW2 := Lib.hid hbw2
  clear hb2 hk2 hbw2 HM HB1 HK1 HC1 HC0 HCP HALL
  go_wp2_with fail
  go_loopw [2, 9, 12, 13, 14, 15, 28] (fun av lv s12 s13 s14 s15 iv' wx => av = .int .i64 at' ∧ lv = .slice none 0 0 ∧ iv' = .int .i64 0 ∧ wx = w2) (fun _ _ _ _ _ _ iv' _ => m - (intOf iv').toNat)
  case atStart => exact ⟨rfl, rfl, rfl, rfl⟩
  case round =>
    obtain ⟨rfl, rfl, rfl, rfl⟩ := hrel
    have dm : decide ((0 : Int) < (m : Int)) = true := decide_eq_true hmI
    go_wp2_with fail
    refine HA2.out.mono ?_
    rintro e w3 ⟨v3, rfl, _, hb3⟩
    have HE := Lib.hid (HPO.out w3 (HBW2.out.trans (hb3.mono HBW2.out.size)))
    clear hb3 HPO HBW2 HA2
    go_wp2_with fail
    first | go_ret3 | skip
    exact HE.out

end Go.Proofs.Ytmgmgmbpldboiaa
namespace Go.Proofs.Ytmgmgmbpldboiaa
open Go.RowKit

set_option maxHeartbeats 6400000 in
set_option maxRecDepth 100000 in
theorem cget_yes (w : World) (v : Value) (T : List (List Int)) (P : List Int) (h : PlanIn w v T P) (s : ByteArray) (at' : Int) (hs : s.size ≤ 2000000) (hP : MayPlan T P) (h0at : 0 ≤ at') (hat : at' ≤ 8 * (s.size : Int)) :
    Calls Try.prog 12 #[v, .string s, .int .i64 at'] w (AllPost w (getG T P (bitsB s.data.toList) at')) := by
  have hbl : (bitsB s.data.toList).length = 8 * s.size := by rw [bitsB_length]; rfl
  obtain ⟨a0, rfl⟩ := Int.eq_ofNat_of_zero_le h0at
  have ha0 : a0 ≤ 8 * s.size := by omega
  obtain ⟨bits, hbits⟩ : ∃ bits, bits = bitsB s.data.toList := ⟨_, rfl⟩
  obtain ⟨A, q, c, B, m, d, rfl, hT, hqc, hq, hPP, hmd, hmm⟩ := id h
  have hlT := hT.1
  have hlP := hPP.1
  have hq26 : 2 ≤ q ∧ q ≤ 6 := by have h1 := hP.1; have h2 := hP.2.1; omega
  have hm1 : 1 ≤ m ∧ m ≤ 32767 := by have h1 := hP.2.2.1; have h2 := hP.2.2.2.1; omega
  obtain ⟨tb, tq, rfl, htc⟩ := hT.2 (by omega)
  obtain ⟨b, off, rfl, hpc⟩ := hPP.2 (by omega)
  have hPx : ∀ i, i < m → 0 ≤ P.getD i 0 ∧ (P.getD i 0).toNat < q := fun i hi => by
    have := hP.2.2.2.2.2.1 (P.getD i 0) (by
      rw [List.getD_eq_getElem?_getD, List.getElem?_eq_getElem (by omega)]
      exact List.getElem_mem _)
    rw [hlT] at this
    omega
  have hTok : ∀ i, i < q → (T.getD i []).length = (T.getD 0 []).length ∧ LenOk (T.getD i []) := fun i hi => hP.2.2.2.2.1 _ (tab_mem T i (by omega))
  obtain ⟨m0, hm0⟩ : ∃ m0, m0 = (T.getD 0 []).length := ⟨_, rfl⟩
  rw [← hm0] at hTok
  have hm3 : 3 ≤ m0 ∧ m0 ≤ 258 := by
    have h1 := hP.2.2.2.2.2.2
    have h2 := (hTok 0 (by omega)).2.2.1
    rw [← hm0] at h1
    rw [(hTok 0 (by omega)).1] at h2
    omega
  have hb1 : Below w.heap.size w (w.alloc (.cells #[.slice (some ⟨tb, tq, none⟩) q c, .slice (some ⟨b, off, none⟩) m d] 32)) := (Below.refl _ _).alloc (Nat.le_refl _) _
  have hk1 := blk_new w 32 #[.slice (some ⟨tb, tq, none⟩) q c, .slice (some ⟨b, off, none⟩) m d]
  have HM := Lib.hid (cmay_any _ _ T P (h.below hb1))
  rw [decide_eq_true hP] at HM
  obtain ⟨A0, c0, h10, _, _, _⟩ := htc 0 (by omega)
  rw [Nat.add_zero, ← hm0] at h10
  obtain ⟨n1, hn1⟩ : ∃ n1, n1 = m0 - 1 := ⟨_, rfl⟩
  have hn1I : (m0 : Int) - 1 = (n1 : Int) := by omega
  have HALL := Lib.hid fun (W : World) (hb : Below w.heap.size w W) (y : Nat) (hyq : y < q) (A2 : Option Addr) (c2 : Nat) (h2 : ZIn w A2 m0 (T.getD y [])) (a : Nat) (ha : a ≤ 8 * s.size) => show Calls Try.prog 28 #[.slice A2 m0 c2, .string s, .int .i64 a, .int .i64 50, .int .i64 (n1 : Nat)] W (AllPost W (allF (nl (T.getD y [])) bits (m0 - 1 : Nat) 50 a [])) from by
    have hc := call_any W A2 m0 c2 (T.getD y []) s (a : Int) 50 ((n1 : Nat) : Int) (h2.below hb) (by unfold maxLen; omega) hs (by omega) (by omega) (by omega) (by omega) (by omega) (by omega)
    rw [show allAns (T.getD y []) (bitsB s.data.toList) (a : Int) 50 ((n1 : Nat) : Int) = allF (nl (T.getD y [])) bits (m0 - 1 : Nat) 50 a [] by
      unfold allAns
      rw [if_pos (hTok y hyq).2, if_neg (by rw [hbl]; omega), hbits, hn1]
      rfl] at hc
    exact hc
  have HSM := Lib.hid fun (y : Nat) (hyq : y < q) (a : Nat) (ha : a ≤ 8 * s.size) => show (allF (nl (T.getD y [])) bits (m0 - 1 : Nat) 50 a []).2.1 ≤ 8 * s.size from by
    have h := (gall_small (nl (T.getD y [])) bits (m0 - 1 : Nat) (fits_of (hTok y hyq).2) 50 a [] (Nat.zero_le _) (by rw [hbits, hbl]; exact ha)).2.1
    rw [hbits, hbl] at h
    rw [hbits]
    exact h
  have HLENS := Lib.hid fun (y : Nat) (hyq : y < q) (a : Nat) (ha : a ≤ 8 * s.size) => show (allF (nl (T.getD y [])) bits (m0 - 1 : Nat) 50 a []).1.length ≤ 8 * s.size from by
    have h := (gall_small (nl (T.getD y [])) bits (m0 - 1 : Nat) (fits_of (hTok y hyq).2) 50 a [] (Nat.zero_le _) (by rw [hbits, hbl]; exact ha)).1
    rw [hbits, hbl] at h
    rw [hbits]
    exact h
  have HGRP := Lib.hid fun (i r : Nat) (pre : List Nat) (a : Nat) => getF_group (T.map nl) (nl P) bits m0 i r pre (by omega) 50 a [] (Nat.le_refl _) (fun x hx => by cases hx)
  have hans : getG T P (bitsB s.data.toList) (a0 : Int) = getF (T.map nl) (nl P) bits m0 (50 * m) 0 a0 [] := by
    rw [getG, if_pos hP, if_neg (by rw [hbl]; omega), hlP, ← hm0, Int.toNat_natCast, hbits]
  rw [hans]
  obtain ⟨ANS, hANS⟩ : ∃ ANS, ANS = getF (T.map nl) (nl P) bits m0 (50 * m) 0 a0 [] := ⟨_, rfl⟩
  rw [← hANS]
  have HANS := Lib.hid hANS
  have HOK : Hid (∀ w' v (X : List Nat) (n : Nat), ANS = (X, n, 0) → w'.ownsRow w.heap.size 3 1 v X.length (X.map iv) → Below w.heap.size w w' → AllPost w ANS (.returned (.tuple #[v, .int .i64 n, .int .i64 0])) w') := Lib.hid fun w' v X n h1 h2 h4 => by
    rw [h1]
    exact ⟨v, rfl, h2, h4⟩
  have HER : Hid (∀ w' (z : Nat), ANS = ([], 0, z) → Below w.heap.size w w' → AllPost w ANS (.returned (.tuple #[.slice none 0 0, .int .i64 0, .int .i64 z])) w') := Lib.hid fun w' z h1 h4 => by
    rw [h1]
    exact ⟨_, rfl, World.ownsRow_nil _ _ _ _, h4⟩
  generalize AllPost w ANS = PO at *
  have HTC : Hid (∀ y, y < q → ∃ A2 c2, w.cell? ⟨tb, tq + y, none⟩ = some (.slice A2 m0 c2) ∧ ZIn w A2 m0 (T.getD y [])) := Lib.hid fun y hy => by
    obtain ⟨A2, c2, h1, h2, _, _⟩ := htc y hy
    rw [(hTok y hy).1] at h1 h2
    exact ⟨A2, c2, h1, h2⟩
  have HPC : Hid (∀ i, i < m → ∃ y : Nat, y < q ∧ w.cell? ⟨b, off + i, none⟩ = some (.int .i64 (y : Int)) ∧ (nl P).getD i 0 = y) := Lib.hid fun i hi => by
    obtain ⟨h1, h2⟩ := hPx i hi
    refine ⟨(P.getD i 0).toNat, h2, ?_, ?_⟩
    · rw [hpc i hi]
      congr 2
      omega
    · unfold nl
      rw [List.getD_eq_getElem?_getD, List.getD_eq_getElem?_getD, List.getElem?_map]
      cases P[i]? <;> rfl
  have HGT : Hid (∀ y, (T.map nl).getD y [] = nl (T.getD y [])) := Lib.hid fun y => by
    rw [List.getD_eq_getElem?_getD, List.getD_eq_getElem?_getD, List.getElem?_map]
    cases T[y]? <;> rfl
  have HB1 := Lib.hid hb1
  have HK1 := Lib.hid hk1
  have HC0 := Lib.hid h10
  have HN1 := Lib.hid hn1
  have hqI : (0 : Int) < (q : Int) := by omega
  clear h hb1 hk1 hP hT hPP htc hpc hPx hTok hm0 hlT hlP h10 hbl hat hans hANS hbits hn1
  go_enter Try.func12, Try.ntmps12
  go_upto_region 1 with fail
  generalize w.alloc (.cells #[.slice (some ⟨tb, tq, none⟩) q c, .slice (some ⟨b, off, none⟩) m d] 32) = w1 at *
  have p0 : w1.cell? ⟨w.heap.size, 0, none⟩ = some (.slice (some ⟨tb, tq, none⟩) q c) := (blk_cell HK1.out 0).trans rfl
  have p1 : w1.cell? ⟨w.heap.size, 1, none⟩ = some (.slice (some ⟨b, off, none⟩) m d) := (blk_cell HK1.out 1).trans rfl
  go_wp2_with fail
  refine HM.out.mono ?_
  rintro e w2 ⟨rfl, hb2⟩
  have hk2 := (step_of_below hb2).blk HK1.out List.not_mem_nil List.not_mem_nil
  have hbw2 := HB1.out.trans (hb2.mono HB1.out.size)
  have p0 : w2.cell? ⟨w.heap.size, 0, none⟩ = some (.slice (some ⟨tb, tq, none⟩) q c) := (blk_cell hk2 0).trans rfl
  have p1 : w2.cell? ⟨w.heap.size, 1, none⟩ = some (.slice (some ⟨b, off, none⟩) m d) := (blk_cell hk2 1).trans rfl
  have k0 : w2.cell? ⟨tb, tq, none⟩ = some (.slice A0 m0 c0) := (hbw2.cell (p := ⟨tb, tq, none⟩) (World.block_lt_of_cell? w _ HC0.out)).trans HC0.out
  have HBW2 := Lib.hid hbw2
  have hsz2 := hbw2.size
  clear hb2 hk2 hbw2 HM HB1 HK1 HC0
  go_wp2_with fail
  go_loopw [2, 9, 12, 13, 14, 15, 28] (fun av lv s12 s13 s14 s15 iv' wx => ∃ (i a N c9 : Nat) (A9 : Option Addr) (out : List Nat), i ≤ m ∧ iv' = .int .i64 i ∧ av = .int .i64 a ∧ lv = .slice A9 N c9 ∧ wx.ownsRow w2.heap.size 3 1 (.slice A9 N c9) N (out.map iv) ∧ Below w2.heap.size w2 wx ∧ Hid (out.length = N ∧ N ≤ 50 * i ∧ a ≤ 8 * s.size ∧ getF (T.map nl) (nl P) bits m0 (50 * (m - i)) (50 * i) a out = ANS)) (fun _ _ _ _ _ _ iv' _ => m - (intOf iv').toNat)
  case atStart => exact ⟨0, a0, 0, 0, none, [], Nat.zero_le _, rfl, rfl, rfl, World.ownsRow_nil _ _ _ _, Below.refl _ _, ⟨rfl, Nat.le_refl _, ha0, HANS.out.symm⟩⟩
  case round =>
    rename World => wx
    obtain ⟨i, a, N, c9, A9, out, hi, rfl, rfl, rfl, ho, hbx, hI⟩ := hrel
    by_cases e : i < m
    · have di : decide ((i : Int) < (m : Int)) = true := decide_eq_true (by omega)
      have hiI : (0 : Int) ≤ (i : Int) := by omega
      have him : (i : Int) < (m : Int) := by omega
      obtain ⟨y, hyq, hpy, hny⟩ := HPC.out i e
      obtain ⟨A2, c2, h1, h2⟩ := HTC.out y hyq
      have hbwx : Below w.heap.size w wx := HBW2.out.trans (hbx.mono hsz2)
      have p0x : wx.cell? ⟨w.heap.size, 0, none⟩ = some (.slice (some ⟨tb, tq, none⟩) q c) := (hbx.cell (p := ⟨w.heap.size, 0, none⟩) (World.block_lt_of_cell? w2 _ p0)).trans p0
      have k1 : wx.cell? ⟨tb, tq + y, none⟩ = some (.slice A2 m0 c2) := (hbwx.cell (p := ⟨tb, tq + y, none⟩) (World.block_lt_of_cell? w _ h1)).trans h1
      have k2 : wx.cell? ⟨b, off + i, none⟩ = some (.int .i64 (y : Int)) := (hbwx.cell (p := ⟨b, off + i, none⟩) (World.block_lt_of_cell? w _ hpy)).trans hpy
      have HA := Lib.hid (HALL.out wx hbwx y hyq A2 c2 h2 a hI.out.2.2.1)
      have hsm := HSM.out y hyq a hI.out.2.2.1
      have hlen := HLENS.out y hyq a hI.out.2.2.1
      have hg := HGRP.out i (50 * (m - (i + 1))) out a
      rw [hny, HGT.out y, show 50 + 50 * (m - (i + 1)) = 50 * (m - i) by omega, Nat.sub_self, Nat.add_zero, List.append_nil, hI.out.2.2.2] at hg
      obtain ⟨⟨X, q5, z5⟩, hr⟩ : ∃ r, r = allF (nl (T.getD y [])) bits (m0 - 1 : Nat) 50 a [] := ⟨_, rfl⟩
      rw [← hr] at HA hg hsm hlen
      dsimp only at hg hsm hlen
      have HG := Lib.hid hg
      have HSMX := Lib.hid hsm
      have HLX := Lib.hid hlen
      have HO := Lib.hid ho
      have HBX := Lib.hid hbx
      have HI := Lib.hid hI.out
      have hyI : (0 : Int) ≤ (y : Int) := by omega
      have hyqI : (y : Int) < (q : Int) := by omega
      clear hpy hny h1 h2 hbwx hsm hlen hg hr ho hbx hI
      go_wp2_with fail
      refine HA.out.mono ?_
      rintro e w5 ⟨v5, rfl, ho5, hb5⟩
      dsimp only at ho5 ⊢
      have hb25 := HBX.out.trans (hb5.mono HBX.out.size)
      have hbw5 := HBW2.out.trans (hb25.mono hsz2)
      by_cases ez : z5 = 0
      · subst ez
        obtain ⟨A5, c5, rfl, hc5, _, hA5⟩ := own_slice ho5
        obtain ⟨xl, hxl⟩ : ∃ xl, xl = X.length := ⟨_, rfl⟩
        have hxb : xl ≤ 16000000 := by have := HLX.out; omega
        have hi5 : IntsIn w5 A5 xl X := by rw [hxl]; exact ints_of_own ho5
        rw [← hxl] at ho5 hc5 hA5 ⊢
        have hlast : ∃ o x, X = o ++ [x] ∧ ((x + 1 = m0 ∧ ANS = (out ++ X, q5, 0)) ∨ (x + 1 ≠ m0 ∧ X.length = 50 ∧ getF (T.map nl) (nl P) bits m0 (50 * (m - (i + 1))) (50 * i + 50) q5 (out ++ X) = ANS)) := by
          rcases HG.out with ⟨h1, _⟩ | ⟨_, ⟨o, h2⟩, h3⟩ | ⟨_, h2, h3, h4⟩
          · exact absurd rfl h1
          · exact ⟨o, m0 - 1, h2, .inl ⟨by omega, h3⟩⟩
          · rw [List.length_nil, Nat.zero_add] at h3
            have hne : X ≠ [] := fun h => by rw [h] at h3; cases h3
            refine ⟨X.dropLast, X.getLast hne, (List.dropLast_concat_getLast hne).symm, .inr ⟨h2 _ (List.getLast_mem hne), h3, h4.symm⟩⟩
        obtain ⟨o, x, hXo, hcases⟩ := hlast
        have hxl1 : xl = o.length + 1 := by rw [hxl, hXo, List.length_append]; rfl
        obtain ⟨g5, rfl⟩ := hA5 (by omega)
        have hrow5 := row_low HO.out hb5
        obtain ⟨v6, w6, hr6, ho6, hg6⟩ := append_ints w5 w2.heap.size (.slice A9 N c9) N _ hrow5 (some ⟨g5, 0, none⟩) xl c5 X hi5 (by have := HI.out.2.1; omega) (Nat.le_trans HBX.out.size hb5.size)
        have hb26 : Below w2.heap.size w2 w6 := hb25.grown hg6 hb25.size (fun k hk => (World.ownsRow.lt hrow5 k hk).1)
        have hg5 := (World.ownsRow.lt ho5 g5 rfl).1
        have ho56 := World.ownsRow.kept ho5 hg6 (.inr fun e => by
          have := (World.ownsRow.lt HO.out g5 e.symm).2
          omega)
        have hc6 : w6.cell? ⟨g5, o.length, none⟩ = some (.int .i64 (x : Nat)) := by
          rw [World.ownsRow.cellAt ho56 o.length (by omega), List.getElem?_map, hXo, List.getElem?_append_right (Nat.le_refl _), Nat.sub_self]
          rfl
        obtain ⟨ol, hol⟩ : ∃ ol, ol = o.length := ⟨_, rfl⟩
        rw [← hol] at hc6 hxl1
        have hxlz : (xl : Int) - 1 = (ol : Int) := by omega
        have holI : (0 : Int) ≤ (ol : Int) := by omega
        have holx : (ol : Int) < (xl : Int) := by omega
        have hn1x : x + 1 = m0 ↔ x = n1 := by have := HN1.out; omega
        obtain ⟨A6, c6, rfl, _, _, _⟩ := own_slice ho6
        obtain ⟨N6, hN6⟩ : ∃ N6, N6 = N + xl := ⟨_, rfl⟩
        rw [← hN6, ← List.map_append] at ho6
        rw [← hN6] at hr6
        have hlen6 : (out ++ X).length = N6 := by rw [List.length_append, HI.out.1, ← hxl, hN6]
        have HR6 := Lib.hid hr6
        have HO6 := Lib.hid ho6
        have HB26 := Lib.hid hb26
        have HX := Lib.hid hxl
        have HL6 := Lib.hid hlen6
        have HN6 := Lib.hid hN6
        by_cases ex : x + 1 = m0
        · have hans : ANS = (out ++ X, q5, 0) := (hcases.resolve_right fun h => h.1 ex).2
          have dx : ((x : Int) == (n1 : Int)) = true := by rw [hn1x.1 ex]; exact beq_self_eq_true _
          have dx2 : (x == n1) = true := by rw [hn1x.1 ex]; exact beq_self_eq_true _
          have HE := Lib.hid (HOK.out w6 (.slice A6 N6 c6) (out ++ X) q5 hans (by rw [hlen6]; exact World.ownsRow.mono ho6 hsz2) (HBW2.out.trans (hb26.mono hsz2)))
          clear hans hcases hXo hxl hxl1 ho5 hc5 hA5 hi5 hrow5 hr6 ho6 hg6 hb26 hg5 ho56 hol hN6 hlen6 hb25 hbw5 hb5 HG HOK HER ex hn1x
          go_wp2_with (at_builtin; refine Lib.wpList_append_run _ rfl (.tmp 48) (.tmp 49) 30 30 rfl (.slice A9 N c9) (.slice (some ⟨g5, 0, none⟩) xl c5) rfl rfl _ w6 HR6.out ?_)
          first | go_ret3 | skip
          exact HE.out
        · obtain ⟨_, hX50, hnext⟩ := hcases.resolve_left fun h => ex h.1
          have dx : ((x : Int) == (n1 : Int)) = false := by rw [beq_eq_false_iff_ne]; intro h; exact ex (hn1x.2 (by omega))
          have dx2 : (x == n1) = false := by rw [beq_eq_false_iff_ne]; intro h; exact ex (hn1x.2 h)
          have HN2 : Hid ((out ++ X).length = N6 ∧ N6 ≤ 50 * (i + 1) ∧ q5 ≤ 8 * s.size ∧ getF (T.map nl) (nl P) bits m0 (50 * (m - (i + 1))) (50 * (i + 1)) q5 (out ++ X) = ANS) := Lib.hid ⟨hlen6, by have := HI.out.2.1; omega, HSMX.out, by rw [show 50 * (i + 1) = 50 * i + 50 by omega]; exact hnext⟩
          clear hnext hX50 hcases hXo hxl hxl1 ho5 hc5 hA5 hi5 hrow5 hr6 ho6 hg6 hb26 hg5 ho56 hol hN6 hlen6 hb25 hbw5 hb5 HG ex hn1x
          go_wp2_with (at_builtin; refine Lib.wpList_append_run _ rfl (.tmp 48) (.tmp 49) 30 30 rfl (.slice A9 N c9) (.slice (some ⟨g5, 0, none⟩) xl c5) rfl rfl _ w6 HR6.out ?_)
          go_roundw
          case rel => exact ⟨i + 1, q5, N6, c6, A6, out ++ X, by omega, by go_num, rfl, rfl, HO6.out, HB26.out, HN2⟩
          case measure => simp [intOf]; omega
      · have hans : ANS = ([], 0, z5) := by
          rcases HG.out with ⟨_, h2⟩ | ⟨h1, _⟩ | ⟨h1, _⟩
          · exact h2
          · exact absurd h1 ez
          · exact absurd h1 ez
        have HE := Lib.hid (HER.out w5 z5 hans hbw5)
        have dz2 : ((z5 : Int) != 0) = true := by rw [bne_iff_ne]; omega
        have dz3 : ¬ (z5 : Int) = 0 := by omega
        clear hans ho5 hb5 hb25 hbw5 HA HG HSMX HLX HO HBX HI HOK HER HANS HALL HSM HLENS HGRP HTC HPC HGT
        go_wp2_with fail
        first | go_ret3 | skip
        exact HE.out
    · obtain rfl : i = m := by omega
      have di : decide ((i : Int) < (i : Int)) = false := decide_eq_false (by omega)
      have hans : ANS = ([], 0, 110) := by
        rw [← hI.out.2.2.2, Nat.sub_self]
        rfl
      have HE := Lib.hid (HER.out wx 110 hans (HBW2.out.trans (hbx.mono hsz2)))
      clear hans ho hbx hI HOK HER HANS HALL HSM HLENS HGRP HTC HPC HGT
      go_wp2_with fail
      first | go_ret3 | skip
      exact HE.out

theorem cget_any (w : World) (v : Value) (T : List (List Int)) (P : List Int) (h : PlanIn w v T P) (s : ByteArray) (at' : Int) (hs : s.size ≤ 2000000) (hl : -9223372036854775808 ≤ at') (hh : at' ≤ 9223372036854775807) :
    Calls Try.prog 12 #[v, .string s, .int .i64 at'] w (AllPost w (getG T P (bitsB s.data.toList) at')) := by
  by_cases hP : MayPlan T P
  · by_cases hat : at' < 0 ∨ 8 * (s.size : Int) < at'
    · exact cget_arg w v T P h s at' hs hl hh hP hat
    · exact cget_yes w v T P h s at' hs hP (by omega) (by omega)
  · exact cget_bad w v T P h s at' hP

end Go.Proofs.Ytmgmgmbpldboiaa
