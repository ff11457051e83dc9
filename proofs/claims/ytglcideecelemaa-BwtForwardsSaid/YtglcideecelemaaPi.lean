/- The sort, by a method value: partialInsertionSort, as the plain text has it. (pi.py wrote this.) -/
import Derived.Test.YtglcideecelemaaPh
import Derived.Sort.WalkA6
namespace Go.Proofs.Ytglcideecelemaa
open Go.RowKit

set_option maxHeartbeats 16000000 in
set_option maxRecDepth 100000 in
theorem partial_any (k : Nat) (r : Value) (cf : Fin (k + 1) → Fin (k + 1) → Int) (blk off cap a b : Nat) (d0 d : Array (Fin (k + 1))) (w0 w : World)
    (C : CmpMv r cf blk off d0.size w0) (R : Row1 encF w0 blk off d0) (hs : d0.size = d.size) (S : SW encF w0 blk off d w) (hab : a + 12 < b) (hb : b ≤ d.size) (hsz : d.size ≤ 1000000000) :
    Calls Try.prog 44 #[.slice (some ⟨blk, off, none⟩) d.size cap, .int .i64 a, .int .i64 b, .func (.func 30) #[r] #[]] w fun e w' => e = .returned (.bool (Go.Sort.partialInsertionSort (ltOf cf) d a b).2) ∧ SW encF w0 blk off (Go.Sort.partialInsertionSort (ltOf cf) d a b).1 w' := by
  have HC := Lib.hid C
  have HR := Lib.hid R
  have HS := Lib.hid S
  clear C R S
  obtain ⟨n, hn⟩ : ∃ x, x = b - a := ⟨_, rfl⟩
  have z1 : (b : Int) - (a : Int) = (n : Int) := by omega
  have hn2 : a + n ≤ b := by omega
  have hn3 : b ≤ a + n := by omega
  clear hn
  unfold Go.Sort.partialInsertionSort
  obtain ⟨T, hT⟩ : ∃ T, T = Go.Sort.partialIns (ltOf cf) a b 5 (a + 1) d := ⟨_, rfl⟩
  rw [← hT]
  have HT0 := Lib.hid hT.symm
  clear hT
  go_enter Try.func44, Try.ntmps44
  go_wp2_with fail
  go_loopw [9, 10] (fun x y wr => ∃ (i s : Nat) (dk : Array (Fin (k + 1))), x = .int .i64 i ∧ y = .int .i64 s ∧ s ≤ 5 ∧ a < i ∧ i ≤ b ∧ dk.size = d.size ∧ SW encF w0 blk off dk wr ∧ Go.Sort.partialIns (ltOf cf) a b (5 - s) i dk = T) (fun _ y _ => 5 - (intOf y).toNat)
  case atStart => exact ⟨a + 1, 0, d, by go_num, rfl, by omega, by omega, by omega, rfl, HS.out, HT0.out⟩
  case round =>
    obtain ⟨i, s, dk, rfl, rfl, hs6, hai, hib, hsk, S1, HO0⟩ := hrel
    have HO := Lib.hid HO0
    have HS1 := Lib.hid S1
    clear HO0 S1 HT0 HS
    have hk0 : dk.size = d0.size := by omega
    by_cases hs5 : s < 5
    · have d1 : decide ((s : Int) < 5) = true := decide_eq_true (by omega)
      go_wp2_with fail
      go_loopw [9] (fun x wr => ∃ (p : Nat), x = .int .i64 p ∧ i ≤ p ∧ p ≤ b ∧ SW encF w0 blk off dk wr ∧ Go.Sort.scanSorted (ltOf cf) dk b p = Go.Sort.scanSorted (ltOf cf) dk b i) (fun x _ => b - (intOf x).toNat)
      case atStart => exact ⟨i, rfl, Nat.le_refl _, hib, HS1.out, rfl⟩
      case round =>
        clear HS1
        obtain ⟨p, rfl, hip, hpb2, SP, HP0⟩ := hrel
        have HSP := Lib.hid SP
        have HP := Lib.hid HP0
        clear SP HP0
        by_cases hpb : p < b
        · have d2 : decide ((p : Int) < (b : Int)) = true := decide_eq_true (by omega)
          obtain ⟨pm, hpm⟩ : ∃ x, x = p - 1 := ⟨_, rfl⟩
          have Hpm := Lib.hid hpm
          have zp : (p : Int) - 1 = (pm : Int) := by omega
          have hmp : p < dk.size := by omega
          have hmq : pm < dk.size := by omega
          have hnp : p < d.size := by omega
          have hnq : pm < d.size := by omega
          clear hpm
          obtain ⟨x1, vx1⟩ : ∃ x, x = dk[p]! := ⟨_, rfl⟩
          obtain ⟨x2, vx2⟩ : ∃ x, x = dk[pm]! := ⟨_, rfl⟩
          have Vx1 := Lib.hid vx1
          have Vx2 := Lib.hid vx2
          clear vx1 vx2
          have g1 := sw_cell HSP.out HR.out hk0 p hmp
          have g2 := sw_cell HSP.out HR.out hk0 pm hmq
          rw [← Vx1.out] at g1
          rw [← Vx2.out] at g2
          have HCC := Lib.hid fun m => cmp_at HC.out HSP.out hk0 x1 x2 m
          cases hl : ltOf cf x1 x2 with
          | true =>
            have d3 := lt_true hl
            rw [Vx1.out, Vx2.out] at hl
            have HL := Lib.hid hl
            clear hl
            generalize cf x1 x2 = c at *
            go_wp2_with fail
            go_quiet ((go_at_call 30; exact Calls.quiet_of (HCC.out _)))
            have HS2 := Lib.hid (HSP.out.drewN nq)
            clear g1 g2 HCC HSP
            generalize wr.drewN nq = w2 at HS2 ⊢
            have HK : Hid (Go.Sort.scanSorted (ltOf cf) dk b i = p) := by
              show _ = _
              rw [← HP.out, scanSorted_stop (ltOf cf) dk b p (Or.inr (by rw [← Hpm.out]; exact HL.out))]
            have hne : ((p : Int) == (b : Int)) = false := by simp; omega
            have hne2 : (p == b) = false := by simp; omega
            by_cases h50 : n < 50
            · have d5 : decide ((n : Int) < 50) = true := decide_eq_true (by omega)
              have HT : Hid (T = (dk, false)) := by
                show _ = _
                rw [← HO.out, pi_short (ltOf cf) a b s i dk hs5 (by rw [HK.out]; omega) (by omega)]
              go_wp2_with fail
              go_ret
              rw [HT.out]
              exact ⟨rfl, HS2.out⟩
            · have d5 : decide ((n : Int) < 50) = false := decide_eq_false (by omega)
              obtain ⟨q, hq⟩ : ∃ x, x = p - a := ⟨_, rfl⟩
              obtain ⟨m, hm⟩ : ∃ x, x = b - p := ⟨_, rfl⟩
              have zq : (p : Int) - (a : Int) = (q : Int) := by omega
              have zm : (b : Int) - (p : Int) = (m : Int) := by omega
              clear hq hm
              go_wp2_with fail
              have g1 := sw_cell HS2.out HR.out hk0 p hmp
              have g2 := sw_cell HS2.out HR.out hk0 pm hmq
              have f1 := sw_frozen HS2.out HR.out hk0 p hmp
              have f2 := sw_frozen HS2.out HR.out hk0 pm hmq
              obtain ⟨u, g3⟩ := sw_then HS2.out HR.out hk0 p pm hmp hmq x2.val
              have HS3 := Lib.hid (sw_swap HS2.out HR.out p pm hmp hmq)
              rw [← Vx1.out] at g1
              rw [← Vx2.out] at g2
              rw [← Vx1.out, ← Vx2.out] at HS3
              clear HS2
              go_wp2_with fail
              go_region
              clear g1 g2 g3 f1 f2
              generalize ((w2.setCell ⟨blk, off + p, none⟩ (.int .i64 (x2.val : Nat))).setCell ⟨blk, off + pm, none⟩ (.int .i64 (x1.val : Nat))).drew = w3 at HS3 ⊢
              have hX1 : (Go.Sort.swp dk p pm).size = d.size := by rw [Go.Sort.size_swp]; exact hsk
              clear HL Vx1 Vx2 d3
              by_cases hq2 : 2 ≤ q
              · have e1 : decide ((2 : Int) ≤ (q : Int)) = true := decide_eq_true (by omega)
                go_wp2_with fail
                go_loopw [11] (fun y wr => ∃ (j : Nat) (dj : Array (Fin (k + 1))), y = .int .i64 j ∧ j ≤ pm ∧ dj.size = d.size ∧ SW encF w0 blk off dj wr ∧ Go.Sort.shiftDown (ltOf cf) j dj = Go.Sort.shiftDown (ltOf cf) pm (Go.Sort.swp dk p pm)) (fun y _ => (intOf y).toNat)
                case atStart => exact ⟨pm, Go.Sort.swp dk p pm, rfl, Nat.le_refl _, hX1, HS3.out, rfl⟩
                case round =>
                  clear HS3
                  obtain ⟨jd, dd, rfl, hjd, hsd, SD, HD0⟩ := hrel
                  have HSD := Lib.hid SD
                  have HD := Lib.hid HD0
                  clear SD HD0
                  have hkd : dd.size = d0.size := by omega
                  by_cases hj1 : 1 ≤ jd
                  · have e3 : decide ((1 : Int) ≤ (jd : Int)) = true := decide_eq_true (by omega)
                    have hj0 : 0 < jd := hj1
                    obtain ⟨jm, hjm⟩ : ∃ x, x = jd - 1 := ⟨_, rfl⟩
                    have Hjm := Lib.hid hjm
                    have zj : (jd : Int) - 1 = (jm : Int) := by omega
                    have hmj : jd < dd.size := by omega
                    have hmm : jm < dd.size := by omega
                    have hnj : jd < d.size := by omega
                    have hnm : jm < d.size := by omega
                    have hjl : jm + 1 = jd := by omega
                    have Hjl := Lib.hid hjl
                    clear hjm hjl
                    obtain ⟨x1, vx1⟩ : ∃ x, x = dd[jd]! := ⟨_, rfl⟩
                    obtain ⟨x2, vx2⟩ : ∃ x, x = dd[jm]! := ⟨_, rfl⟩
                    have Vx1 := Lib.hid vx1
                    have Vx2 := Lib.hid vx2
                    clear vx1 vx2
                    have g1 := sw_cell HSD.out HR.out hkd jd hmj
                    have g2 := sw_cell HSD.out HR.out hkd jm hmm
                    rw [← Vx1.out] at g1
                    rw [← Vx2.out] at g2
                    have HCC := Lib.hid fun m => cmp_at HC.out HSD.out hkd x1 x2 m
                    cases hl : ltOf cf x1 x2 with
                    | true =>
                      have d3 := lt_true hl
                      rw [Vx1.out, Vx2.out] at hl
                      have HL := Lib.hid hl
                      clear hl
                      generalize cf x1 x2 = c at *
                      go_wp2_with fail
                      go_quiet ((go_at_call 30; exact Calls.quiet_of (HCC.out _)))
                      have HS2 := Lib.hid (HSD.out.drewN nq)
                      clear g1 g2 HCC HSD
                      generalize wr.drewN nq = w2 at HS2 ⊢
                      have HG : Hid (Go.Sort.shiftDown (ltOf cf) jm (Go.Sort.swp dd jd jm) = Go.Sort.shiftDown (ltOf cf) pm (Go.Sort.swp dk p pm)) := by
                        show _ = _
                        rw [← HD.out, shiftDown_go (ltOf cf) jd dd hj1 (by rw [← Hjm.out]; exact HL.out), Hjm.out]
                      have g1 := sw_cell HS2.out HR.out hkd jd hmj
                      have g2 := sw_cell HS2.out HR.out hkd jm hmm
                      have f1 := sw_frozen HS2.out HR.out hkd jd hmj
                      have f2 := sw_frozen HS2.out HR.out hkd jm hmm
                      obtain ⟨u, g3⟩ := sw_then HS2.out HR.out hkd jd jm hmj hmm x2.val
                      have HS3 := Lib.hid (sw_swap HS2.out HR.out jd jm hmj hmm)
                      rw [← Vx1.out] at g1
                      rw [← Vx2.out] at g2
                      rw [← Vx1.out, ← Vx2.out] at HS3
                      clear HS2
                      go_wp2_with fail
                      go_region
                      clear g1 g2 g3 f1 f2
                      generalize ((w2.setCell ⟨blk, off + jd, none⟩ (.int .i64 (x2.val : Nat))).setCell ⟨blk, off + jm, none⟩ (.int .i64 (x1.val : Nat))).drew = w3 at HS3 ⊢
                      go_wp2_with fail
                      go_roundw
                      case rel => exact ⟨jm, Go.Sort.swp dd jd jm, rfl, by have := Hjl.out; omega, by rw [Go.Sort.size_swp]; exact hsd, HS3.out, HG.out⟩
                      case measure => (have := Hjl.out; simp [intOf] <;> omega)
                    | false =>
                      have d3 := lt_false hl
                      rw [Vx1.out, Vx2.out] at hl
                      have HL := Lib.hid hl
                      clear hl
                      generalize cf x1 x2 = c at *
                      go_wp2_with fail
                      go_quiet ((go_at_call 30; exact Calls.quiet_of (HCC.out _)))
                      have HS2 := Lib.hid (HSD.out.drewN nq)
                      clear g1 g2 HCC HSD
                      generalize wr.drewN nq = w2 at HS2 ⊢
                      have HFD : Hid (Go.Sort.fixDown (ltOf cf) a p (Go.Sort.swp dk p pm) = dd) := by
                        show _ = _
                        unfold Go.Sort.fixDown
                        rw [if_pos (show p - a ≥ 2 by omega), ← Hpm.out, ← HD.out, shiftDown_stop (ltOf cf) jd dd (Or.inr (by rw [← Hjm.out]; exact HL.out))]
                      clear Hjm Hjl HL Vx1 Vx2 d3 zj hmj hmm hnj hnm e3 hj1 hj0
                      by_cases hm2 : 2 ≤ m
                      · have e2 : decide ((2 : Int) ≤ (m : Int)) = true := decide_eq_true (by omega)
                        go_wp2_with fail
                        go_loopw [12] (fun y wr => ∃ (j : Nat) (dj : Array (Fin (k + 1))), y = .int .i64 j ∧ p + 1 ≤ j ∧ j ≤ b ∧ dj.size = d.size ∧ SW encF w0 blk off dj wr ∧ Go.Sort.shiftUp (ltOf cf) b j dj = Go.Sort.shiftUp (ltOf cf) b (p + 1) (dd)) (fun y _ => b - (intOf y).toNat)
                        case atStart => exact ⟨p + 1, dd, by go_num, by omega, by omega, hsd, HS2.out, rfl⟩
                        case round =>
                          clear HS2
                          obtain ⟨j, dj, rfl, hj1, hj2, hsj, SJ, HJ0⟩ := hrel
                          have HSJ := Lib.hid SJ
                          have HJ := Lib.hid HJ0
                          clear SJ HJ0
                          have hkj : dj.size = d0.size := by omega
                          by_cases hjb : j < b
                          · have e3 : decide ((j : Int) < (b : Int)) = true := decide_eq_true (by omega)
                            obtain ⟨jm, hjm⟩ : ∃ x, x = j - 1 := ⟨_, rfl⟩
                            have Hjm := Lib.hid hjm
                            have zj : (j : Int) - 1 = (jm : Int) := by omega
                            have hmj : j < dj.size := by omega
                            have hmm : jm < dj.size := by omega
                            have hnj : j < d.size := by omega
                            have hnm : jm < d.size := by omega
                            clear hjm
                            obtain ⟨x1, vx1⟩ : ∃ x, x = dj[j]! := ⟨_, rfl⟩
                            obtain ⟨x2, vx2⟩ : ∃ x, x = dj[jm]! := ⟨_, rfl⟩
                            have Vx1 := Lib.hid vx1
                            have Vx2 := Lib.hid vx2
                            clear vx1 vx2
                            have g1 := sw_cell HSJ.out HR.out hkj j hmj
                            have g2 := sw_cell HSJ.out HR.out hkj jm hmm
                            rw [← Vx1.out] at g1
                            rw [← Vx2.out] at g2
                            have HCC := Lib.hid fun m => cmp_at HC.out HSJ.out hkj x1 x2 m
                            cases hl : ltOf cf x1 x2 with
                            | true =>
                              have d3 := lt_true hl
                              rw [Vx1.out, Vx2.out] at hl
                              have HL := Lib.hid hl
                              clear hl
                              generalize cf x1 x2 = c at *
                              go_wp2_with fail
                              go_quiet ((go_at_call 30; exact Calls.quiet_of (HCC.out _)))
                              have HS2 := Lib.hid (HSJ.out.drewN nq)
                              clear g1 g2 HCC HSJ
                              generalize wr.drewN nq = w2 at HS2 ⊢
                              have HG : Hid (Go.Sort.shiftUp (ltOf cf) b (j + 1) (Go.Sort.swp dj j jm) = Go.Sort.shiftUp (ltOf cf) b (p + 1) (dd)) := by
                                show _ = _
                                rw [← HJ.out, shiftUp_go (ltOf cf) b j dj hjb (by rw [← Hjm.out]; exact HL.out), Hjm.out]
                              have g1 := sw_cell HS2.out HR.out hkj j hmj
                              have g2 := sw_cell HS2.out HR.out hkj jm hmm
                              have f1 := sw_frozen HS2.out HR.out hkj j hmj
                              have f2 := sw_frozen HS2.out HR.out hkj jm hmm
                              obtain ⟨u, g3⟩ := sw_then HS2.out HR.out hkj j jm hmj hmm x2.val
                              have HS3 := Lib.hid (sw_swap HS2.out HR.out j jm hmj hmm)
                              rw [← Vx1.out] at g1
                              rw [← Vx2.out] at g2
                              rw [← Vx1.out, ← Vx2.out] at HS3
                              clear HS2
                              go_wp2_with fail
                              go_region
                              clear g1 g2 g3 f1 f2
                              generalize ((w2.setCell ⟨blk, off + j, none⟩ (.int .i64 (x2.val : Nat))).setCell ⟨blk, off + jm, none⟩ (.int .i64 (x1.val : Nat))).drew = w3 at HS3 ⊢
                              go_wp2_with fail
                              go_roundw
                              case rel => exact ⟨j + 1, Go.Sort.swp dj j jm, by go_num, by omega, by omega, by rw [Go.Sort.size_swp]; exact hsj, HS3.out, HG.out⟩
                              case measure => (simp [intOf] <;> omega)
                            | false =>
                              have d3 := lt_false hl
                              rw [Vx1.out, Vx2.out] at hl
                              have HL := Lib.hid hl
                              clear hl
                              generalize cf x1 x2 = c at *
                              go_wp2_with fail
                              go_quiet ((go_at_call 30; exact Calls.quiet_of (HCC.out _)))
                              have HS2 := Lib.hid (HSJ.out.drewN nq)
                              clear g1 g2 HCC HSJ
                              generalize wr.drewN nq = w2 at HS2 ⊢
                              have HFU : Hid (Go.Sort.fixUp (ltOf cf) b p (dd) = dj) := by
                                show _ = _
                                unfold Go.Sort.fixUp
                                rw [if_pos (show b - p ≥ 2 by omega), ← HJ.out, shiftUp_stop (ltOf cf) b j dj (Or.inr (by rw [← Hjm.out]; exact HL.out))]
                              go_wp2_with fail
                              go_roundw
                              case rel => exact ⟨p, s + 1, dj, rfl, by go_num, by omega, by omega, by omega, hsj, HS2.out, by rw [← HO.out, pi_go (ltOf cf) a b s i p dk hs5 HK.out (by omega) (by omega), ← Hpm.out, HFD.out, HFU.out]⟩
                              case measure => (simp [intOf] <;> omega)
                          · have e3 : decide ((j : Int) < (b : Int)) = false := decide_eq_false (by omega)
                            have HFU : Hid (Go.Sort.fixUp (ltOf cf) b p (dd) = dj) := by
                              show _ = _
                              unfold Go.Sort.fixUp
                              rw [if_pos (show b - p ≥ 2 by omega), ← HJ.out, shiftUp_stop (ltOf cf) b j dj (Or.inl hjb)]
                            go_wp2_with fail
                            go_roundw
                            case rel => exact ⟨p, s + 1, dj, rfl, by go_num, by omega, by omega, by omega, hsj, HSJ.out, by rw [← HO.out, pi_go (ltOf cf) a b s i p dk hs5 HK.out (by omega) (by omega), ← Hpm.out, HFD.out, HFU.out]⟩
                            case measure => (simp [intOf] <;> omega)
                      · have e2 : decide ((2 : Int) ≤ (m : Int)) = false := decide_eq_false (by omega)
                        have HFU : Hid (Go.Sort.fixUp (ltOf cf) b p (dd) = dd) := by
                          show _ = _
                          unfold Go.Sort.fixUp
                          rw [if_neg (show ¬ b - p ≥ 2 by omega)]
                        go_wp2_with fail
                        go_roundw
                        case rel => exact ⟨p, s + 1, dd, rfl, by go_num, by omega, by omega, by omega, hsd, HS2.out, by rw [← HO.out, pi_go (ltOf cf) a b s i p dk hs5 HK.out (by omega) (by omega), ← Hpm.out, HFD.out, HFU.out]⟩
                        case measure => (simp [intOf] <;> omega)
                  · have e3 : decide ((1 : Int) ≤ (jd : Int)) = false := decide_eq_false (by omega)
                    have hj0 : jd = 0 := by omega
                    have HFD : Hid (Go.Sort.fixDown (ltOf cf) a p (Go.Sort.swp dk p pm) = dd) := by
                      show _ = _
                      unfold Go.Sort.fixDown
                      rw [if_pos (show p - a ≥ 2 by omega), ← Hpm.out, ← HD.out, shiftDown_stop (ltOf cf) jd dd (Or.inl hj0)]
                    subst hj0
                    by_cases hm2 : 2 ≤ m
                    · have e2 : decide ((2 : Int) ≤ (m : Int)) = true := decide_eq_true (by omega)
                      go_wp2_with fail
                      go_loopw [12] (fun y wr => ∃ (j : Nat) (dj : Array (Fin (k + 1))), y = .int .i64 j ∧ p + 1 ≤ j ∧ j ≤ b ∧ dj.size = d.size ∧ SW encF w0 blk off dj wr ∧ Go.Sort.shiftUp (ltOf cf) b j dj = Go.Sort.shiftUp (ltOf cf) b (p + 1) (dd)) (fun y _ => b - (intOf y).toNat)
                      case atStart => exact ⟨p + 1, dd, by go_num, by omega, by omega, hsd, HSD.out, rfl⟩
                      case round =>
                        clear HSD
                        obtain ⟨j, dj, rfl, hj1, hj2, hsj, SJ, HJ0⟩ := hrel
                        have HSJ := Lib.hid SJ
                        have HJ := Lib.hid HJ0
                        clear SJ HJ0
                        have hkj : dj.size = d0.size := by omega
                        by_cases hjb : j < b
                        · have e3 : decide ((j : Int) < (b : Int)) = true := decide_eq_true (by omega)
                          obtain ⟨jm, hjm⟩ : ∃ x, x = j - 1 := ⟨_, rfl⟩
                          have Hjm := Lib.hid hjm
                          have zj : (j : Int) - 1 = (jm : Int) := by omega
                          have hmj : j < dj.size := by omega
                          have hmm : jm < dj.size := by omega
                          have hnj : j < d.size := by omega
                          have hnm : jm < d.size := by omega
                          clear hjm
                          obtain ⟨x1, vx1⟩ : ∃ x, x = dj[j]! := ⟨_, rfl⟩
                          obtain ⟨x2, vx2⟩ : ∃ x, x = dj[jm]! := ⟨_, rfl⟩
                          have Vx1 := Lib.hid vx1
                          have Vx2 := Lib.hid vx2
                          clear vx1 vx2
                          have g1 := sw_cell HSJ.out HR.out hkj j hmj
                          have g2 := sw_cell HSJ.out HR.out hkj jm hmm
                          rw [← Vx1.out] at g1
                          rw [← Vx2.out] at g2
                          have HCC := Lib.hid fun m => cmp_at HC.out HSJ.out hkj x1 x2 m
                          cases hl : ltOf cf x1 x2 with
                          | true =>
                            have d3 := lt_true hl
                            rw [Vx1.out, Vx2.out] at hl
                            have HL := Lib.hid hl
                            clear hl
                            generalize cf x1 x2 = c at *
                            go_wp2_with fail
                            go_quiet ((go_at_call 30; exact Calls.quiet_of (HCC.out _)))
                            have HS2 := Lib.hid (HSJ.out.drewN nq)
                            clear g1 g2 HCC HSJ
                            generalize wr.drewN nq = w2 at HS2 ⊢
                            have HG : Hid (Go.Sort.shiftUp (ltOf cf) b (j + 1) (Go.Sort.swp dj j jm) = Go.Sort.shiftUp (ltOf cf) b (p + 1) (dd)) := by
                              show _ = _
                              rw [← HJ.out, shiftUp_go (ltOf cf) b j dj hjb (by rw [← Hjm.out]; exact HL.out), Hjm.out]
                            have g1 := sw_cell HS2.out HR.out hkj j hmj
                            have g2 := sw_cell HS2.out HR.out hkj jm hmm
                            have f1 := sw_frozen HS2.out HR.out hkj j hmj
                            have f2 := sw_frozen HS2.out HR.out hkj jm hmm
                            obtain ⟨u, g3⟩ := sw_then HS2.out HR.out hkj j jm hmj hmm x2.val
                            have HS3 := Lib.hid (sw_swap HS2.out HR.out j jm hmj hmm)
                            rw [← Vx1.out] at g1
                            rw [← Vx2.out] at g2
                            rw [← Vx1.out, ← Vx2.out] at HS3
                            clear HS2
                            go_wp2_with fail
                            go_region
                            clear g1 g2 g3 f1 f2
                            generalize ((w2.setCell ⟨blk, off + j, none⟩ (.int .i64 (x2.val : Nat))).setCell ⟨blk, off + jm, none⟩ (.int .i64 (x1.val : Nat))).drew = w3 at HS3 ⊢
                            go_wp2_with fail
                            go_roundw
                            case rel => exact ⟨j + 1, Go.Sort.swp dj j jm, by go_num, by omega, by omega, by rw [Go.Sort.size_swp]; exact hsj, HS3.out, HG.out⟩
                            case measure => (simp [intOf] <;> omega)
                          | false =>
                            have d3 := lt_false hl
                            rw [Vx1.out, Vx2.out] at hl
                            have HL := Lib.hid hl
                            clear hl
                            generalize cf x1 x2 = c at *
                            go_wp2_with fail
                            go_quiet ((go_at_call 30; exact Calls.quiet_of (HCC.out _)))
                            have HS2 := Lib.hid (HSJ.out.drewN nq)
                            clear g1 g2 HCC HSJ
                            generalize wr.drewN nq = w2 at HS2 ⊢
                            have HFU : Hid (Go.Sort.fixUp (ltOf cf) b p (dd) = dj) := by
                              show _ = _
                              unfold Go.Sort.fixUp
                              rw [if_pos (show b - p ≥ 2 by omega), ← HJ.out, shiftUp_stop (ltOf cf) b j dj (Or.inr (by rw [← Hjm.out]; exact HL.out))]
                            go_wp2_with fail
                            go_roundw
                            case rel => exact ⟨p, s + 1, dj, rfl, by go_num, by omega, by omega, by omega, hsj, HS2.out, by rw [← HO.out, pi_go (ltOf cf) a b s i p dk hs5 HK.out (by omega) (by omega), ← Hpm.out, HFD.out, HFU.out]⟩
                            case measure => (simp [intOf] <;> omega)
                        · have e3 : decide ((j : Int) < (b : Int)) = false := decide_eq_false (by omega)
                          have HFU : Hid (Go.Sort.fixUp (ltOf cf) b p (dd) = dj) := by
                            show _ = _
                            unfold Go.Sort.fixUp
                            rw [if_pos (show b - p ≥ 2 by omega), ← HJ.out, shiftUp_stop (ltOf cf) b j dj (Or.inl hjb)]
                          go_wp2_with fail
                          go_roundw
                          case rel => exact ⟨p, s + 1, dj, rfl, by go_num, by omega, by omega, by omega, hsj, HSJ.out, by rw [← HO.out, pi_go (ltOf cf) a b s i p dk hs5 HK.out (by omega) (by omega), ← Hpm.out, HFD.out, HFU.out]⟩
                          case measure => (simp [intOf] <;> omega)
                    · have e2 : decide ((2 : Int) ≤ (m : Int)) = false := decide_eq_false (by omega)
                      have HFU : Hid (Go.Sort.fixUp (ltOf cf) b p (dd) = dd) := by
                        show _ = _
                        unfold Go.Sort.fixUp
                        rw [if_neg (show ¬ b - p ≥ 2 by omega)]
                      go_wp2_with fail
                      go_roundw
                      case rel => exact ⟨p, s + 1, dd, rfl, by go_num, by omega, by omega, by omega, hsd, HSD.out, by rw [← HO.out, pi_go (ltOf cf) a b s i p dk hs5 HK.out (by omega) (by omega), ← Hpm.out, HFD.out, HFU.out]⟩
                      case measure => (simp [intOf] <;> omega)
              · have e1 : decide ((2 : Int) ≤ (q : Int)) = false := decide_eq_false (by omega)
                have HFD : Hid (Go.Sort.fixDown (ltOf cf) a p (Go.Sort.swp dk p pm) = Go.Sort.swp dk p pm) := by
                  show _ = _
                  unfold Go.Sort.fixDown
                  rw [if_neg (show ¬ p - a ≥ 2 by omega)]
                by_cases hm2 : 2 ≤ m
                · have e2 : decide ((2 : Int) ≤ (m : Int)) = true := decide_eq_true (by omega)
                  go_wp2_with fail
                  go_loopw [12] (fun y wr => ∃ (j : Nat) (dj : Array (Fin (k + 1))), y = .int .i64 j ∧ p + 1 ≤ j ∧ j ≤ b ∧ dj.size = d.size ∧ SW encF w0 blk off dj wr ∧ Go.Sort.shiftUp (ltOf cf) b j dj = Go.Sort.shiftUp (ltOf cf) b (p + 1) (Go.Sort.swp dk p pm)) (fun y _ => b - (intOf y).toNat)
                  case atStart => exact ⟨p + 1, Go.Sort.swp dk p pm, by go_num, by omega, by omega, hX1, HS3.out, rfl⟩
                  case round =>
                    clear HS3
                    obtain ⟨j, dj, rfl, hj1, hj2, hsj, SJ, HJ0⟩ := hrel
                    have HSJ := Lib.hid SJ
                    have HJ := Lib.hid HJ0
                    clear SJ HJ0
                    have hkj : dj.size = d0.size := by omega
                    by_cases hjb : j < b
                    · have e3 : decide ((j : Int) < (b : Int)) = true := decide_eq_true (by omega)
                      obtain ⟨jm, hjm⟩ : ∃ x, x = j - 1 := ⟨_, rfl⟩
                      have Hjm := Lib.hid hjm
                      have zj : (j : Int) - 1 = (jm : Int) := by omega
                      have hmj : j < dj.size := by omega
                      have hmm : jm < dj.size := by omega
                      have hnj : j < d.size := by omega
                      have hnm : jm < d.size := by omega
                      clear hjm
                      obtain ⟨x1, vx1⟩ : ∃ x, x = dj[j]! := ⟨_, rfl⟩
                      obtain ⟨x2, vx2⟩ : ∃ x, x = dj[jm]! := ⟨_, rfl⟩
                      have Vx1 := Lib.hid vx1
                      have Vx2 := Lib.hid vx2
                      clear vx1 vx2
                      have g1 := sw_cell HSJ.out HR.out hkj j hmj
                      have g2 := sw_cell HSJ.out HR.out hkj jm hmm
                      rw [← Vx1.out] at g1
                      rw [← Vx2.out] at g2
                      have HCC := Lib.hid fun m => cmp_at HC.out HSJ.out hkj x1 x2 m
                      cases hl : ltOf cf x1 x2 with
                      | true =>
                        have d3 := lt_true hl
                        rw [Vx1.out, Vx2.out] at hl
                        have HL := Lib.hid hl
                        clear hl
                        generalize cf x1 x2 = c at *
                        go_wp2_with fail
                        go_quiet ((go_at_call 30; exact Calls.quiet_of (HCC.out _)))
                        have HS2 := Lib.hid (HSJ.out.drewN nq)
                        clear g1 g2 HCC HSJ
                        generalize wr.drewN nq = w2 at HS2 ⊢
                        have HG : Hid (Go.Sort.shiftUp (ltOf cf) b (j + 1) (Go.Sort.swp dj j jm) = Go.Sort.shiftUp (ltOf cf) b (p + 1) (Go.Sort.swp dk p pm)) := by
                          show _ = _
                          rw [← HJ.out, shiftUp_go (ltOf cf) b j dj hjb (by rw [← Hjm.out]; exact HL.out), Hjm.out]
                        have g1 := sw_cell HS2.out HR.out hkj j hmj
                        have g2 := sw_cell HS2.out HR.out hkj jm hmm
                        have f1 := sw_frozen HS2.out HR.out hkj j hmj
                        have f2 := sw_frozen HS2.out HR.out hkj jm hmm
                        obtain ⟨u, g3⟩ := sw_then HS2.out HR.out hkj j jm hmj hmm x2.val
                        have HS3 := Lib.hid (sw_swap HS2.out HR.out j jm hmj hmm)
                        rw [← Vx1.out] at g1
                        rw [← Vx2.out] at g2
                        rw [← Vx1.out, ← Vx2.out] at HS3
                        clear HS2
                        go_wp2_with fail
                        go_region
                        clear g1 g2 g3 f1 f2
                        generalize ((w2.setCell ⟨blk, off + j, none⟩ (.int .i64 (x2.val : Nat))).setCell ⟨blk, off + jm, none⟩ (.int .i64 (x1.val : Nat))).drew = w3 at HS3 ⊢
                        go_wp2_with fail
                        go_roundw
                        case rel => exact ⟨j + 1, Go.Sort.swp dj j jm, by go_num, by omega, by omega, by rw [Go.Sort.size_swp]; exact hsj, HS3.out, HG.out⟩
                        case measure => (simp [intOf] <;> omega)
                      | false =>
                        have d3 := lt_false hl
                        rw [Vx1.out, Vx2.out] at hl
                        have HL := Lib.hid hl
                        clear hl
                        generalize cf x1 x2 = c at *
                        go_wp2_with fail
                        go_quiet ((go_at_call 30; exact Calls.quiet_of (HCC.out _)))
                        have HS2 := Lib.hid (HSJ.out.drewN nq)
                        clear g1 g2 HCC HSJ
                        generalize wr.drewN nq = w2 at HS2 ⊢
                        have HFU : Hid (Go.Sort.fixUp (ltOf cf) b p (Go.Sort.swp dk p pm) = dj) := by
                          show _ = _
                          unfold Go.Sort.fixUp
                          rw [if_pos (show b - p ≥ 2 by omega), ← HJ.out, shiftUp_stop (ltOf cf) b j dj (Or.inr (by rw [← Hjm.out]; exact HL.out))]
                        go_wp2_with fail
                        go_roundw
                        case rel => exact ⟨p, s + 1, dj, rfl, by go_num, by omega, by omega, by omega, hsj, HS2.out, by rw [← HO.out, pi_go (ltOf cf) a b s i p dk hs5 HK.out (by omega) (by omega), ← Hpm.out, HFD.out, HFU.out]⟩
                        case measure => (simp [intOf] <;> omega)
                    · have e3 : decide ((j : Int) < (b : Int)) = false := decide_eq_false (by omega)
                      have HFU : Hid (Go.Sort.fixUp (ltOf cf) b p (Go.Sort.swp dk p pm) = dj) := by
                        show _ = _
                        unfold Go.Sort.fixUp
                        rw [if_pos (show b - p ≥ 2 by omega), ← HJ.out, shiftUp_stop (ltOf cf) b j dj (Or.inl hjb)]
                      go_wp2_with fail
                      go_roundw
                      case rel => exact ⟨p, s + 1, dj, rfl, by go_num, by omega, by omega, by omega, hsj, HSJ.out, by rw [← HO.out, pi_go (ltOf cf) a b s i p dk hs5 HK.out (by omega) (by omega), ← Hpm.out, HFD.out, HFU.out]⟩
                      case measure => (simp [intOf] <;> omega)
                · have e2 : decide ((2 : Int) ≤ (m : Int)) = false := decide_eq_false (by omega)
                  have HFU : Hid (Go.Sort.fixUp (ltOf cf) b p (Go.Sort.swp dk p pm) = Go.Sort.swp dk p pm) := by
                    show _ = _
                    unfold Go.Sort.fixUp
                    rw [if_neg (show ¬ b - p ≥ 2 by omega)]
                  go_wp2_with fail
                  go_roundw
                  case rel => exact ⟨p, s + 1, Go.Sort.swp dk p pm, rfl, by go_num, by omega, by omega, by omega, hX1, HS3.out, by rw [← HO.out, pi_go (ltOf cf) a b s i p dk hs5 HK.out (by omega) (by omega), ← Hpm.out, HFD.out, HFU.out]⟩
                  case measure => (simp [intOf] <;> omega)
          | false =>
            have d3 := lt_false hl
            rw [Vx1.out, Vx2.out] at hl
            have HL := Lib.hid hl
            clear hl
            generalize cf x1 x2 = c at *
            go_wp2_with fail
            go_quiet ((go_at_call 30; exact Calls.quiet_of (HCC.out _)))
            have HS2 := Lib.hid (HSP.out.drewN nq)
            clear g1 g2 HCC HSP
            generalize wr.drewN nq = w2 at HS2 ⊢
            go_wp2_with fail
            go_roundw
            case rel => exact ⟨p + 1, by go_num, by omega, by omega, HS2.out, by rw [← HP.out, scanSorted_go (ltOf cf) dk b p hpb (by rw [← Hpm.out]; exact HL.out)]⟩
            case measure => (simp [intOf] <;> omega)
        · have d2 : decide ((p : Int) < (b : Int)) = false := decide_eq_false (by omega)
          obtain rfl : p = b := by omega
          have HT : Hid (T = (dk, true)) := by
            show _ = _
            rw [← HO.out, pi_true (ltOf cf) a p s i dk hs5 (by rw [← HP.out, scanSorted_stop (ltOf cf) dk p p (Or.inl hpb)])]
          go_wp2_with fail
          go_quiet (fail)
          have HS2 := Lib.hid (HSP.out.drewN nq)
          generalize wr.drewN nq = w2 at HS2 ⊢
          go_wp2_with fail
          go_ret
          rw [HT.out]
          exact ⟨rfl, HS2.out⟩
    · have d1 : decide ((s : Int) < 5) = false := decide_eq_false (by omega)
      obtain rfl : s = 5 := by omega
      have HT : Hid (T = (dk, false)) := by
        show _ = _
        rw [← HO.out, pi_end]
      go_wp2_with fail
      go_ret
      rw [HT.out]
      exact ⟨rfl, HS1.out⟩

end Go.Proofs.Ytglcideecelemaa
