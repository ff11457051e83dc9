/- The sort, by a method value: partitionEqual, as the plain text has it. (pq.py wrote this.) -/
import Derived.Test.YtglcideecelemaaPp
namespace Go.Proofs.Ytglcideecelemaa
open Go.RowKit

set_option maxHeartbeats 16000000 in
set_option maxRecDepth 100000 in
theorem equal_any (k : Nat) (r : Value) (cf : Fin (k + 1) → Fin (k + 1) → Int) (blk off cap a b pv : Nat) (d0 d : Array (Fin (k + 1))) (w0 w : World)
    (C : CmpMv r cf blk off d0.size w0) (R : Row1 encF w0 blk off d0) (hs : d0.size = d.size) (S : SW encF w0 blk off d w) (hab : a + 12 < b) (hb : b ≤ d.size) (_ : a ≤ pv) (hp2 : pv < b) (hsz : d.size ≤ 1000000000) :
    Calls Try.prog 45 #[.slice (some ⟨blk, off, none⟩) d.size cap, .int .i64 a, .int .i64 b, .int .i64 pv, .func (.func 30) #[r] #[]] w fun e w' => e = .returned (.int .i64 (Go.Sort.partitionEqual (ltOf cf) d a b pv).1) ∧ SW encF w0 blk off (Go.Sort.partitionEqual (ltOf cf) d a b pv).2 w' := by
  have HC := Lib.hid C
  have HR := Lib.hid R
  have HS := Lib.hid S
  clear C R S
  obtain ⟨bm, hbm⟩ : ∃ x, x = b - 1 := ⟨_, rfl⟩
  have zb : (b : Int) - 1 = (bm : Int) := by omega
  have hb1 : bm + 1 ≤ b := by omega
  have hb2 : b ≤ bm + 1 := by omega
  obtain ⟨T, hT⟩ : ∃ T, T = Go.Sort.partitionEqual (ltOf cf) d a b pv := ⟨_, rfl⟩
  rw [← hT]
  unfold Go.Sort.partitionEqual at hT
  rw [← hbm] at hT
  have HTT := Lib.hid hT.symm
  clear hT hbm
  have hma0 : a < d.size := by omega
  have hmp0 : pv < d.size := by omega
  have hkd : d.size = d0.size := by omega
  clear hs
  go_enter Try.func45, Try.ntmps45
  go_wp2_with fail
  obtain ⟨x1, vx1⟩ : ∃ x, x = d[a]! := ⟨_, rfl⟩
  obtain ⟨x2, vx2⟩ : ∃ x, x = d[pv]! := ⟨_, rfl⟩
  have g1 := sw_cell HS.out HR.out hkd a hma0
  have g2 := sw_cell HS.out HR.out hkd pv hmp0
  have f1 := sw_frozen HS.out HR.out hkd a hma0
  have f2 := sw_frozen HS.out HR.out hkd pv hmp0
  obtain ⟨u, g3⟩ := sw_then HS.out HR.out hkd a pv hma0 hmp0 x2.val
  have HS3 := Lib.hid (sw_swap HS.out HR.out a pv hma0 hmp0)
  rw [← vx1] at g1
  rw [← vx2] at g2
  rw [← vx1, ← vx2] at HS3
  clear HS vx1 vx2
  go_wp2_with fail
  go_region
  clear g1 g2 g3 f1 f2
  generalize ((w.setCell ⟨blk, off + a, none⟩ (.int .i64 (x2.val : Nat))).setCell ⟨blk, off + pv, none⟩ (.int .i64 (x1.val : Nat))).drew = w3 at HS3 ⊢
  have hsk0 : (Go.Sort.swp d a pv).size = d.size := by rw [Go.Sort.size_swp]
  go_wp2_with fail
  go_loopw [11, 12] (fun x y wr => ∃ (i j : Nat) (dk : Array (Fin (k + 1))), x = .int .i64 i ∧ y = .int .i64 j ∧ a < i ∧ i ≤ j + 1 ∧ j < b ∧ dk.size = d.size ∧ SW encF w0 blk off dk wr ∧ Go.Sort.partEqLoop (ltOf cf) a i j dk = T) (fun x y _ => (intOf y + 1 - intOf x).toNat)
  case atStart => exact ⟨a + 1, bm, Go.Sort.swp d a pv, by go_num, rfl, by omega, by omega, by omega, hsk0, HS3.out, HTT.out⟩
  case round =>
    clear HS3 HTT
    obtain ⟨i0, j0, dm, rfl, rfl, hi0, hij0, hj0, hsm, SM, HL1⟩ := hrel
    have HSM := Lib.hid SM
    have HL2 := Lib.hid HL1
    clear SM HL1
    have hkm : dm.size = d0.size := by omega
    have hma : a < dm.size := by omega
    go_wp2_with fail
    go_loopw [11] (fun x wr => ∃ (i : Nat), x = .int .i64 i ∧ i0 ≤ i ∧ i ≤ j0 + 1 ∧ SW encF w0 blk off dm wr ∧ Go.Sort.scanUp (fun x => !ltOf cf dm[a]! x) dm j0 i = Go.Sort.scanUp (fun x => !ltOf cf dm[a]! x) dm j0 (i0)) (fun x _ => j0 + 1 - (intOf x).toNat)
    case atStart => exact ⟨i0, by go_num, Nat.le_refl _, by omega, HSM.out, rfl⟩
    case round =>
      clear HSM
      obtain ⟨i, rfl, hi1, hi2, SI, HI0⟩ := hrel
      have HSI := Lib.hid SI
      have HI := Lib.hid HI0
      clear SI HI0
      by_cases hij : i ≤ j0
      · have d2 : decide ((i : Int) ≤ (j0 : Int)) = true := decide_eq_true (by omega)
        have hmi : i < dm.size := by omega
        have hni : i < d.size := by omega
        obtain ⟨x1, vx1⟩ : ∃ x, x = dm[a]! := ⟨_, rfl⟩
        obtain ⟨x2, vx2⟩ : ∃ x, x = dm[i]! := ⟨_, rfl⟩
        have Vx1 := Lib.hid vx1
        have Vx2 := Lib.hid vx2
        clear vx1 vx2
        have g1 := sw_cell HSI.out HR.out hkm a hma
        have g2 := sw_cell HSI.out HR.out hkm i hmi
        rw [← Vx1.out] at g1
        rw [← Vx2.out] at g2
        have HCC := Lib.hid fun m => cmp_at HC.out HSI.out hkm x1 x2 m
        cases hl : ltOf cf x1 x2 with
        | true =>
          have d3 := lt_true hl
          rw [Vx1.out, Vx2.out] at hl
          have HL := Lib.hid hl
          clear hl
          generalize cf x1 x2 = c at *
          go_wp2_with fail
          go_quiet ((go_at_call 30; exact Calls.quiet_of (HCC.out _)))
          have HS2 := Lib.hid (HSI.out.drewN nq)
          clear g1 g2 HCC HSI
          generalize wr.drewN nq = w2 at HS2 ⊢
          have HI2 : Hid (i = Go.Sort.scanUp (fun x => !ltOf cf dm[a]! x) dm j0 (i0)) := by
            show _ = _
            rw [← HI.out, scanUp_end (fun x => !ltOf cf dm[a]! x) dm j0 i (Or.inr (by rw [HL.out]; rfl))]
          clear HL Vx1 Vx2 d3 HI
          go_wp2_with fail
          go_loopw [12] (fun y wr => ∃ (j : Nat), y = .int .i64 j ∧ j ≤ j0 ∧ a ≤ j ∧ SW encF w0 blk off dm wr ∧ Go.Sort.scanDown (fun x => ltOf cf dm[a]! x) dm i j = Go.Sort.scanDown (fun x => ltOf cf dm[a]! x) dm i j0) (fun y _ => (intOf y).toNat)
          case atStart => exact ⟨j0, rfl, Nat.le_refl _, by omega, HS2.out, rfl⟩
          case round =>
            clear HS2
            obtain ⟨j, rfl, hj1, hj2, SJ, HJ0⟩ := hrel
            have HSJ := Lib.hid SJ
            have HJ := Lib.hid HJ0
            clear SJ HJ0
            by_cases hij2 : i ≤ j
            · have d4 : decide ((i : Int) ≤ (j : Int)) = true := decide_eq_true (by omega)
              obtain ⟨jm, hjm⟩ : ∃ x, x = j - 1 := ⟨_, rfl⟩
              have Hjm := Lib.hid hjm
              have zj : (j : Int) - 1 = (jm : Int) := by omega
              have hjl : jm + 1 ≤ j := by omega
              have hjl2 : j ≤ jm + 1 := by omega
              have hmj : j < dm.size := by omega
              have hnj : j < d.size := by omega
              clear hjm
              obtain ⟨x1, vx1⟩ : ∃ x, x = dm[a]! := ⟨_, rfl⟩
              obtain ⟨x2, vx2⟩ : ∃ x, x = dm[j]! := ⟨_, rfl⟩
              have Vx1 := Lib.hid vx1
              have Vx2 := Lib.hid vx2
              clear vx1 vx2
              have g1 := sw_cell HSJ.out HR.out hkm a hma
              have g2 := sw_cell HSJ.out HR.out hkm j hmj
              rw [← Vx1.out] at g1
              rw [← Vx2.out] at g2
              have HCC := Lib.hid fun m => cmp_at HC.out HSJ.out hkm x1 x2 m
              cases hl : ltOf cf x1 x2 with
              | true =>
                have d3 := lt_true hl
                rw [Vx1.out, Vx2.out] at hl
                have HL := Lib.hid hl
                clear hl
                generalize cf x1 x2 = c at *
                go_wp2_with fail
                go_quiet ((go_at_call 30; exact Calls.quiet_of (HCC.out _)))
                have HS2 := Lib.hid (HSJ.out.drewN nq)
                clear g1 g2 HCC HSJ
                generalize wr.drewN nq = w2 at HS2 ⊢
                go_wp2_with fail
                go_roundw
                case rel => exact ⟨jm, rfl, by omega, by omega, HS2.out, by rw [← HJ.out, Hjm.out, ← scanDown_go (fun x => ltOf cf dm[a]! x) dm i j hij2 (by omega) HL.out]⟩
                case measure => (simp [intOf] <;> omega)
              | false =>
                have d3 := lt_false hl
                rw [Vx1.out, Vx2.out] at hl
                have HL := Lib.hid hl
                clear hl
                generalize cf x1 x2 = c at *
                go_wp2_with fail
                go_quiet ((go_at_call 30; exact Calls.quiet_of (HCC.out _)))
                have HS2 := Lib.hid (HSJ.out.drewN nq)
                clear g1 g2 HCC HSJ
                generalize wr.drewN nq = w2 at HS2 ⊢
                have HJ2 : Hid (j = Go.Sort.scanDown (fun x => ltOf cf dm[a]! x) dm i j0) := by
                  show _ = _
                  rw [← HJ.out, scanDown_end (fun x => ltOf cf dm[a]! x) dm i j (Or.inr HL.out)]
                clear HL Vx1 Vx2 d3 HJ
                have hlt := scans_lt (ltOf cf) a i0 j0 dm (by omega) HI2.out HJ2.out hij2
                have e1 : decide ((j : Int) < (i : Int)) = false := decide_eq_false (by omega)
                have hjI : ¬ j < i := by omega
                have HG := Lib.hid ((partEq_go (ltOf cf) a i0 j0 dm HI2.out HJ2.out hjI).symm.trans HL2.out)
                rw [← Hjm.out] at HG
                clear HI2 HJ2
                go_wp2_with fail
                obtain ⟨x1, vx1⟩ : ∃ x, x = dm[i]! := ⟨_, rfl⟩
                obtain ⟨x2, vx2⟩ : ∃ x, x = dm[j]! := ⟨_, rfl⟩
                have g1 := sw_cell HS2.out HR.out hkm i hmi
                have g2 := sw_cell HS2.out HR.out hkm j hmj
                have f1 := sw_frozen HS2.out HR.out hkm i hmi
                have f2 := sw_frozen HS2.out HR.out hkm j hmj
                obtain ⟨u, g3⟩ := sw_then HS2.out HR.out hkm i j hmi hmj x2.val
                have HS3 := Lib.hid (sw_swap HS2.out HR.out i j hmi hmj)
                rw [← vx1] at g1
                rw [← vx2] at g2
                rw [← vx1, ← vx2] at HS3
                clear HS2 vx1 vx2
                go_wp2_with fail
                go_region
                clear g1 g2 g3 f1 f2
                generalize ((w2.setCell ⟨blk, off + i, none⟩ (.int .i64 (x2.val : Nat))).setCell ⟨blk, off + j, none⟩ (.int .i64 (x1.val : Nat))).drew = w3 at HS3 ⊢
                go_wp2_with fail
                go_roundw
                case rel => exact ⟨i + 1, jm, Go.Sort.swp dm i j, by go_num, rfl, by omega, by omega, by omega, by rw [Go.Sort.size_swp]; exact hsm, HS3.out, HG.out⟩
                case measure => (simp [intOf] <;> omega)
            · have d4 : decide ((i : Int) ≤ (j : Int)) = false := decide_eq_false (by omega)
              have HJ2 : Hid (j = Go.Sort.scanDown (fun x => ltOf cf dm[a]! x) dm i j0) := by
                show _ = _
                rw [← HJ.out, scanDown_end (fun x => ltOf cf dm[a]! x) dm i j (Or.inl hij2)]
              clear HJ
              go_wp2_with fail
              go_quiet (fail)
              have HS2 := Lib.hid (HSJ.out.drewN nq)
              clear HSJ
              generalize wr.drewN nq = w2 at HS2 ⊢
              have e1 : decide ((j : Int) < (i : Int)) = true := decide_eq_true (by omega)
              have hjI : j < i := by omega
              have HT2 : Hid (T = (i, dm)) := by
                show _ = _
                rw [← HL2.out, partEq_break (ltOf cf) a i0 j0 dm HI2.out HJ2.out hjI]
              go_wp2_with fail
              go_ret
              rw [HT2.out]
              exact ⟨rfl, HS2.out⟩
        | false =>
          have d3 := lt_false hl
          rw [Vx1.out, Vx2.out] at hl
          have HL := Lib.hid hl
          clear hl
          generalize cf x1 x2 = c at *
          go_wp2_with fail
          go_quiet ((go_at_call 30; exact Calls.quiet_of (HCC.out _)))
          have HS2 := Lib.hid (HSI.out.drewN nq)
          clear g1 g2 HCC HSI
          generalize wr.drewN nq = w2 at HS2 ⊢
          go_wp2_with fail
          go_roundw
          case rel => exact ⟨i + 1, by go_num, by omega, by omega, HS2.out, by rw [← HI.out, scanUp_go (fun x => !ltOf cf dm[a]! x) dm j0 i hij (by rw [HL.out]; rfl)]⟩
          case measure => (simp [intOf] <;> omega)
      · have d2 : decide ((i : Int) ≤ (j0 : Int)) = false := decide_eq_false (by omega)
        have HI2 : Hid (i = Go.Sort.scanUp (fun x => !ltOf cf dm[a]! x) dm j0 (i0)) := by
          show _ = _
          rw [← HI.out, scanUp_end (fun x => !ltOf cf dm[a]! x) dm j0 i (Or.inl hij)]
        clear HI
        go_wp2_with fail
        go_quiet (fail)
        have HS2 := Lib.hid (HSI.out.drewN nq)
        clear HSI
        generalize wr.drewN nq = w2 at HS2 ⊢
        go_wp2_with fail
        go_loopw [12] (fun y wr => ∃ (j : Nat), y = .int .i64 j ∧ j ≤ j0 ∧ a ≤ j ∧ SW encF w0 blk off dm wr ∧ Go.Sort.scanDown (fun x => ltOf cf dm[a]! x) dm i j = Go.Sort.scanDown (fun x => ltOf cf dm[a]! x) dm i j0) (fun y _ => (intOf y).toNat)
        case atStart => exact ⟨j0, rfl, Nat.le_refl _, by omega, HS2.out, rfl⟩
        case round =>
          clear HS2
          obtain ⟨j, rfl, hj1, hj2, SJ, HJ0⟩ := hrel
          have HSJ := Lib.hid SJ
          have HJ := Lib.hid HJ0
          clear SJ HJ0
          by_cases hij2 : i ≤ j
          · have d4 : decide ((i : Int) ≤ (j : Int)) = true := decide_eq_true (by omega)
            obtain ⟨jm, hjm⟩ : ∃ x, x = j - 1 := ⟨_, rfl⟩
            have Hjm := Lib.hid hjm
            have zj : (j : Int) - 1 = (jm : Int) := by omega
            have hjl : jm + 1 ≤ j := by omega
            have hjl2 : j ≤ jm + 1 := by omega
            have hmj : j < dm.size := by omega
            have hnj : j < d.size := by omega
            clear hjm
            obtain ⟨x1, vx1⟩ : ∃ x, x = dm[a]! := ⟨_, rfl⟩
            obtain ⟨x2, vx2⟩ : ∃ x, x = dm[j]! := ⟨_, rfl⟩
            have Vx1 := Lib.hid vx1
            have Vx2 := Lib.hid vx2
            clear vx1 vx2
            have g1 := sw_cell HSJ.out HR.out hkm a hma
            have g2 := sw_cell HSJ.out HR.out hkm j hmj
            rw [← Vx1.out] at g1
            rw [← Vx2.out] at g2
            have HCC := Lib.hid fun m => cmp_at HC.out HSJ.out hkm x1 x2 m
            cases hl : ltOf cf x1 x2 with
            | true =>
              have d3 := lt_true hl
              rw [Vx1.out, Vx2.out] at hl
              have HL := Lib.hid hl
              clear hl
              generalize cf x1 x2 = c at *
              go_wp2_with fail
              go_quiet ((go_at_call 30; exact Calls.quiet_of (HCC.out _)))
              have HS2 := Lib.hid (HSJ.out.drewN nq)
              clear g1 g2 HCC HSJ
              generalize wr.drewN nq = w2 at HS2 ⊢
              go_wp2_with fail
              go_roundw
              case rel => exact ⟨jm, rfl, by omega, by omega, HS2.out, by rw [← HJ.out, Hjm.out, ← scanDown_go (fun x => ltOf cf dm[a]! x) dm i j hij2 (by omega) HL.out]⟩
              case measure => (simp [intOf] <;> omega)
            | false =>
              have d3 := lt_false hl
              rw [Vx1.out, Vx2.out] at hl
              have HL := Lib.hid hl
              clear hl
              generalize cf x1 x2 = c at *
              go_wp2_with fail
              go_quiet ((go_at_call 30; exact Calls.quiet_of (HCC.out _)))
              have HS2 := Lib.hid (HSJ.out.drewN nq)
              clear g1 g2 HCC HSJ
              generalize wr.drewN nq = w2 at HS2 ⊢
              have HJ2 : Hid (j = Go.Sort.scanDown (fun x => ltOf cf dm[a]! x) dm i j0) := by
                show _ = _
                rw [← HJ.out, scanDown_end (fun x => ltOf cf dm[a]! x) dm i j (Or.inr HL.out)]
              clear HL Vx1 Vx2 d3 HJ
              exact absurd hij2 (by omega)
          · have d4 : decide ((i : Int) ≤ (j : Int)) = false := decide_eq_false (by omega)
            have HJ2 : Hid (j = Go.Sort.scanDown (fun x => ltOf cf dm[a]! x) dm i j0) := by
              show _ = _
              rw [← HJ.out, scanDown_end (fun x => ltOf cf dm[a]! x) dm i j (Or.inl hij2)]
            clear HJ
            go_wp2_with fail
            go_quiet (fail)
            have HS2 := Lib.hid (HSJ.out.drewN nq)
            clear HSJ
            generalize wr.drewN nq = w2 at HS2 ⊢
            have e1 : decide ((j : Int) < (i : Int)) = true := decide_eq_true (by omega)
            have hjI : j < i := by omega
            have HT2 : Hid (T = (i, dm)) := by
              show _ = _
              rw [← HL2.out, partEq_break (ltOf cf) a i0 j0 dm HI2.out HJ2.out hjI]
            go_wp2_with fail
            go_ret
            rw [HT2.out]
            exact ⟨rfl, HS2.out⟩

end Go.Proofs.Ytglcideecelemaa
