/- The sort, by a method value: sifting down, the heap. -/
import Derived.Test.YtglcideecelemaaPa
import Derived.Sort.WalkB2
import Derived.Sort.LotB
namespace Go.Proofs.Ytglcideecelemaa
open Go.RowKit

set_option maxHeartbeats 4000000 in
set_option maxRecDepth 100000 in
theorem sift_any (k : Nat) (r : Value) (cf : Fin (k + 1) → Fin (k + 1) → Int) (blk off cap lo hi first : Nat) (d0 d : Array (Fin (k + 1))) (w0 w : World)
    (C : CmpMv r cf blk off d0.size w0) (R : Row1 encF w0 blk off d0) (hs : d0.size = d.size) (S : SW encF w0 blk off d w) (hlo : lo ≤ hi) (hb : first + hi ≤ d.size) (hsz : d.size ≤ 1000000000) :
    Calls Try.prog 50 #[.slice (some ⟨blk, off, none⟩) d.size cap, .int .i64 lo, .int .i64 hi, .int .i64 first, .func (.func 30) #[r] #[]] w fun e w' => e = .returned (.tuple #[]) ∧ SW encF w0 blk off (Go.Sort.siftDown (ltOf cf) hi first lo d) w' := by
  have HC := Lib.hid C
  have HR := Lib.hid R
  have HS := Lib.hid S
  clear C R S
  go_enter Try.func50, Try.ntmps50
  go_wp2_with fail
  go_loopw [10] (fun x wr => ∃ (root : Nat) (dk : Array (Fin (k + 1))), x = .int .i64 root ∧ root ≤ hi ∧ dk.size = d.size ∧ SW encF w0 blk off dk wr ∧ Go.Sort.siftDown (ltOf cf) hi first root dk = Go.Sort.siftDown (ltOf cf) hi first lo d) (fun x _ => hi - (intOf x).toNat)
  case atStart => exact ⟨lo, d, rfl, hlo, rfl, HS.out, rfl⟩
  case round =>
    obtain ⟨root, dk, rfl, hrh, hsk, S1, HE0⟩ := hrel
    have HE := Lib.hid HE0
    clear HE0
    have hk0 : dk.size = d0.size := by omega
    obtain ⟨ch, hch⟩ : ∃ ch, ch = 2 * root + 1 := ⟨_, rfl⟩
    have z1 : 2 * (root : Int) + 1 = (ch : Int) := by omega
    have hc1 : ch ≤ 2 * root + 1 := by omega
    have hc2 : 2 * root + 1 ≤ ch := by omega
    by_cases hend : hi ≤ ch
    · have d1 : decide ((hi : Int) ≤ (ch : Int)) = true := decide_eq_true (by omega)
      have HX : Hid (Go.Sort.siftDown (ltOf cf) hi first lo d = dk) := by
        show _ = _
        rw [← HE.out, Go.Sort.sd_end]
        omega
      have HS1 := Lib.hid S1
      clear S1 hch
      go_wp2_with fail
      go_end0
      exact ⟨rfl, by rw [HX.out]; exact HS1.out⟩
    · have d1 : decide ((hi : Int) ≤ (ch : Int)) = false := decide_eq_false (by omega)
      obtain ⟨cr, hcr⟩ : ∃ cr, cr = ch + 1 := ⟨_, rfl⟩
      have z2 : (ch : Int) + 1 = (cr : Int) := by omega
      have hr1 : cr ≤ ch + 1 := by omega
      have hr2 : ch + 1 ≤ cr := by omega
      obtain ⟨pm, hpm⟩ : ∃ p, p = first + root := ⟨_, rfl⟩
      obtain ⟨pc, hpc⟩ : ∃ p, p = first + ch := ⟨_, rfl⟩
      obtain ⟨pr, hpr⟩ : ∃ p, p = first + cr := ⟨_, rfl⟩
      have zm : (first : Int) + (root : Int) = (pm : Int) := by omega
      have zc : (first : Int) + (ch : Int) = (pc : Int) := by omega
      have zr : (pc : Int) + 1 = (pr : Int) := by omega
      have zs : (first : Int) + (cr : Int) = (pr : Int) := by omega
      have hnm : pm < d.size := by omega
      have hmm : pm < dk.size := by omega
      have hnc : pc < d.size := by omega
      have hmpc : pc < dk.size := by omega
      have HX0 := Lib.hid (show first + root = pm by omega)
      have HX1 := Lib.hid (show first + (2 * root + 1) = pc by omega)
      have HX2 := Lib.hid (show first + (2 * root + 2) = pr by omega)
      have HX3 := Lib.hid (show 2 * root + 2 = cr by omega)
      have HX4 := Lib.hid (show 2 * root + 1 = ch by omega)
      by_cases hright : cr < hi
      · have d2 : decide ((cr : Int) < (hi : Int)) = true := decide_eq_true (by omega)
        have hnd : pr < d.size := by omega
        have hmpr : pr < dk.size := by omega
        clear hch hcr hpm hpc hpr
        obtain ⟨x1, vx1⟩ : ∃ x, x = dk[pc]! := ⟨_, rfl⟩
        have Vx1 := Lib.hid vx1
        clear vx1
        obtain ⟨x2, vx2⟩ : ∃ x, x = dk[pr]! := ⟨_, rfl⟩
        have Vx2 := Lib.hid vx2
        clear vx2
        have j1 := sw_cell S1 HR.out hk0 (pc) hmpc
        rw [← Vx1.out] at j1
        have j2 := sw_cell S1 HR.out hk0 (pr) hmpr
        rw [← Vx2.out] at j2
        have HC1 := Lib.hid fun m => cmp_at HC.out S1 hk0 x1 x2 m
        have HS1 := Lib.hid S1
        clear S1
        cases hl : ltOf cf x1 x2 with
        | true =>
          have d3 := lt_true hl
          rw [Vx1.out, Vx2.out] at hl
          have HL := Lib.hid hl
          clear hl
          generalize cf x1 x2 = c at *
          go_wp2_with fail
          go_quiet ((go_at_call 30; exact Calls.quiet_of (HC1.out _)))
          have S2 := HS1.out.drewN nq
          generalize wr.drewN nq = w2 at S2 ⊢
          clear j1 j2 d3
          obtain ⟨y1, vy1⟩ : ∃ x, x = dk[pm]! := ⟨_, rfl⟩
          have Vy1 := Lib.hid vy1
          clear vy1
          obtain ⟨y2, vy2⟩ : ∃ x, x = dk[pr]! := ⟨_, rfl⟩
          have Vy2 := Lib.hid vy2
          clear vy2
          have k1 := sw_cell S2 HR.out hk0 (pm) hmm
          rw [← Vy1.out] at k1
          have k2 := sw_cell S2 HR.out hk0 (pr) hmpr
          rw [← Vy2.out] at k2
          have HC2 := Lib.hid fun m => cmp_at HC.out S2 hk0 y1 y2 m
          have HS2 := Lib.hid S2
          clear S2
          cases hl2 : ltOf cf y1 y2 with
          | true =>
            have d4 := lt_true hl2
            have HGO : Hid (Go.Sort.siftDown (ltOf cf) hi first cr (Go.Sort.swp dk pm pr) = Go.Sort.siftDown (ltOf cf) hi first lo d) := by
              show _ = _
              rw [← HE.out]
              refine Eq.symm ?_
              rw [Vy1.out, Vy2.out] at hl2
              rw [Go.Sort.sd_right_go (ltOf cf) dk (by rw [HX3.out]; exact hright) (by rw [HX1.out, HX2.out]; exact HL.out) (by rw [HX0.out, HX2.out]; exact hl2), HX0.out, HX2.out, HX3.out]
            clear hl2
            generalize cf y1 y2 = c2 at *
            go_wp2_with fail
            go_quiet ((go_at_call 30; exact Calls.quiet_of (HC2.out _)))
            have S3 := HS2.out.drewN nq
            generalize w2.drewN nq = w3 at S3 ⊢
            have g1 := sw_cell S3 HR.out hk0 (pm) hmm
            rw [← Vy1.out] at g1
            have g2 := sw_cell S3 HR.out hk0 (pr) hmpr
            rw [← Vy2.out] at g2
            have f1 := sw_frozen S3 HR.out hk0 (pm) hmm
            have f2 := sw_frozen S3 HR.out hk0 (pr) hmpr
            obtain ⟨u, g3⟩ := sw_then S3 HR.out hk0 (pm) (pr) hmm hmpr (y2).val
            have HS3 := Lib.hid (sw_swap S3 HR.out (pm) (pr) hmm hmpr)
            rw [← Vy1.out, ← Vy2.out] at HS3
            clear S3 k1 k2
            go_wp2_with fail
            go_region
            go_wp2_with fail
            go_roundw
            case rel => exact ⟨cr, Go.Sort.swp dk pm pr, rfl, by omega, by rw [Go.Sort.size_swp]; exact hsk, HS3.out, HGO.out⟩
            case measure => simp [intOf]; omega
          | false =>
            have d4 := lt_false hl2
            have HST : Hid (Go.Sort.siftDown (ltOf cf) hi first lo d = dk) := by
              show _ = _
              rw [← HE.out]
              rw [Vy1.out, Vy2.out] at hl2
              rw [Go.Sort.sd_right_stop (ltOf cf) dk (by rw [HX3.out]; exact hright) (by rw [HX1.out, HX2.out]; exact HL.out) (by rw [HX0.out, HX2.out]; exact hl2)]
            clear hl2
            generalize cf y1 y2 = c2 at *
            go_wp2_with fail
            go_quiet ((go_at_call 30; exact Calls.quiet_of (HC2.out _)))
            go_wp2_with fail
            (try simp only [Exit.inBlock, Exit.then])
            refine bodyPost_ret (results_none rfl _ _ _) rfl ?_
            exact ⟨rfl, by rw [HST.out]; exact HS2.out.drewN nq⟩
        | false =>
          have d3 := lt_false hl
          rw [Vx1.out, Vx2.out] at hl
          have HL := Lib.hid hl
          clear hl
          generalize cf x1 x2 = c at *
          go_wp2_with fail
          go_quiet ((go_at_call 30; exact Calls.quiet_of (HC1.out _)))
          have S2 := HS1.out.drewN nq
          generalize wr.drewN nq = w2 at S2 ⊢
          clear j1 j2 d3
          obtain ⟨y1, vy1⟩ : ∃ x, x = dk[pm]! := ⟨_, rfl⟩
          have Vy1 := Lib.hid vy1
          clear vy1
          obtain ⟨y2, vy2⟩ : ∃ x, x = dk[pc]! := ⟨_, rfl⟩
          have Vy2 := Lib.hid vy2
          clear vy2
          have k1 := sw_cell S2 HR.out hk0 (pm) hmm
          rw [← Vy1.out] at k1
          have k2 := sw_cell S2 HR.out hk0 (pc) hmpc
          rw [← Vy2.out] at k2
          have HC2 := Lib.hid fun m => cmp_at HC.out S2 hk0 y1 y2 m
          have HS2 := Lib.hid S2
          clear S2
          cases hl2 : ltOf cf y1 y2 with
          | true =>
            have d4 := lt_true hl2
            have HGO : Hid (Go.Sort.siftDown (ltOf cf) hi first ch (Go.Sort.swp dk pm pc) = Go.Sort.siftDown (ltOf cf) hi first lo d) := by
              show _ = _
              rw [← HE.out]
              refine Eq.symm ?_
              rw [Vy1.out, Vy2.out] at hl2
              rw [Go.Sort.sd_left_go (ltOf cf) dk (by rw [HX4.out]; omega) (fun _ => by rw [HX1.out, HX2.out]; exact HL.out) (by rw [HX0.out, HX1.out]; exact hl2), HX0.out, HX1.out, HX4.out]
            clear hl2
            generalize cf y1 y2 = c2 at *
            go_wp2_with fail
            go_quiet ((go_at_call 30; exact Calls.quiet_of (HC2.out _)))
            have S3 := HS2.out.drewN nq
            generalize w2.drewN nq = w3 at S3 ⊢
            have g1 := sw_cell S3 HR.out hk0 (pm) hmm
            rw [← Vy1.out] at g1
            have g2 := sw_cell S3 HR.out hk0 (pc) hmpc
            rw [← Vy2.out] at g2
            have f1 := sw_frozen S3 HR.out hk0 (pm) hmm
            have f2 := sw_frozen S3 HR.out hk0 (pc) hmpc
            obtain ⟨u, g3⟩ := sw_then S3 HR.out hk0 (pm) (pc) hmm hmpc (y2).val
            have HS3 := Lib.hid (sw_swap S3 HR.out (pm) (pc) hmm hmpc)
            rw [← Vy1.out, ← Vy2.out] at HS3
            clear S3 k1 k2
            go_wp2_with fail
            go_region
            go_wp2_with fail
            go_roundw
            case rel => exact ⟨ch, Go.Sort.swp dk pm pc, rfl, by omega, by rw [Go.Sort.size_swp]; exact hsk, HS3.out, HGO.out⟩
            case measure => simp [intOf]; omega
          | false =>
            have d4 := lt_false hl2
            have HST : Hid (Go.Sort.siftDown (ltOf cf) hi first lo d = dk) := by
              show _ = _
              rw [← HE.out]
              rw [Vy1.out, Vy2.out] at hl2
              rw [Go.Sort.sd_left_stop (ltOf cf) dk (by rw [HX4.out]; omega) (fun _ => by rw [HX1.out, HX2.out]; exact HL.out) (by rw [HX0.out, HX1.out]; exact hl2)]
            clear hl2
            generalize cf y1 y2 = c2 at *
            go_wp2_with fail
            go_quiet ((go_at_call 30; exact Calls.quiet_of (HC2.out _)))
            go_wp2_with fail
            (try simp only [Exit.inBlock, Exit.then])
            refine bodyPost_ret (results_none rfl _ _ _) rfl ?_
            exact ⟨rfl, by rw [HST.out]; exact HS2.out.drewN nq⟩
      · have d2 : decide ((cr : Int) < (hi : Int)) = false := decide_eq_false (by omega)
        clear hch hcr hpm hpc hpr
        have HS1 := Lib.hid S1
        clear S1
        go_wp2_with fail
        go_quiet (fail)
        have S2 := HS1.out.drewN nq
        generalize wr.drewN nq = w2 at S2 ⊢
        obtain ⟨y1, vy1⟩ : ∃ x, x = dk[pm]! := ⟨_, rfl⟩
        have Vy1 := Lib.hid vy1
        clear vy1
        obtain ⟨y2, vy2⟩ : ∃ x, x = dk[pc]! := ⟨_, rfl⟩
        have Vy2 := Lib.hid vy2
        clear vy2
        have k1 := sw_cell S2 HR.out hk0 (pm) hmm
        rw [← Vy1.out] at k1
        have k2 := sw_cell S2 HR.out hk0 (pc) hmpc
        rw [← Vy2.out] at k2
        have HC2 := Lib.hid fun m => cmp_at HC.out S2 hk0 y1 y2 m
        have HS2 := Lib.hid S2
        clear S2
        cases hl2 : ltOf cf y1 y2 with
        | true =>
          have d4 := lt_true hl2
          have HGO : Hid (Go.Sort.siftDown (ltOf cf) hi first ch (Go.Sort.swp dk pm pc) = Go.Sort.siftDown (ltOf cf) hi first lo d) := by
            show _ = _
            rw [← HE.out]
            refine Eq.symm ?_
            rw [Vy1.out, Vy2.out] at hl2
            rw [Go.Sort.sd_left_go (ltOf cf) dk (by rw [HX4.out]; omega) (fun h => absurd h (by rw [HX3.out]; exact hright)) (by rw [HX0.out, HX1.out]; exact hl2), HX0.out, HX1.out, HX4.out]
          clear hl2
          generalize cf y1 y2 = c2 at *
          go_wp2_with fail
          go_quiet ((go_at_call 30; exact Calls.quiet_of (HC2.out _)))
          have S3 := HS2.out.drewN nq
          generalize w2.drewN nq = w3 at S3 ⊢
          have g1 := sw_cell S3 HR.out hk0 (pm) hmm
          rw [← Vy1.out] at g1
          have g2 := sw_cell S3 HR.out hk0 (pc) hmpc
          rw [← Vy2.out] at g2
          have f1 := sw_frozen S3 HR.out hk0 (pm) hmm
          have f2 := sw_frozen S3 HR.out hk0 (pc) hmpc
          obtain ⟨u, g3⟩ := sw_then S3 HR.out hk0 (pm) (pc) hmm hmpc (y2).val
          have HS3 := Lib.hid (sw_swap S3 HR.out (pm) (pc) hmm hmpc)
          rw [← Vy1.out, ← Vy2.out] at HS3
          clear S3 k1 k2
          go_wp2_with fail
          go_region
          go_wp2_with fail
          go_roundw
          case rel => exact ⟨ch, Go.Sort.swp dk pm pc, rfl, by omega, by rw [Go.Sort.size_swp]; exact hsk, HS3.out, HGO.out⟩
          case measure => simp [intOf]; omega
        | false =>
          have d4 := lt_false hl2
          have HST : Hid (Go.Sort.siftDown (ltOf cf) hi first lo d = dk) := by
            show _ = _
            rw [← HE.out]
            rw [Vy1.out, Vy2.out] at hl2
            rw [Go.Sort.sd_left_stop (ltOf cf) dk (by rw [HX4.out]; omega) (fun h => absurd h (by rw [HX3.out]; exact hright)) (by rw [HX0.out, HX1.out]; exact hl2)]
          clear hl2
          generalize cf y1 y2 = c2 at *
          go_wp2_with fail
          go_quiet ((go_at_call 30; exact Calls.quiet_of (HC2.out _)))
          go_wp2_with fail
          (try simp only [Exit.inBlock, Exit.then])
          refine bodyPost_ret (results_none rfl _ _ _) rfl ?_
          exact ⟨rfl, by rw [HST.out]; exact HS2.out.drewN nq⟩

end Go.Proofs.Ytglcideecelemaa
