/- The sort, by a method value: pdqsort puts a span in order. (pr.py wrote this.) -/
import Derived.Test.YtglcideecelemaaPq
import Derived.Test.YtglcideecelemaaPc
import Derived.Sort.LotD3
namespace Go.Proofs.Ytglcideecelemaa
open Go.RowKit

set_option maxHeartbeats 16000000 in
set_option maxRecDepth 100000 in
theorem pdq_any (k : Nat) (r : Value) (cf : Fin (k + 1) → Fin (k + 1) → Int) (hO : Go.Sort.SWO (ltOf cf)) (blk off cap : Nat) (d0 : Array (Fin (k + 1))) (w0 : World)
    (C : CmpMv r cf blk off d0.size w0) (R : Row1 encF w0 blk off d0) :
    ∀ (N a b lim0 : Nat) (d : Array (Fin (k + 1))) (w : World), b - a < N → d0.size = d.size → SW encF w0 blk off d w → a ≤ b → b ≤ d.size → d.size ≤ 1000000000 → lim0 ≤ 1000000000 → Go.Sort.Below (ltOf cf) a b d →
    Calls Try.prog 35 #[.slice (some ⟨blk, off, none⟩) d.size cap, .int .i64 a, .int .i64 b, .int .i64 lim0, .func (.func 30) #[r] #[]] w fun e w' => e = .returned (.tuple #[]) ∧ ∃ d' : Array (Fin (k + 1)), Go.Sort.PermIn a b d d' ∧ Go.Sort.SortedIn (ltOf cf) a b d' ∧ SW encF w0 blk off d' w' := by
  have HC := Lib.hid C
  have HR := Lib.hid R
  clear C R
  intro N
  induction N with
  | zero => intro _ _ _ _ _ h; exact absurd h (Nat.not_lt_zero _)
  | succ N ih =>
    intro a b lim0 d w hN hs S hab hb hsz hlim0 hBel0
    have HS := Lib.hid S
    have HB := Lib.hid hBel0
    clear S hBel0
    go_enter Try.func35, Try.ntmps35
    go_wp2_with fail
    go_loopg [1, 2, 3, 10, 11] (b - a) (fun g s1 s2 s3 s10 s11 wr => ∃ (a' b' lim : Nat) (wb wp : Bool) (dk : Array (Fin (k + 1))), s1 = .int .i64 a' ∧ s2 = .int .i64 b' ∧ s3 = .int .i64 lim ∧ s10 = .bool wb ∧ s11 = .bool wp ∧ a' ≤ b' ∧ b' ≤ d.size ∧ b' - a' ≤ g ∧ g ≤ b - a ∧ lim ≤ 1000000000 ∧ dk.size = d.size ∧ Go.Sort.Below (ltOf cf) a' b' dk ∧ SW encF w0 blk off dk wr ∧ Hid (∀ R, Go.Sort.PermIn a' b' dk R → Go.Sort.SortedIn (ltOf cf) a' b' R → Go.Sort.PermIn a b d R ∧ Go.Sort.SortedIn (ltOf cf) a b R))
    case atStart => exact ⟨a, b, lim0, true, true, d, rfl, rfl, rfl, rfl, rfl, hab, hb, Nat.le_refl _, Nat.le_refl _, hlim0, rfl, HB.out, HS.out, fun R h1 h2 => ⟨h1, h2⟩⟩
    case round =>
      clear HS HB
      obtain ⟨a', b', lim, wb, wp, dk, rfl, rfl, rfl, rfl, rfl, hab', hb', hg, hg2, hlim, hsk, hBel, SK, FIN⟩ := hrel
      have HBel := Lib.hid hBel
      have HSK := Lib.hid SK
      clear hBel SK
      have hk0 : d0.size = dk.size := by omega
      obtain ⟨n, hn⟩ : ∃ x, x = b' - a' := ⟨_, rfl⟩
      have z1 : (b' : Int) - (a' : Int) = (n : Int) := by omega
      have hn1 : a' + n ≤ b' := by omega
      have hn2 : b' ≤ a' + n := by omega
      clear hn
      by_cases h12 : n ≤ 12
      · have d1 : decide ((n : Int) ≤ 12) = true := decide_eq_true (by omega)
        have HI := Lib.hid (insertion_any k r cf blk off cap a' b' d0 dk w0 wr HC.out HR.out hk0 HSK.out hab' (by omega) (by omega))
        rw [hsk] at HI
        have HX := Lib.hid (Go.Sort.insertionSort_holds (lt := ltOf cf) hO dk a' b' hab' (by omega))
        clear hk0
        go_wp2_with fail
        refine HI.out.mono ?_
        rintro e w1 ⟨rfl, S1⟩
        have HS1 := Lib.hid S1
        clear S1
        go_wp2_with fail
        (try simp only [Exit.inBlock, Exit.then])
        refine bodyPost_ret (results_none rfl _ _ _) rfl ?_
        exact ⟨rfl, _, (FIN.out _ HX.out.1 HX.out.2).1, (FIN.out _ HX.out.1 HX.out.2).2, HS1.out⟩
      · have d1 : decide ((n : Int) ≤ 12) = false := decide_eq_false (by omega)
        by_cases hl0 : lim = 0
        · subst hl0
          have HI := Lib.hid (heap_any k r cf blk off cap a' b' d0 dk w0 wr HC.out HR.out hk0 HSK.out (by omega) (by omega) (by omega))
          rw [hsk] at HI
          have HX := Lib.hid (Go.Sort.heapSort_holds (lt := ltOf cf) hO dk a' b' hab' (by omega))
          clear hk0
          go_wp2_with fail
          refine HI.out.mono ?_
          rintro e w1 ⟨rfl, S1⟩
          have HS1 := Lib.hid S1
          clear S1
          go_wp2_with fail
          (try simp only [Exit.inBlock, Exit.then])
          refine bodyPost_ret (results_none rfl _ _ _) rfl ?_
          exact ⟨rfl, _, (FIN.out _ HX.out.1 HX.out.2).1, (FIN.out _ HX.out.1 HX.out.2).2, HS1.out⟩
        · have d2 : ((lim : Int) == 0) = false := by simp; omega
          have hab2 : a' + 12 < b' := by omega
          obtain ⟨lm, hlm⟩ : ∃ x, x = lim - 1 := ⟨_, rfl⟩
          have z2 : (lim : Int) - 1 = (lm : Int) := by omega
          have hlm2 : lm ≤ 1000000000 := by omega
          obtain ⟨q, hq⟩ : ∃ x, x = n / 8 := ⟨_, rfl⟩
          have z3 : (n : Int) / 8 = (q : Int) := by omega
          have hq2 : q ≤ n := by omega
          clear hlm hq
          have HPT := Lib.hid (patterns_any k (.func (.func 30) #[r] #[]) blk off cap a' b' d0 dk w0 wr HR.out hk0 HSK.out hab2 (by omega) (by omega))
          rw [hsk] at HPT
          clear hk0
          go_upto_if 39 with fail
          go_cut [3] from 21 (fun s3 wx => ∃ (lim1 : Nat) (d1 : Array (Fin (k + 1))), s3 = .int .i64 lim1 ∧ lim1 ≤ 1000000000 ∧ d1.size = d.size ∧ Go.Sort.PermIn a' b' dk d1 ∧ SW encF w0 blk off d1 wx)
          case first =>
            cases wb
            · go_wp2_with fail
              refine HPT.out.mono ?_
              rintro e w1 ⟨rfl, d1, hs1, hp1, S1⟩
              have HS1 := Lib.hid S1
              have HP1 := Lib.hid hp1
              clear S1 hp1
              go_wp2_with fail
              go_meet
              case rel => exact ⟨lm, d1, rfl, hlm2, hs1, HP1.out, HS1.out⟩
            · go_wp2_with fail
              go_meet
              case rel => exact ⟨lim, dk, rfl, hlim, hsk, Go.Sort.permIn_refl _ _ _, HSK.out⟩
          case rest =>
            clear HPT HSK
            obtain ⟨lim1, d1, rfl, hl1, hs1, hp1, S1⟩ := hcut
            have HPV := Lib.hid (pivot_any (cap := cap) HC.out HR.out (show d0.size = d1.size by omega) S1 a' b' hab2 (by omega) (by omega))
            rw [hs1] at HPV
            have HP1 := Lib.hid hp1
            clear hp1 S1
            go_upto_if 56 with ((go_at_call 42; refine HPV.out.mono ?_; rintro e w2 ⟨pv, h, rfl, hp3, hp4, S2⟩))
            have HS2 := Lib.hid S2
            clear S2
            go_cut [13, 14] from 21 (fun s13 s14 wx => ∃ (pv2 h2 : Nat) (d2 : Array (Fin (k + 1))), s13 = .int .i64 pv2 ∧ s14 = .int .i64 h2 ∧ a' ≤ pv2 ∧ pv2 < b' ∧ d2.size = d.size ∧ Go.Sort.PermIn a' b' dk d2 ∧ SW encF w0 blk off d2 wx)
            case first =>
              by_cases hh : h = 2
              · subst hh
                have HRV := Lib.hid (reverse_any k (.func (.func 30) #[r] #[]) blk off cap a' b' d0 d1 w0 w2 HR.out (by omega) HS2.out (by omega) (by omega) (by omega))
                rw [hs1] at HRV
                have HX := Lib.hid (Go.Sort.permIn_trans dk d1 _ a' b' HP1.out (Go.Sort.reverseRange_holds d1 a' b' hab' (by omega)))
                obtain ⟨bm, hbm⟩ : ∃ x, x = b' - 1 := ⟨_, rfl⟩
                obtain ⟨t, ht⟩ : ∃ x, x = pv - a' := ⟨_, rfl⟩
                obtain ⟨pw, hpw⟩ : ∃ x, x = bm - t := ⟨_, rfl⟩
                have z4 : (b' : Int) - 1 = (bm : Int) := by omega
                have z5 : (pv : Int) - (a' : Int) = (t : Int) := by omega
                have z6 : (bm : Int) - (t : Int) = (pw : Int) := by omega
                have hw1 : a' ≤ pw := by omega
                have hw2 : pw < b' := by omega
                clear hbm ht hpw
                go_wp2_with fail
                refine HRV.out.mono ?_
                rintro e w3 ⟨rfl, S3⟩
                have HS3 := Lib.hid S3
                clear S3
                go_wp2_with fail
                go_meet
                case rel => exact ⟨pw, 1, _, rfl, rfl, hw1, hw2, HX.out.1.trans hsk, HX.out, HS3.out⟩
              · have e1 : ((h : Int) == 2) = false := by simp; omega
                go_wp2_with fail
                go_meet
                case rel => exact ⟨pv, h, d1, rfl, rfl, hp3, hp4, hs1, HP1.out, HS2.out⟩
            case rest =>
              clear HPV HP1 HS2
              obtain ⟨pv2, h2, d2, rfl, rfl, hpv1, hpv2, hs2, hp2, S2⟩ := hcut
              have HS2 := Lib.hid S2
              have HP2 := Lib.hid hp2
              clear S2 hp2
              go_upto_region 15 with fail
              go_cut [75] from 21 (fun s75 wx => ∃ bb : Bool, s75 = .bool bb ∧ SW encF w0 blk off d2 wx)
              case first =>
                by_cases hh : h2 = 1
                · subst hh
                  cases wb <;> cases wp <;> (go_wp2_with fail; go_meet; exact ⟨_, rfl, HS2.out⟩)
                · have e1 : ((h2 : Int) == 1) = false := by simp; omega
                  cases wb <;> cases wp <;> (go_wp2_with fail; go_meet; exact ⟨_, rfl, HS2.out⟩)
              case rest =>
                clear HS2
                obtain ⟨bb, rfl, S2⟩ := hcut
                have HPI := Lib.hid (partial_any k r cf blk off cap a' b' d0 d2 w0 wc HC.out HR.out (by omega) S2 hab2 (by omega) (by omega))
                have HX := Lib.hid (Go.Sort.partialInsertionSort_holds (lt := ltOf cf) hO d2 a' b' (by omega) (by omega) (HBel.out.perm (by omega) HP2.out))
                rw [hs2] at HPI
                obtain ⟨X, hX⟩ : ∃ X, X = Go.Sort.partialInsertionSort (ltOf cf) d2 a' b' := ⟨_, rfl⟩
                rw [← hX] at HPI HX
                clear hX
                have HS2 := Lib.hid S2
                clear S2
                go_upto_if 75 with fail
                go_cut [] from 21 (fun wx => ∃ (d3 : Array (Fin (k + 1))), d3.size = d.size ∧ Go.Sort.PermIn a' b' dk d3 ∧ SW encF w0 blk off d3 wx)
                case first =>
                  cases bb
                  · go_wp2_with fail
                    go_meet
                    case rel => exact ⟨d2, hs2, HP2.out, HS2.out⟩
                  · obtain ⟨X1, ok⟩ := X
                    have HX1 := Lib.hid (Go.Sort.permIn_trans dk d2 X1 a' b' HP2.out HX.out.1)
                    cases ok
                    · go_wp2_with fail
                      refine HPI.out.mono ?_
                      rintro e w3 ⟨rfl, S3⟩
                      have HS3 := Lib.hid S3
                      clear S3
                      go_wp2_with fail
                      go_meet
                      case rel => exact ⟨X1, HX1.out.1.trans hsk, HX1.out, HS3.out⟩
                    · go_wp2_with fail
                      refine HPI.out.mono ?_
                      rintro e w3 ⟨rfl, S3⟩
                      have HS3 := Lib.hid S3
                      clear S3
                      go_wp2_with fail
                      (try simp only [Exit.inBlock, Exit.then])
                      refine bodyPost_ret (results_none rfl _ _ _) rfl ?_
                      exact ⟨rfl, X1, (FIN.out X1 HX1.out (HX.out.2 trivial)).1, (FIN.out X1 HX1.out (HX.out.2 trivial)).2, HS3.out⟩
                case rest =>
                  clear HPI HX HS2 HP2
                  obtain ⟨d3, hs3, hp3, S3⟩ := hcut
                  have HB3 := Lib.hid (HBel.out.perm (show b' ≤ dk.size by omega) hp3)
                  have HP3 := Lib.hid hp3
                  have HS5 := Lib.hid S3
                  clear hp3 S3
                  have hk3 : d3.size = d0.size := by omega
                  rcases Nat.eq_zero_or_pos a' with ha0 | ha0
                  · have e3 : decide ((0 : Int) < (a' : Int)) = false := decide_eq_false (by omega)
                    have e4 : decide (0 < a') = false := decide_eq_false (by omega)
                    have e5 : ¬ 0 < a' := by omega
                    have Ha0 := Lib.hid ha0
                    clear ha0
                    go_wp2_with fail
                    go_quiet (fail)
                    have HS6 := Lib.hid (HS5.out.drewN nq)
                    clear HS5
                    generalize wc.drewN nq = w6 at HS6 ⊢
                    obtain ⟨mid, ap, d4, hx⟩ : ∃ mid ap d4, Go.Sort.partition (ltOf cf) d3 a' b' pv2 = (mid, ap, d4) := ⟨_, _, _, rfl⟩
                    obtain ⟨r1, r2, r3, r4, r5, r6, r7⟩ := Go.Sort.round_part hO (Go.Sort.partition_holds (ltOf cf)) hpv1 hpv2 (show b' ≤ d3.size by omega) HB3.out hx
                    have HP := Lib.hid (partition_any k r cf blk off cap a' b' pv2 d0 d3 w0 w6 HC.out HR.out (by omega) HS6.out (by omega) (by omega) hpv1 hpv2 (by omega))
                    rw [hx, hs3] at HP
                    have hs4 : d4.size = d.size := r3.trans hs3
                    obtain ⟨ll, hll⟩ : ∃ x, x = mid - a' := ⟨_, rfl⟩
                    obtain ⟨rl, hrl⟩ : ∃ x, x = b' - mid := ⟨_, rfl⟩
                    obtain ⟨mid1, hmid1⟩ : ∃ x, x = mid + 1 := ⟨_, rfl⟩
                    have y1 : (mid : Int) - (a' : Int) = (ll : Int) := by omega
                    have y2 : (b' : Int) - (mid : Int) = (rl : Int) := by omega
                    have y3 : (mid : Int) + 1 = (mid1 : Int) := by omega
                    rw [← hmid1] at r5 r6 r7
                    have hm1 : mid < mid1 := by omega
                    have hm2 : mid1 ≤ b' := by omega
                    have H4 := Lib.hid r4
                    have H5 := Lib.hid r5
                    have H6 := Lib.hid r6
                    have H7 := Lib.hid r7
                    have HIL := Lib.hid fun w7 S7 => ih a' mid lim1 d4 w7 (by omega) (by omega) S7 (by omega) (by omega) (by omega) (by omega) r4
                    have HIR := Lib.hid fun w7 S7 => ih mid1 b' lim1 d4 w7 (by omega) (by omega) S7 (by omega) (by omega) (by omega) (by omega) r5
                    rw [hs4] at HIL HIR
                    clear hx r3 r4 r5 r6 r7 hll hrl hmid1
                    by_cases h4 : ll < rl
                    · have d6 : decide ((ll : Int) < (rl : Int)) = true := decide_eq_true (by omega)
                      go_wp2_with fail
                      refine HP.out.mono ?_
                      rintro e w7 ⟨rfl, S7⟩
                      have HL2 := Lib.hid (HIL.out w7 S7)
                      clear S7
                      go_wp2_with fail
                      refine HL2.out.mono ?_
                      rintro e w8 ⟨rfl, d5, p5, s5, S8⟩
                      have HS8 := Lib.hid S8
                      have HP5 := Lib.hid p5
                      have HS5 := Lib.hid s5
                      clear S8 p5 s5
                      have hs5 : d5.size = d.size := HP5.out.1.trans hs4
                      go_wp2_with fail
                      go_roundg (b' - mid1)
                      case measure => omega
                      case rel => exact ⟨mid1, b', lim1, _, ap, d5, rfl, rfl, rfl, rfl, rfl, hm2, hb', Nat.le_refl _, by omega, hl1, hs5, (H6.out d5 HP5.out HS5.out).1, HS8.out, fun R h1 h2 => FIN.out R (Go.Sort.permIn_trans dk d3 R a' b' HP3.out ((H6.out d5 HP5.out HS5.out).2 R h1 h2).1) ((H6.out d5 HP5.out HS5.out).2 R h1 h2).2⟩
                    · have d6 : decide ((ll : Int) < (rl : Int)) = false := decide_eq_false (by omega)
                      go_wp2_with fail
                      refine HP.out.mono ?_
                      rintro e w7 ⟨rfl, S7⟩
                      have HL2 := Lib.hid (HIR.out w7 S7)
                      clear S7
                      go_wp2_with fail
                      refine HL2.out.mono ?_
                      rintro e w8 ⟨rfl, d5, p5, s5, S8⟩
                      have HS8 := Lib.hid S8
                      have HP5 := Lib.hid p5
                      have HS5 := Lib.hid s5
                      clear S8 p5 s5
                      have hs5 : d5.size = d.size := HP5.out.1.trans hs4
                      go_wp2_with fail
                      go_roundg (mid - a')
                      case measure => omega
                      case rel => exact ⟨a', mid, lim1, _, ap, d5, rfl, rfl, rfl, rfl, rfl, r1, by omega, Nat.le_refl _, by omega, hl1, hs5, (H7.out d5 HP5.out HS5.out).1, HS8.out, fun R h1 h2 => FIN.out R (Go.Sort.permIn_trans dk d3 R a' b' HP3.out ((H7.out d5 HP5.out HS5.out).2 R h1 h2).1) ((H7.out d5 HP5.out HS5.out).2 R h1 h2).2⟩
                  · have e3 : decide ((0 : Int) < (a' : Int)) = true := decide_eq_true (by omega)
                    have e4 : decide (0 < a') = true := decide_eq_true ha0
                    obtain ⟨am, ham⟩ : ∃ x, x = a' - 1 := ⟨_, rfl⟩
                    have Ham := Lib.hid ham
                    have z7 : (a' : Int) - 1 = (am : Int) := by omega
                    have hm3 : am < d3.size := by omega
                    have hm4 : pv2 < d3.size := by omega
                    have hm5 : am < d.size := by omega
                    have hm6 : pv2 < d.size := by omega
                    clear ham
                    obtain ⟨x1, vx1⟩ : ∃ x, x = d3[am]! := ⟨_, rfl⟩
                    obtain ⟨x2, vx2⟩ : ∃ x, x = d3[pv2]! := ⟨_, rfl⟩
                    have Vx1 := Lib.hid vx1
                    have Vx2 := Lib.hid vx2
                    clear vx1 vx2
                    have g1 := sw_cell HS5.out HR.out hk3 am hm3
                    have g2 := sw_cell HS5.out HR.out hk3 pv2 hm4
                    rw [← Vx1.out] at g1
                    rw [← Vx2.out] at g2
                    have HCC := Lib.hid fun m => cmp_at HC.out HS5.out hk3 x1 x2 m
                    cases hl : ltOf cf x1 x2 with
                    | true =>
                      have d5 := lt_true hl
                      clear hl
                      generalize cf x1 x2 = c at *
                      go_wp2_with fail
                      go_quiet ((go_at_call 30; exact Calls.quiet_of (HCC.out _)))
                      have HS6 := Lib.hid (HS5.out.drewN nq)
                      clear g1 g2 HCC HS5
                      generalize wc.drewN nq = w6 at HS6 ⊢
                      clear Vx1 Vx2 hm3 hm4 hm5 hm6
                      obtain ⟨mid, ap, d4, hx⟩ : ∃ mid ap d4, Go.Sort.partition (ltOf cf) d3 a' b' pv2 = (mid, ap, d4) := ⟨_, _, _, rfl⟩
                      obtain ⟨r1, r2, r3, r4, r5, r6, r7⟩ := Go.Sort.round_part hO (Go.Sort.partition_holds (ltOf cf)) hpv1 hpv2 (show b' ≤ d3.size by omega) HB3.out hx
                      have HP := Lib.hid (partition_any k r cf blk off cap a' b' pv2 d0 d3 w0 w6 HC.out HR.out (by omega) HS6.out (by omega) (by omega) hpv1 hpv2 (by omega))
                      rw [hx, hs3] at HP
                      have hs4 : d4.size = d.size := r3.trans hs3
                      obtain ⟨ll, hll⟩ : ∃ x, x = mid - a' := ⟨_, rfl⟩
                      obtain ⟨rl, hrl⟩ : ∃ x, x = b' - mid := ⟨_, rfl⟩
                      obtain ⟨mid1, hmid1⟩ : ∃ x, x = mid + 1 := ⟨_, rfl⟩
                      have y1 : (mid : Int) - (a' : Int) = (ll : Int) := by omega
                      have y2 : (b' : Int) - (mid : Int) = (rl : Int) := by omega
                      have y3 : (mid : Int) + 1 = (mid1 : Int) := by omega
                      rw [← hmid1] at r5 r6 r7
                      have hm1 : mid < mid1 := by omega
                      have hm2 : mid1 ≤ b' := by omega
                      have H4 := Lib.hid r4
                      have H5 := Lib.hid r5
                      have H6 := Lib.hid r6
                      have H7 := Lib.hid r7
                      have HIL := Lib.hid fun w7 S7 => ih a' mid lim1 d4 w7 (by omega) (by omega) S7 (by omega) (by omega) (by omega) (by omega) r4
                      have HIR := Lib.hid fun w7 S7 => ih mid1 b' lim1 d4 w7 (by omega) (by omega) S7 (by omega) (by omega) (by omega) (by omega) r5
                      rw [hs4] at HIL HIR
                      clear hx r3 r4 r5 r6 r7 hll hrl hmid1
                      by_cases h4 : ll < rl
                      · have d6 : decide ((ll : Int) < (rl : Int)) = true := decide_eq_true (by omega)
                        go_wp2_with fail
                        refine HP.out.mono ?_
                        rintro e w7 ⟨rfl, S7⟩
                        have HL2 := Lib.hid (HIL.out w7 S7)
                        clear S7
                        go_wp2_with fail
                        refine HL2.out.mono ?_
                        rintro e w8 ⟨rfl, d5, p5, s5, S8⟩
                        have HS8 := Lib.hid S8
                        have HP5 := Lib.hid p5
                        have HS5 := Lib.hid s5
                        clear S8 p5 s5
                        have hs5 : d5.size = d.size := HP5.out.1.trans hs4
                        go_wp2_with fail
                        go_roundg (b' - mid1)
                        case measure => omega
                        case rel => exact ⟨mid1, b', lim1, _, ap, d5, rfl, rfl, rfl, rfl, rfl, hm2, hb', Nat.le_refl _, by omega, hl1, hs5, (H6.out d5 HP5.out HS5.out).1, HS8.out, fun R h1 h2 => FIN.out R (Go.Sort.permIn_trans dk d3 R a' b' HP3.out ((H6.out d5 HP5.out HS5.out).2 R h1 h2).1) ((H6.out d5 HP5.out HS5.out).2 R h1 h2).2⟩
                      · have d6 : decide ((ll : Int) < (rl : Int)) = false := decide_eq_false (by omega)
                        go_wp2_with fail
                        refine HP.out.mono ?_
                        rintro e w7 ⟨rfl, S7⟩
                        have HL2 := Lib.hid (HIR.out w7 S7)
                        clear S7
                        go_wp2_with fail
                        refine HL2.out.mono ?_
                        rintro e w8 ⟨rfl, d5, p5, s5, S8⟩
                        have HS8 := Lib.hid S8
                        have HP5 := Lib.hid p5
                        have HS5 := Lib.hid s5
                        clear S8 p5 s5
                        have hs5 : d5.size = d.size := HP5.out.1.trans hs4
                        go_wp2_with fail
                        go_roundg (mid - a')
                        case measure => omega
                        case rel => exact ⟨a', mid, lim1, _, ap, d5, rfl, rfl, rfl, rfl, rfl, r1, by omega, Nat.le_refl _, by omega, hl1, hs5, (H7.out d5 HP5.out HS5.out).1, HS8.out, fun R h1 h2 => FIN.out R (Go.Sort.permIn_trans dk d3 R a' b' HP3.out ((H7.out d5 HP5.out HS5.out).2 R h1 h2).1) ((H7.out d5 HP5.out HS5.out).2 R h1 h2).2⟩
                    | false =>
                      have d5 := lt_false hl
                      rw [Vx1.out, Vx2.out, Ham.out] at hl
                      have HL := Lib.hid hl
                      clear hl
                      generalize cf x1 x2 = c at *
                      go_wp2_with fail
                      go_quiet ((go_at_call 30; exact Calls.quiet_of (HCC.out _)))
                      have HS6 := Lib.hid (HS5.out.drewN nq)
                      clear g1 g2 HCC HS5
                      generalize wc.drewN nq = w6 at HS6 ⊢
                      clear Vx1 Vx2 hm3 hm4 hm5 hm6
                      obtain ⟨mid, d4, hx⟩ : ∃ mid d4, Go.Sort.partitionEqual (ltOf cf) d3 a' b' pv2 = (mid, d4) := ⟨_, _, rfl⟩
                      obtain ⟨r1, r2, r3, r4, r5⟩ := Go.Sort.round_eq hO (Go.Sort.partitionEqual_holds (ltOf cf)) ha0 hpv1 hpv2 (show b' ≤ d3.size by omega) HB3.out HL.out hx
                      have HP := Lib.hid (equal_any k r cf blk off cap a' b' pv2 d0 d3 w0 w6 HC.out HR.out (by omega) HS6.out (by omega) (by omega) hpv1 hpv2 (by omega))
                      rw [hx, hs3] at HP
                      have hs4 : d4.size = d.size := r3.trans hs3
                      have H4 := Lib.hid r4
                      have H5 := Lib.hid r5
                      clear hx r3 r4 r5
                      go_wp2_with fail
                      refine HP.out.mono ?_
                      rintro e w7 ⟨rfl, S7⟩
                      have HS7 := Lib.hid S7
                      clear S7
                      go_wp2_with fail
                      go_roundg (b' - mid)
                      case measure => omega
                      case rel => exact ⟨mid, b', lim1, wb, wp, d4, rfl, rfl, rfl, rfl, rfl, r2, hb', Nat.le_refl _, by omega, hl1, hs4, H4.out, HS7.out, fun R h1 h2 => FIN.out R (Go.Sort.permIn_trans dk d3 R a' b' HP3.out (H5.out R h1 h2).1) (H5.out R h1 h2).2⟩

end Go.Proofs.Ytglcideecelemaa
