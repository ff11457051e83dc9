/- The sort, by a method value: what its walks ask; insertion. Fewer than a billion numbers. -/
import Derived.Test.YtglcideecelemaaKe
import Derived.Sort.WalkA
import Derived.Sort.LotA
namespace Go.Proofs.Ytglcideecelemaa
open Go.RowKit

section
variable {k : Nat} {r : Value} {cf : Fin (k + 1) → Fin (k + 1) → Int} {blk off size : Nat} {w0 W : World} {d0 dk : Array (Fin (k + 1))}

theorem cmp_at (hC : CmpMv r cf blk off size w0) (S : SW encF w0 blk off dk W) (hs : dk.size = size) (x y : Fin (k + 1)) (m : Nat) :
    Calls Try.prog 30 #[r, .int .i64 (x.val : Nat), .int .i64 (y.val : Nat)] (W.drewN m) fun e w' => e = .returned (.int .i64 (cf x y)) ∧ ∃ q, w' = (W.drewN m).drewN q :=
  (hC (W.drewN m) dk hs (S.drewN m) x y).mono fun _ _ h => ⟨h.1, 0, h.2.symm⟩
theorem sw_cell (S : SW encF w0 blk off dk W) (R : Row1 encF w0 blk off d0) (hs : dk.size = d0.size) (i : Nat) (hi : i < dk.size) : W.cell? ⟨blk, off + i, none⟩ = some (.int .i64 ((dk[i]!).val : Nat)) := S.c1 R hs i hi
theorem sw_frozen (S : SW encF w0 blk off dk W) (R : Row1 encF w0 blk off d0) (hs : dk.size = d0.size) (i : Nat) (hi : i < dk.size) : W.frozen? ⟨blk, off + i, none⟩ = false := S.f1 R hs i hi
theorem sw_then (S : SW encF w0 blk off dk W) (R : Row1 encF w0 blk off d0) (hs : dk.size = d0.size) (i j : Nat) (hi : i < dk.size) (hj : j < dk.size) (v : Nat) : ∃ u, (W.setCell ⟨blk, off + i, none⟩ (.int .i64 v)).cell? ⟨blk, off + j, none⟩ = some u := S.c2 R hs i j hi hj _
theorem sw_swap (S : SW encF w0 blk off dk W) (R : Row1 encF w0 blk off d0) (i j : Nat) (hi : i < dk.size) (hj : j < dk.size) :
    SW encF w0 blk off (Go.Sort.swp dk i j) ((W.setCell ⟨blk, off + i, none⟩ (.int .i64 ((dk[j]!).val : Nat))).setCell ⟨blk, off + j, none⟩ (.int .i64 ((dk[i]!).val : Nat))).drew := S.swapped R i j hi hj
theorem wrap_add (a b : Nat) (h : a + b ≤ 1000000000) : IntKind.i64.wrap ((a : Int) + (b : Int)) = (a : Int) + (b : Int) := IntWalk.i64_in _ (by omega)
theorem nonneg_add (a b : Nat) : (0 : Int) ≤ (a : Int) + (b : Int) := by omega
theorem toNat_add (a b : Nat) : ((a : Int) + (b : Int)).toNat = a + b := by omega
theorem lt_add {a b n : Nat} (h : a + b < n) : (a : Int) + (b : Int) < (n : Int) := by omega
theorem wrap_add3 (a b : Nat) (h : a + b + 1 ≤ 1000000000) : IntKind.i64.wrap ((a : Int) + (b : Int) + 1) = (a : Int) + (b : Int) + 1 := IntWalk.i64_in _ (by omega)
theorem nonneg_add3 (a b : Nat) : (0 : Int) ≤ (a : Int) + (b : Int) + 1 := by omega
theorem toNat_add3 (a b : Nat) : ((a : Int) + (b : Int) + 1).toNat = a + b + 1 := by omega
theorem lt_add3 {a b n : Nat} (h : a + b + 1 < n) : (a : Int) + (b : Int) + 1 < (n : Int) := by omega
theorem lt_true {x y : Fin (k + 1)} (h : ltOf cf x y = true) : decide (cf x y < 0) = true := h
theorem lt_false {x y : Fin (k + 1)} (h : ltOf cf x y = false) : decide (cf x y < 0) = false := h
end

set_option maxHeartbeats 4000000 in
set_option maxRecDepth 100000 in
theorem insertion_any (k : Nat) (r : Value) (cf : Fin (k + 1) → Fin (k + 1) → Int) (blk off cap a b : Nat) (d0 d : Array (Fin (k + 1))) (w0 w : World)
    (C : CmpMv r cf blk off d0.size w0) (R : Row1 encF w0 blk off d0) (hs : d0.size = d.size) (S : SW encF w0 blk off d w) (hab : a ≤ b) (hb : b ≤ d.size) (hsz : d.size ≤ 1000000000) :
    Calls Try.prog 39 #[.slice (some ⟨blk, off, none⟩) d.size cap, .int .i64 a, .int .i64 b, .func (.func 30) #[r] #[]] w fun e w' => e = .returned (.tuple #[]) ∧ SW encF w0 blk off (Go.Sort.insertionSort (ltOf cf) d a b) w' := by
  have HC := Lib.hid C
  have HR := Lib.hid R
  have HS := Lib.hid S
  clear C R S
  go_enter Try.func39, Try.ntmps39
  go_wp2_with fail
  go_loopw [8] (fun x wr => ∃ (i : Nat) (dk : Array (Fin (k + 1))), x = .int .i64 i ∧ a < i ∧ i ≤ b + 1 ∧ dk.size = d.size ∧ SW encF w0 blk off dk wr ∧ Go.Sort.insOuter (ltOf cf) a b i dk = Go.Sort.insOuter (ltOf cf) a b (a + 1) d) (fun x _ => b + 1 - (intOf x).toNat)
  case atStart => exact ⟨a + 1, d, by go_num, by omega, by omega, rfl, HS.out, rfl⟩
  case round =>
    obtain ⟨i, dk, rfl, hai, hib, hsk, S1, HO⟩ := hrel
    have HS1 := Lib.hid S1
    have HO1 := Lib.hid HO
    clear S1 HO
    by_cases hlt : i < b
    · have d1 : decide ((i : Int) < (b : Int)) = true := decide_eq_true (by omega)
      go_wp2_with fail
      go_loopw [9] (fun y wr => ∃ (j : Nat) (dj : Array (Fin (k + 1))), y = .int .i64 j ∧ a ≤ j ∧ j ≤ i ∧ dj.size = d.size ∧ SW encF w0 blk off dj wr ∧ Go.Sort.insInner (ltOf cf) a j dj = Go.Sort.insInner (ltOf cf) a i dk) (fun y _ => (intOf y).toNat)
      case atStart => exact ⟨i, dk, rfl, by omega, Nat.le_refl _, hsk, HS1.out, rfl⟩
      case round =>
        obtain ⟨j, dj, rfl, haj, hji, hsj, SJ, HI⟩ := hrel
        have HSJ := Lib.hid SJ
        have HI1 := Lib.hid HI
        clear SJ HI
        by_cases hja : a < j
        · have d2 : decide ((a : Int) < (j : Int)) = true := decide_eq_true (by omega)
          have c1 := sw_cell HSJ.out HR.out (by omega) j (by omega)
          have c2 := sw_cell HSJ.out HR.out (by omega) (j - 1) (by omega)
          have HCC := Lib.hid fun m => cmp_at HC.out HSJ.out (by omega) dj[j]! dj[j - 1]! m
          have e1 : ((j : Int) - 1).toNat = j - 1 := by omega
          have e2 : IntKind.i64.wrap ((j : Int) - 1) = (j : Int) - 1 := IntWalk.i64_in _ (by omega)
          have e3 : (0 : Int) ≤ (j : Int) - 1 := by omega
          have e4 : (j : Int) - 1 < (d.size : Int) := by omega
          have e5 : (1 : Int) ≤ (j : Int) := by omega
          cases hl : ltOf cf dj[j]! dj[j - 1]! with
          | true =>
            have d3 := lt_true hl
            generalize cf dj[j]! dj[j - 1]! = c at *
            go_wp2_with fail
            go_quiet ((go_at_call 30; exact Calls.quiet_of (HCC.out _)))
            have S2 := HSJ.out.drewN nq
            generalize wr.drewN nq = w2 at S2 ⊢
            have g1 := sw_cell S2 HR.out (by omega) j (by omega)
            have g2 := sw_cell S2 HR.out (by omega) (j - 1) (by omega)
            have f1 := sw_frozen S2 HR.out (by omega) j (by omega)
            have f2 := sw_frozen S2 HR.out (by omega) (j - 1) (by omega)
            obtain ⟨u, g3⟩ := sw_then S2 HR.out (by omega) j (j - 1) (by omega) (by omega) (dj[j - 1]!).val
            have S3 := sw_swap S2 HR.out j (j - 1) (by omega) (by omega)
            have HS3 := Lib.hid S3
            clear S2 S3 c1 c2
            go_wp2_with fail
            go_region
            go_wp2_with fail
            go_roundw
            case rel => exact ⟨j - 1, Go.Sort.swp dj j (j - 1), by go_num, by omega, by omega, by rw [Go.Sort.size_swp]; exact hsj, HS3.out, by rw [← HI1.out, insInner_go (ltOf cf) a j dj hja hl]⟩
            case measure => simp [intOf]; omega
          | false =>
            have d3 := lt_false hl
            have HO2 : Hid (Go.Sort.insOuter (ltOf cf) a b (i + 1) dj = Go.Sort.insOuter (ltOf cf) a b (a + 1) d) := by
              show _ = _
              rw [← HO1.out, insOuter_go _ _ _ _ _ hlt, ← HI1.out, insInner_stop _ _ _ _ (Or.inr hl)]
            generalize cf dj[j]! dj[j - 1]! = c at *
            go_wp2_with fail
            go_quiet ((go_at_call 30; exact Calls.quiet_of (HCC.out _)))
            have HS2 := Lib.hid (HSJ.out.drewN nq)
            generalize wr.drewN nq = w2 at HS2 ⊢
            go_wp2_with fail
            go_roundw
            case rel => exact ⟨i + 1, dj, by go_num, by omega, by omega, hsj, HS2.out, HO2.out⟩
            case measure => simp [intOf]; omega
        · have d2 : decide ((a : Int) < (j : Int)) = false := decide_eq_false (by omega)
          have HO2 : Hid (Go.Sort.insOuter (ltOf cf) a b (i + 1) dj = Go.Sort.insOuter (ltOf cf) a b (a + 1) d) := by
            show _ = _
            rw [← HO1.out, insOuter_go _ _ _ _ _ hlt, ← HI1.out, insInner_stop _ _ _ _ (Or.inl (by omega))]
          go_wp2_with fail
          go_quiet (fail)
          have HS2 := Lib.hid (HSJ.out.drewN nq)
          generalize wr.drewN nq = w2 at HS2 ⊢
          go_wp2_with fail
          go_roundw
          case rel => exact ⟨i + 1, dj, by go_num, by omega, by omega, hsj, HS2.out, HO2.out⟩
          case measure => simp [intOf]; omega
    · have d1 : decide ((i : Int) < (b : Int)) = false := decide_eq_false (by omega)
      have HX : Hid (Go.Sort.insertionSort (ltOf cf) d a b = dk) := by
        unfold Go.Sort.insertionSort
        rw [← HO1.out, insOuter_stop _ _ _ _ _ hlt]
        exact rfl
      go_wp2_with fail
      go_end0
      exact ⟨rfl, by rw [HX.out]; exact HS1.out⟩

end Go.Proofs.Ytglcideecelemaa
