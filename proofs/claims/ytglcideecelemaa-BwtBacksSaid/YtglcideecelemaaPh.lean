/- The sort, by a method value: patterns broken (only: the span is permuted). -/
import Derived.Test.YtglcideecelemaaPg
import Derived.Test.YtglcideecelemaaPx
import Derived.Shelf.SlSortCmp.Xorshift
import Derived.Laws.Bits64b
import Derived.Sort.LotD1
import Derived.Sort.LotD5
namespace Go.Proofs.Ytglcideecelemaa
open Go.RowKit

theorem permIn_swp {α : Type} [Inhabited α] {a b i j : Nat} {d0 d : Array α} (h : Go.Sort.PermIn a b d0 d) (hi : a ≤ i) (hi2 : i < b) (hj : a ≤ j) (hj2 : j < b) (hb : b ≤ d.size) : Go.Sort.PermIn a b d0 (Go.Sort.swp d i j) := by
  exact Go.Sort.permIn_trans d0 d _ a b h (Go.Sort.swp_permIn d a b i j hi hi2 hj hj2 hb)

set_option maxHeartbeats 2000000 in
set_option maxRecDepth 100000 in
theorem patterns_any (k : Nat) (fv : Value) (blk off cap a b : Nat) (d0 d : Array (Fin (k + 1))) (w0 w : World)
    (R : Row1 encF w0 blk off d0) (hs : d0.size = d.size) (S : SW encF w0 blk off d w) (hab : a + 12 < b) (hb : b ≤ d.size) (hsz : d.size ≤ 1000000000) :
    Calls Try.prog 41 #[.slice (some ⟨blk, off, none⟩) d.size cap, .int .i64 a, .int .i64 b, fv] w fun e w' => e = .returned (.tuple #[]) ∧ ∃ dk : Array (Fin (k + 1)), dk.size = d.size ∧ Go.Sort.PermIn a b d dk ∧ SW encF w0 blk off dk w' := by
  have HR := Lib.hid R
  have HS := Lib.hid S
  clear R S
  obtain ⟨n, hn⟩ : ∃ x, x = b - a := ⟨_, rfl⟩
  obtain ⟨q, hq⟩ : ∃ x, x = n / 4 := ⟨_, rfl⟩
  obtain ⟨M, hM⟩ : ∃ M : Nat, M = 1 <<< Go.Sort.bitsLen n := ⟨_, rfl⟩
  have hM1 : 1 ≤ M := by rw [hM, Nat.one_shiftLeft]; exact Nat.two_pow_pos _
  have hM2 : M ≤ 2 * n := by rw [hM, Nat.one_shiftLeft]; exact Go.Sort.two_pow_bitsLen_le (by omega)
  have hNP : ∀ w, Calls Try.prog 51 #[.int .i64 (n : Int)] w fun e w' => e = .returned (.int .u64 (M : Int)) ∧ w' = w := by rw [hM]; exact fun w => AnyF.nextPowerOfTwo Try.laysPow n (by omega) w
  have z1 : (b : Int) - (a : Int) = (n : Int) := by omega
  have z2 : (n : Int) / 4 = (q : Int) := by omega
  obtain ⟨m, hm⟩ : ∃ x, x = a + q * 2 := ⟨_, rfl⟩
  have z3 : (a : Int) + (q : Int) * 2 = (m : Int) := by omega
  have d8 : decide ((8 : Int) ≤ (n : Int)) = true := decide_eq_true (by omega)
  have r1 : a + 1 ≤ m := by omega
  have r2 : m + 3 < b := by omega
  have q9 : n ≤ 1000000000 := by omega
  have q8 : q ≤ 1000000000 := by omega
  obtain ⟨m1, hm1⟩ : ∃ x, x = m - 1 := ⟨_, rfl⟩
  obtain ⟨m2, hm2⟩ : ∃ x, x = m + 1 := ⟨_, rfl⟩
  have z4 : (m : Int) - 1 = (m1 : Int) := by omega
  have z5 : (m : Int) + 1 = (m2 : Int) := by omega
  have r3 : a ≤ m1 := by omega
  have r4 : m2 + 1 < b := by omega
  have r5 : m1 ≤ m2 := by omega
  have r6 : a + n ≤ b := by omega
  have Hne : Hid (w.heap.size ≠ blk) := by
    have := HS.out.lt HR.out.hblk
    exact fun e => by omega
  have Hle0 : Hid (w0.heap.size ≤ w.heap.size) := HS.out.le
  clear hM hm hq hn hm1 hm2
  go_enter Try.func41, Try.ntmps41
  go_wp2_with fail
  refine (hNP _).mono ?_
  rintro e w' ⟨rfl, rfl⟩
  go_wp2_with fail
  go_loopw [11] (fun x wr => ∃ (i R0 : Nat) (dk : Array (Fin (k + 1))), x = .int .i64 i ∧ m1 ≤ i ∧ i ≤ m2 + 1 ∧ dk.size = d.size ∧ R0 < 18446744073709551616 ∧ Go.Sort.PermIn a b d dk ∧ SW encF w0 blk off dk wr ∧ wr.cell? ⟨w.heap.size, 0, none⟩ = some (.int .u64 R0) ∧ wr.frozen? ⟨w.heap.size, 0, none⟩ = false) (fun x _ => ((m2 : Int) + 1 - intOf x).toNat)
  case atStart => exact ⟨m1, n, d, by go_num, by omega, by omega, rfl, by omega, Go.Sort.permIn_refl _ _ _, HS.out.alloc _, by simp, by simp⟩
  case round =>
    obtain ⟨i, R0, dk, rfl, hi1, hi2, hsk, lR, hP, S1, cR, fR⟩ := hrel
    have HP := Lib.hid hP
    clear hP
    have hk0 : dk.size = d0.size := by omega
    by_cases hlt : i ≤ m2
    · have d1 : decide ((i : Int) ≤ (m2 : Int)) = true := decide_eq_true (by omega)
      have hia : a ≤ i := by omega
      have hib : i < b := by omega
      obtain ⟨R', hR'⟩ : ∃ R' : Nat, R' = Go.Sort.xorNextN R0 := ⟨_, rfl⟩
      have lR' : R' < 18446744073709551616 := by rw [hR']; exact Go.Sort.xorNextN_lt R0 lR
      obtain ⟨O, hO⟩ : ∃ O : Nat, O = R' &&& (M - 1) := ⟨_, rfl⟩
      have lO : O ≤ M - 1 := by rw [hO]; exact Nat.and_le_right
      have eAnd : bits .and .u64 (R' : Int) ((M : Int) - 1) = (O : Int) := by
        rw [show ((M : Int) - 1) = ((M - 1 : Nat) : Int) by omega, bits_and_u64_nat _ _ lR' (by omega), hO]
      have hNext : Calls Try.prog 52 #[.pointer (some ⟨w.heap.size, 0, none⟩)] wr fun e w' => e = .returned (.int .u64 (R' : Int)) ∧ w' = (wr.setCell ⟨w.heap.size, 0, none⟩ (.int .u64 (R' : Int))).drewN 3 := by
        rw [hR']; exact AnyF.xorshift_Next Try.laysXor _ _ R0 lR wr cR fR
      clear hR' hO
      have S2 : SW encF w0 blk off dk ((wr.setCell ⟨w.heap.size, 0, none⟩ (.int .u64 (R' : Int))).drewN 3) := (S1.setCell_new w.heap.size 0 (.int .u64 (R' : Int)) Hle0.out).drewN 3
      have cR' : ((wr.setCell ⟨w.heap.size, 0, none⟩ (.int .u64 (R' : Int))).drewN 3).cell? ⟨w.heap.size, 0, none⟩ = some (.int .u64 (R' : Int)) := by
        rw [World.cell?_drewN]; exact World.cell?_setCell_same _ _ _ cR
      have fR' : ((wr.setCell ⟨w.heap.size, 0, none⟩ (.int .u64 (R' : Int))).drewN 3).frozen? ⟨w.heap.size, 0, none⟩ = false := by
        rw [World.frozen?_drewN]; simpa using fR
      generalize (wr.setCell ⟨w.heap.size, 0, none⟩ (.int .u64 (R' : Int))).drewN 3 = w2 at hNext S2 cR' fR'
      clear cR fR S1
      have d1n : decide (i ≤ m2) = true := decide_eq_true hlt
      have HN := Lib.hid hNext
      have HS2 := Lib.hid S2
      have HC2 := Lib.hid cR'
      have HF2 := Lib.hid fR'
      clear hNext S2 cR' fR'
      by_cases hLO : n ≤ O
      · have d2 : decide ((n : Int) ≤ (O : Int)) = true := decide_eq_true (by omega)
        obtain ⟨OO, hOO⟩ : ∃ t, t = O - n := ⟨_, rfl⟩
        have z6 : (O : Int) - (n : Int) = (OO : Int) := by omega
        have hOn : OO < n := by omega
        clear hOO
        go_wp2_with fail
        refine HN.out.mono ?_
        rintro e w' ⟨rfl, hw'⟩
        obtain rfl : w2 = w' := hw'.symm
        have S2 := HS2.out
        have cR' := HC2.out
        have fR' := HF2.out
        clear HN HS2 HC2 HF2
        obtain ⟨t, ht⟩ : ∃ t, t = a + OO := ⟨_, rfl⟩
        have z7 : (a : Int) + (OO : Int) = (t : Int) := by omega
        have hta : a ≤ t := by omega
        have htb : t < b := by omega
        have hmi : i < dk.size := by omega
        have hmt : t < dk.size := by omega
        have hni : i < d.size := by omega
        have hnt : t < d.size := by omega
        obtain ⟨x1, vx1⟩ : ∃ x, x = dk[i]! := ⟨_, rfl⟩
        obtain ⟨x2, vx2⟩ : ∃ x, x = dk[t]! := ⟨_, rfl⟩
        have g1 := sw_cell S2 HR.out hk0 i hmi
        have g2 := sw_cell S2 HR.out hk0 t hmt
        have f1 := sw_frozen S2 HR.out hk0 i hmi
        have f2 := sw_frozen S2 HR.out hk0 t hmt
        obtain ⟨u, g3⟩ := sw_then S2 HR.out hk0 i t hmi hmt x2.val
        have HS3 := Lib.hid (sw_swap S2 HR.out i t hmi hmt)
        have HP3 := Lib.hid (permIn_swp HP.out hia hib hta htb (by omega))
        have HK := Lib.hid (box_kept_swap1 (W := w2) (blk := blk) Hne.out cR' fR' (off + i) (off + t) (.int .i64 (x2.val : Nat)) (.int .i64 (x1.val : Nat)))
        rw [← vx1] at g1
        rw [← vx2] at g2
        rw [← vx1, ← vx2] at HS3
        clear S2 vx1 vx2 cR' fR' ht
        go_wp2_with fail
        go_region
        go_wp2_with fail
        go_roundw
        case rel => exact ⟨i + 1, R', Go.Sort.swp dk i t, by go_num, by omega, by omega, by rw [Go.Sort.size_swp]; exact hsk, lR', HP3.out, HS3.out, HK.out.1, HK.out.2⟩
        case measure => (simp [intOf] <;> omega)
      · have d2 : decide ((n : Int) ≤ (O : Int)) = false := decide_eq_false (by omega)
        have hOn : O < n := by omega
        clear lO
        go_wp2_with fail
        refine HN.out.mono ?_
        rintro e w' ⟨rfl, hw'⟩
        obtain rfl : w2 = w' := hw'.symm
        have S2 := HS2.out
        have cR' := HC2.out
        have fR' := HF2.out
        clear HN HS2 HC2 HF2
        obtain ⟨t, ht⟩ : ∃ t, t = a + O := ⟨_, rfl⟩
        have z7 : (a : Int) + (O : Int) = (t : Int) := by omega
        have hta : a ≤ t := by omega
        have htb : t < b := by omega
        have hmi : i < dk.size := by omega
        have hmt : t < dk.size := by omega
        have hni : i < d.size := by omega
        have hnt : t < d.size := by omega
        obtain ⟨x1, vx1⟩ : ∃ x, x = dk[i]! := ⟨_, rfl⟩
        obtain ⟨x2, vx2⟩ : ∃ x, x = dk[t]! := ⟨_, rfl⟩
        have g1 := sw_cell S2 HR.out hk0 i hmi
        have g2 := sw_cell S2 HR.out hk0 t hmt
        have f1 := sw_frozen S2 HR.out hk0 i hmi
        have f2 := sw_frozen S2 HR.out hk0 t hmt
        obtain ⟨u, g3⟩ := sw_then S2 HR.out hk0 i t hmi hmt x2.val
        have HS3 := Lib.hid (sw_swap S2 HR.out i t hmi hmt)
        have HP3 := Lib.hid (permIn_swp HP.out hia hib hta htb (by omega))
        have HK := Lib.hid (box_kept_swap1 (W := w2) (blk := blk) Hne.out cR' fR' (off + i) (off + t) (.int .i64 (x2.val : Nat)) (.int .i64 (x1.val : Nat)))
        rw [← vx1] at g1
        rw [← vx2] at g2
        rw [← vx1, ← vx2] at HS3
        clear S2 vx1 vx2 cR' fR' ht
        go_wp2_with fail
        go_region
        go_wp2_with fail
        go_roundw
        case rel => exact ⟨i + 1, R', Go.Sort.swp dk i t, by go_num, by omega, by omega, by rw [Go.Sort.size_swp]; exact hsk, lR', HP3.out, HS3.out, HK.out.1, HK.out.2⟩
        case measure => (simp [intOf] <;> omega)
    · have d1 : decide ((i : Int) ≤ (m2 : Int)) = false := decide_eq_false (by omega)
      have d1n : decide (i ≤ m2) = false := decide_eq_false hlt
      have HS1 := Lib.hid S1
      clear S1
      go_wp2_with fail
      go_end0
      exact ⟨rfl, dk, hsk, HP.out, HS1.out⟩

end Go.Proofs.Ytglcideecelemaa
