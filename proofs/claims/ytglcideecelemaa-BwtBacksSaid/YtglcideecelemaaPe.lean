/- The sort, by a method value: the heap. -/
import Derived.Test.YtglcideecelemaaPb
import Derived.Sort.WalkB3
namespace Go.Proofs.Ytglcideecelemaa
open Go.RowKit

set_option maxHeartbeats 4000000 in
set_option maxRecDepth 100000 in
theorem heap_any (k : Nat) (r : Value) (cf : Fin (k + 1) → Fin (k + 1) → Int) (blk off cap a b : Nat) (d0 d : Array (Fin (k + 1))) (w0 w : World)
    (C : CmpMv r cf blk off d0.size w0) (R : Row1 encF w0 blk off d0) (hs : d0.size = d.size) (S : SW encF w0 blk off d w) (hab : a + 2 ≤ b) (hb : b ≤ d.size) (hsz : d.size ≤ 1000000000) :
    Calls Try.prog 40 #[.slice (some ⟨blk, off, none⟩) d.size cap, .int .i64 a, .int .i64 b, .func (.func 30) #[r] #[]] w fun e w' => e = .returned (.tuple #[]) ∧ SW encF w0 blk off (Go.Sort.heapSort (ltOf cf) d a b) w' := by
  have HC := Lib.hid C
  have HR := Lib.hid R
  have HS := Lib.hid S
  clear C R S
  obtain ⟨n, hn⟩ : ∃ n, n = b - a := ⟨_, rfl⟩
  have zn : (b : Int) - (a : Int) = (n : Int) := by omega
  have hnb : a + n ≤ d.size := by omega
  have hn2 : 2 ≤ n := by omega
  have HN := Lib.hid hn
  clear hn
  go_enter Try.func40, Try.ntmps40
  go_wp2_with fail
  go_loopw [11] (fun x wr => ∃ (c : Nat) (z : Int) (dk : Array (Fin (k + 1))), x = .int .i64 z ∧ z = (c : Int) - 1 ∧ c ≤ (n - 1) / 2 + 1 ∧ dk.size = d.size ∧ SW encF w0 blk off dk wr ∧ Go.Sort.heapBuild (ltOf cf) n a c dk = Go.Sort.heapBuild (ltOf cf) n a ((n - 1) / 2 + 1) d) (fun x _ => (intOf x + 1).toNat)
  case atStart => exact ⟨(n - 1) / 2 + 1, _, d, rfl, by omega, Nat.le_refl _, rfl, HS.out, rfl⟩
  case round =>
    obtain ⟨c, z, dk, rfl, hz, hc, hsk, S1, HE0⟩ := hrel
    have HE := Lib.hid HE0
    clear HE0
    have hk0 : d0.size = dk.size := by omega
    rcases Nat.eq_zero_or_pos c with h0 | h0
    · obtain rfl : z = -1 := by omega
      subst h0
      have HE1 : Hid (dk = Go.Sort.heapBuild (ltOf cf) n a ((n - 1) / 2 + 1) d) := HE.out
      have HS1 := Lib.hid S1
      clear S1 hz
      go_wp2_with fail
      go_loopw [12] (fun x wr => ∃ (c : Nat) (z : Int) (dj : Array (Fin (k + 1))), x = .int .i64 z ∧ z = (c : Int) - 1 ∧ c ≤ n ∧ dj.size = d.size ∧ SW encF w0 blk off dj wr ∧ Go.Sort.heapPop (ltOf cf) a c dj = Go.Sort.heapPop (ltOf cf) a n dk) (fun x _ => (intOf x + 1).toNat)
      case atStart => exact ⟨n, _, dk, rfl, by omega, Nat.le_refl _, hsk, HS1.out, rfl⟩
      case round =>
        obtain ⟨c, z, dj, rfl, hz, hc, hsj, S2, HF0⟩ := hrel
        have HF := Lib.hid HF0
        clear HF0
        have hk0 : dj.size = d0.size := by omega
        rcases Nat.eq_zero_or_pos c with h0 | h0
        · obtain rfl : z = -1 := by omega
          subst h0
          have HX : Hid (Go.Sort.heapSort (ltOf cf) d a b = dj) := by
            show _ = _
            unfold Go.Sort.heapSort
            rw [← HN.out, ← HE1.out, ← HF.out]
            exact rfl
          have HS2 := Lib.hid S2
          clear S2 hz
          go_wp2_with fail
          go_end0
          exact ⟨rfl, by rw [HX.out]; exact HS2.out⟩
        · obtain ⟨c1, rfl⟩ : ∃ c1, c = c1 + 1 := ⟨c - 1, by omega⟩
          obtain rfl : z = (c1 : Int) := by omega
          obtain ⟨q, hq⟩ : ∃ q, q = a + c1 := ⟨_, rfl⟩
          have zq : (a : Int) + (c1 : Int) = (q : Int) := by omega
          have hnq : q < d.size := by omega
          have hmq : q < dj.size := by omega
          have hna : a < d.size := by omega
          have hma : a < dj.size := by omega
          have hqs : a + c1 ≤ (Go.Sort.swp dj a q).size := by rw [Go.Sort.size_swp]; omega
          have hq0 : (0 : Nat) ≤ c1 := Nat.zero_le _
          have hss : (Go.Sort.swp dj a q).size = d.size := by rw [Go.Sort.size_swp]; exact hsj
          have HQ := Lib.hid hq
          clear hq hz
          obtain ⟨x1, vx1⟩ : ∃ x, x = dj[a]! := ⟨_, rfl⟩
          have Vx1 := Lib.hid vx1
          clear vx1
          obtain ⟨x2, vx2⟩ : ∃ x, x = dj[q]! := ⟨_, rfl⟩
          have Vx2 := Lib.hid vx2
          clear vx2
          have g1 := sw_cell S2 HR.out hk0 (a) hma
          rw [← Vx1.out] at g1
          have g2 := sw_cell S2 HR.out hk0 (q) hmq
          rw [← Vx2.out] at g2
          have f1 := sw_frozen S2 HR.out hk0 (a) hma
          have f2 := sw_frozen S2 HR.out hk0 (q) hmq
          obtain ⟨u, g3⟩ := sw_then S2 HR.out hk0 (a) (q) hma hmq (x2).val
          have HS3 := Lib.hid (sw_swap S2 HR.out (a) (q) hma hmq)
          rw [← Vx1.out, ← Vx2.out] at HS3
          have HSIFT := Lib.hid fun (w1 : World) (S3 : SW encF w0 blk off (Go.Sort.swp dj a q) w1) => sift_any k r cf blk off cap 0 c1 a d0 (Go.Sort.swp dj a q) w0 w1 HC.out HR.out (by rw [hss]; exact hs) S3 hq0 hqs (by rw [hss]; exact hsz)
          rw [hss] at HSIFT
          have HG : Hid (Go.Sort.heapPop (ltOf cf) a c1 (Go.Sort.siftDown (ltOf cf) c1 a 0 (Go.Sort.swp dj a q)) = Go.Sort.heapPop (ltOf cf) a n dk) := by
            show _ = _
            rw [← HF.out, HQ.out]
            exact rfl
          clear S2 hqs
          go_wp2_with fail
          go_region
          go_wp2_with fail
          refine (HSIFT.out _ HS3.out).mono ?_
          rintro e w4 ⟨rfl, S4⟩
          have HS4 := Lib.hid S4
          clear S4
          go_wp2_with fail
          go_roundw
          case rel => exact ⟨c1, _, _, rfl, rfl, by omega, by rw [Go.Sort.size_siftDown (ltOf cf) _ _ _ _ _ (Nat.le_refl _)]; exact hss, HS4.out, HG.out⟩
          case measure => (simp [intOf] <;> omega)
    · obtain ⟨c1, rfl⟩ : ∃ c1, c = c1 + 1 := ⟨c - 1, by omega⟩
      obtain rfl : z = (c1 : Int) := by omega
      have HSIFT := Lib.hid (sift_any k r cf blk off cap c1 n a d0 dk w0 wr HC.out HR.out hk0 S1 (by omega) (by omega) (by omega))
      rw [hsk] at HSIFT
      have HG : Hid (Go.Sort.heapBuild (ltOf cf) n a c1 (Go.Sort.siftDown (ltOf cf) n a c1 dk) = Go.Sort.heapBuild (ltOf cf) n a ((n - 1) / 2 + 1) d) := by
        show _ = _
        rw [← HE.out]
        exact rfl
      clear S1 hz
      go_wp2_with fail
      refine HSIFT.out.mono ?_
      rintro e w4 ⟨rfl, S4⟩
      have HS4 := Lib.hid S4
      clear S4
      go_wp2_with fail
      go_roundw
      case rel => exact ⟨c1, _, _, rfl, rfl, by omega, by rw [Go.Sort.size_siftDown (ltOf cf) _ _ _ _ _ (Nat.le_refl _)]; exact hsk, HS4.out, HG.out⟩
      case measure => (simp [intOf] <;> omega)

end Go.Proofs.Ytglcideecelemaa
