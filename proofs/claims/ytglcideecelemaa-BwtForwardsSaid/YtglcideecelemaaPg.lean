/- The sort, by a method value: a pivot chosen, whichever it is. -/
import Derived.Test.YtglcideecelemaaPf
import Derived.Deep.LoopGhost
namespace Go.Proofs.Ytglcideecelemaa
open Go.RowKit

section
variable {k : Nat} {r : Value} {cf : Fin (k + 1) → Fin (k + 1) → Int} {blk off cap : Nat} {d0 d : Array (Fin (k + 1))} {w0 w : World}

def PivPost (w0 : World) (blk off : Nat) (d : Array (Fin (k + 1))) (a b : Nat) (e : Ending) (w' : World) : Prop :=
  ∃ (p h : Nat), e = .returned (.tuple #[.int .i64 p, .int .i64 h]) ∧ a ≤ p ∧ p < b ∧ SW encF w0 blk off d w'

set_option maxHeartbeats 2000000 in
set_option maxRecDepth 100000 in
theorem pivot_any (C : CmpMv r cf blk off d0.size w0) (R : Row1 encF w0 blk off d0) (hs : d0.size = d.size) (S : SW encF w0 blk off d w) (a b : Nat) (hab : a + 12 < b) (hb : b ≤ d.size) (hsz : d.size ≤ 1000000000) :
    Calls Try.prog 42 #[.slice (some ⟨blk, off, none⟩) d.size cap, .int .i64 a, .int .i64 b, .func (.func 30) #[r] #[]] w (PivPost w0 blk off d a b) := by
  have HC0 := Lib.hid fun T => Cnt1.start S T
  have HM := Lib.hid fun (x y z s : Nat) (w1 : World) (T : Cnt1 encF w0 blk off d w.heap.size s w1) (hx : x < d.size) (hy : y < d.size) (hz : z < d.size) (h3 : s ≤ 900) => median_any (cap := cap) C R hs x y z w.heap.size s T hx hy hz hsz h3
  have HA := Lib.hid fun (x s : Nat) (w1 : World) (T : Cnt1 encF w0 blk off d w.heap.size s w1) (h1 : 1 ≤ x) (h2 : x + 1 < d.size) (h3 : s ≤ 900) => adjacent_any (cap := cap) C R hs x w.heap.size s T h1 h2 hsz h3
  clear C R hs S
  obtain ⟨n, hn⟩ : ∃ x, x = b - a := ⟨_, rfl⟩
  obtain ⟨q, hq⟩ : ∃ x, x = n / 4 := ⟨_, rfl⟩
  have z1 : (b : Int) - (a : Int) = (n : Int) := by omega
  have z2 : (n : Int) / 4 = (q : Int) := by omega
  obtain ⟨i, hi⟩ : ∃ x, x = a + q := ⟨_, rfl⟩
  obtain ⟨j, hj⟩ : ∃ x, x = a + q * 2 := ⟨_, rfl⟩
  obtain ⟨l, hl⟩ : ∃ x, x = a + q * 3 := ⟨_, rfl⟩
  have z3 : (a : Int) + (q : Int) = (i : Int) := by omega
  have z4 : (a : Int) + (q : Int) * 2 = (j : Int) := by omega
  have z5 : (a : Int) + (q : Int) * 3 = (l : Int) := by omega
  have r1 : a + 1 ≤ i := by omega
  have r2 : i + 1 < b := by omega
  have r3 : a + 1 ≤ j := by omega
  have r4 : j + 1 < b := by omega
  have r5 : a + 1 ≤ l := by omega
  have r6 : l + 1 < b := by omega
  have d8 : decide ((8 : Int) ≤ (n : Int)) = true := decide_eq_true (by omega)
  have q8 : q ≤ 1000000000 := by omega
  have q9 : n ≤ 1000000000 := by omega
  clear hq hi hj hl hn
  by_cases h50 : 50 ≤ n
  · have d50 : decide ((50 : Int) ≤ (n : Int)) = true := decide_eq_true (by omega)
    go_enter Try.func42, Try.ntmps42
    go_wp2_with fail
    refine (HA.out i 0 _ (HC0.out _) (by omega) (by omega) (by omega)).mono ?_
    rintro e w1 ⟨x1, s1, rfl, h1, hs1, T1⟩
    have rx1 : a ≤ x1 := by omega
    have rx2 : x1 < b := by omega
    have HT1 := Lib.hid T1
    clear T1 h1
    go_wp2_with fail
    refine (HA.out j s1 w1 HT1.out (by omega) (by omega) (by omega)).mono ?_
    rintro e w2 ⟨x2, s2, rfl, h2, hs2, T2⟩
    have ry1 : a ≤ x2 := by omega
    have ry2 : x2 < b := by omega
    have HT2 := Lib.hid T2
    clear T2 h2
    go_wp2_with fail
    refine (HA.out l s2 w2 HT2.out (by omega) (by omega) (by omega)).mono ?_
    rintro e w3 ⟨x3, s3, rfl, h3, hs3, T3⟩
    have rz1 : a ≤ x3 := by omega
    have rz2 : x3 < b := by omega
    have HT3 := Lib.hid T3
    clear T3 h3
    go_wp2_with fail
    refine (HM.out x1 x2 x3 s3 w3 HT3.out (by omega) (by omega) (by omega) (by omega)).mono ?_
    rintro e w4 ⟨p, s, rfl, hp, hs4, T4⟩
    have rp1 : a ≤ p := by omega
    have rp2 : p < b := by omega
    have g1 := T4.2.1
    have HS4 := Lib.hid T4.1
    clear T4 hp hs4
    by_cases hs0 : s = 0
    · subst hs0
      go_wp2_with fail
      go_ret2
      exact ⟨p, 1, rfl, rp1, rp2, HS4.out⟩
    · have e0 : ((s : Int) == 0) = false := by simp; omega
      by_cases hs12 : s = 12
      · subst hs12
        go_wp2_with fail
        go_ret2
        exact ⟨p, 2, rfl, rp1, rp2, HS4.out⟩
      · have e1 : ((s : Int) == 12) = false := by simp; omega
        clear hs0 hs12
        go_wp2_with fail
        go_ret2
        exact ⟨p, 0, rfl, rp1, rp2, HS4.out⟩
  · have d50 : decide ((50 : Int) ≤ (n : Int)) = false := decide_eq_false (by omega)
    go_enter Try.func42, Try.ntmps42
    go_wp2_with fail
    refine (HM.out i j l 0 _ (HC0.out _) (by omega) (by omega) (by omega) (by omega)).mono ?_
    rintro e w4 ⟨p, s, rfl, hp, hs4, T4⟩
    have rp1 : a ≤ p := by omega
    have rp2 : p < b := by omega
    have g1 := T4.2.1
    have HS4 := Lib.hid T4.1
    clear T4 hp hs4
    by_cases hs0 : s = 0
    · subst hs0
      go_wp2_with fail
      go_ret2
      exact ⟨p, 1, rfl, rp1, rp2, HS4.out⟩
    · have e0 : ((s : Int) == 0) = false := by simp; omega
      by_cases hs12 : s = 12
      · subst hs12
        go_wp2_with fail
        go_ret2
        exact ⟨p, 2, rfl, rp1, rp2, HS4.out⟩
      · have e1 : ((s : Int) == 12) = false := by simp; omega
        clear hs0 hs12
        go_wp2_with fail
        go_ret2
        exact ⟨p, 0, rfl, rp1, rp2, HS4.out⟩
end

end Go.Proofs.Ytglcideecelemaa
