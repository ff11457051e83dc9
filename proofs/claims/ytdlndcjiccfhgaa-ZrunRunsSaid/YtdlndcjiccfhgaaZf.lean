/- The laws ZrunRuns, ZrunEncodes, ZrunDecodes, walked over what is asked of the code's functions. -/
import Derived.Test.YtdlndcjiccfhgaaZe
namespace Go.Proofs.Ytdlndcjiccfhgaa
open Go.RowKit

section
variable (R : ZrunDone)
include R

set_option maxHeartbeats 1600000 in
set_option maxRecDepth 100000 in
theorem runs_walk (w : World) (k : Int) (h1 : -9223372036854775808 ≤ k) (h2 : k ≤ 9223372036854775807) : Calls Try.prog 3 #[.int .i64 k] w fun e w' => e = .returned (.bool true) ∧ Below w.heap.size w w' := by
  have HAW := Lib.hid (awake_any R)
  have HA := Lib.hid (R.run w k h1 h2)
  have HR := Lib.hid fun w1 : World => rrun_all w1 k
  have hl := runAns_length k
  generalize runAns k = ans at *
  obtain ⟨L, c⟩ := ans
  have hL : L.length ≤ 31 := hl
  obtain ⟨n, hn⟩ : ∃ n, n = L.length := ⟨_, rfl⟩
  have HN := Lib.hid hn
  clear hl hn
  go_enter Try.func3, Try.ntmps3
  go_wp2_with fail
  refine HA.out.mono ?_
  intro e w1 h
  obtain ⟨A1, c1, rfl, _, hi1, hb1⟩ := list_slice h
  dsimp only at hi1 ⊢
  rw [← HN.out] at hi1 hL ⊢
  have HI1 := Lib.hid hi1
  have HB1 := Lib.hid hb1
  clear h hi1 hb1
  go_wp2_with fail
  refine (HR.out w1).mono ?_
  intro e w2 h
  obtain ⟨A2, c2, rfl, _, hi2, hb2⟩ := list_slice h
  dsimp only at hi2 ⊢
  rw [← HN.out] at hi2 ⊢
  have HS := Lib.hid (ints_same w2 A1 A2 n c1 c2 L (ints_low HI1.out hb2) hi2 (by omega))
  have HB2 := Lib.hid (HB1.out.trans (hb2.mono HB1.out.size))
  clear h hi2 hb2
  have dc : ((c : Int) == (c : Int)) = true := beq_self_eq_true _
  go_wp2_with fail
  refine HS.out.mono ?_
  rintro e w3 ⟨rfl, m3, rfl⟩
  have HB3 := Lib.hid (below_drewN HB2.out m3)
  generalize w2.drewN m3 = w4 at *
  go_wp2_with fail
  refine (HAW.out w4).mono ?_
  rintro e w5 ⟨rfl, hb5⟩
  have HB5 := Lib.hid (HB3.out.trans (hb5.mono HB3.out.size))
  clear hb5
  go_wp2_with fail
  go_ret
  exact ⟨rfl, HB5.out⟩

set_option maxHeartbeats 1600000 in
set_option maxRecDepth 100000 in
theorem encodes_walk (w : World) (n : Int) (A : Option Addr) (m c : Nat) (L : List Int) (h1 : -9223372036854775808 ≤ n) (h2 : n ≤ 9223372036854775807) (hz : ZIn w A m L) (hmc : m ≤ c) (hmx : m ≤ maxLen) : Calls Try.prog 4 #[.int .i64 n, .slice A m c] w fun e w' => e = .returned (.bool true) ∧ Below w.heap.size w w' := by
  unfold maxLen at hmx
  have HAW := Lib.hid (awake_any R)
  by_cases hbig : 5000 < m
  · have d0 : decide ((5000 : Int) < (m : Int)) = true := decide_eq_true (by omega)
    clear hz
    go_enter Try.func4, Try.ntmps4
    go_wp2_with fail
    refine (HAW.out w).mono ?_
    rintro e w1 ⟨rfl, hb⟩
    have HB := Lib.hid hb
    clear hb
    go_wp2_with fail
    go_ret
    exact ⟨rfl, HB.out⟩
  · have d0 : decide ((5000 : Int) < (m : Int)) = false := decide_eq_false (by omega)
    have HA := Lib.hid (R.enc w A m c L n hz hmc (by omega) h1 h2)
    have HR := Lib.hid fun (w1 : World) (h : ZIn w1 A m L) => renc_all w1 A m c L n h hmc (by omega)
    have hl := encAns_length n L
    rw [hz.1] at hl
    have HZ := Lib.hid hz
    generalize encAns n L = ans at *
    obtain ⟨La, ca⟩ := ans
    have hL : La.length ≤ m + 1 := hl
    obtain ⟨k, hk⟩ : ∃ k, k = La.length := ⟨_, rfl⟩
    have HN := Lib.hid hk
    clear hl hk hz
    go_enter Try.func4, Try.ntmps4
    go_wp2_with fail
    refine HA.out.mono ?_
    intro e w1 h
    obtain ⟨A1, c1, rfl, _, hi1, hb1⟩ := list_slice h
    dsimp only at hi1 ⊢
    rw [← HN.out] at hi1 hL ⊢
    have HI1 := Lib.hid hi1
    have HB1 := Lib.hid hb1
    have HR1 := Lib.hid (HR.out w1 (HZ.out.below hb1))
    clear h hi1 hb1 HR HZ
    go_wp2_with fail
    refine HR1.out.mono ?_
    intro e w2 h
    obtain ⟨A2, c2, rfl, _, hi2, hb2⟩ := list_slice h
    dsimp only at hi2 ⊢
    rw [← HN.out] at hi2 ⊢
    have HS := Lib.hid (ints_same w2 A1 A2 k c1 c2 La (ints_low HI1.out hb2) hi2 (by omega))
    have HB2 := Lib.hid (HB1.out.trans (hb2.mono HB1.out.size))
    clear h hi2 hb2
    have dc : ((ca : Int) == (ca : Int)) = true := beq_self_eq_true _
    go_wp2_with fail
    refine HS.out.mono ?_
    rintro e w3 ⟨rfl, m3, rfl⟩
    have HB3 := Lib.hid (below_drewN HB2.out m3)
    generalize w2.drewN m3 = w4 at *
    go_wp2_with fail
    refine (HAW.out w4).mono ?_
    rintro e w5 ⟨rfl, hb5⟩
    have HB5 := Lib.hid (HB3.out.trans (hb5.mono HB3.out.size))
    clear hb5
    go_wp2_with fail
    go_ret
    exact ⟨rfl, HB5.out⟩

set_option maxHeartbeats 1600000 in
set_option maxRecDepth 100000 in
theorem decodes_walk (w : World) (n most : Int) (A : Option Addr) (m c : Nat) (L : List Int) (h1 : -9223372036854775808 ≤ n) (h2 : n ≤ 9223372036854775807) (h3 : -9223372036854775808 ≤ most) (h4 : most ≤ 9223372036854775807) (hz : ZIn w A m L) (hmc : m ≤ c) (hmx : m ≤ maxLen) : Calls Try.prog 5 #[.int .i64 n, .int .i64 most, .slice A m c] w fun e w' => e = .returned (.bool true) ∧ Below w.heap.size w w' := by
  unfold maxLen at hmx
  have HAW := Lib.hid (awake_any R)
  by_cases hbig : 5000 < m
  · have d0 : decide ((5000 : Int) < (m : Int)) = true := decide_eq_true (by omega)
    clear hz
    go_enter Try.func5, Try.ntmps5
    go_wp2_with fail
    refine (HAW.out w).mono ?_
    rintro e w1 ⟨rfl, hb⟩
    have HB := Lib.hid hb
    clear hb
    go_wp2_with fail
    go_ret
    exact ⟨rfl, HB.out⟩
  · have d0 : decide ((5000 : Int) < (m : Int)) = false := decide_eq_false (by omega)
    by_cases hb2 : 5000 < most ∧ most ≤ 262144
    · have d1 : decide ((5000 : Int) < most) = true := decide_eq_true hb2.1
      have d2 : decide (most ≤ (262144 : Int)) = true := decide_eq_true hb2.2
      clear hz hb2
      go_enter Try.func5, Try.ntmps5
      go_wp2_with fail
      refine (HAW.out w).mono ?_
      rintro e w1 ⟨rfl, hb⟩
      have HB := Lib.hid hb
      clear hb
      go_wp2_with fail
      go_ret
      exact ⟨rfl, HB.out⟩
    · have HA := Lib.hid (R.dec w A m c L n most hz hmc (by omega) h1 h2 h3 h4)
      have HR := Lib.hid fun (w1 : World) (h : ZIn w1 A m L) => rdec_all w1 A m c L n most h hmc (by omega)
      have hl := decAns_length n most L
      have HZ := Lib.hid hz
      generalize decAns n most L = ans at *
      obtain ⟨La, ca⟩ := ans
      have hL : La.length ≤ 262144 := hl
      obtain ⟨k, hk⟩ : ∃ k, k = La.length := ⟨_, rfl⟩
      have HN := Lib.hid hk
      have rest : ∀ (K : Prop), K → K := fun _ h => h
      clear hl hk hz rest
      by_cases e1 : 5000 < most
      · have e2 : 262144 < most := by omega
        have d1 : decide ((5000 : Int) < most) = true := decide_eq_true e1
        have d2 : decide (most ≤ (262144 : Int)) = false := decide_eq_false (by omega)
        clear hb2
        go_enter Try.func5, Try.ntmps5
        go_wp2_with fail
        refine HA.out.mono ?_
        intro e w1 h
        obtain ⟨A1, c1, rfl, _, hi1, hb1⟩ := list_slice h
        dsimp only at hi1 ⊢
        rw [← HN.out] at hi1 hL ⊢
        have HI1 := Lib.hid hi1
        have HB1 := Lib.hid hb1
        have HR1 := Lib.hid (HR.out w1 (HZ.out.below hb1))
        clear h hi1 hb1 HR HZ
        go_wp2_with fail
        refine HR1.out.mono ?_
        intro e w2 h
        obtain ⟨A2, c2, rfl, _, hi2, hb2⟩ := list_slice h
        dsimp only at hi2 ⊢
        rw [← HN.out] at hi2 ⊢
        have HS := Lib.hid (ints_same w2 A1 A2 k c1 c2 La (ints_low HI1.out hb2) hi2 (by omega))
        have HB2 := Lib.hid (HB1.out.trans (hb2.mono HB1.out.size))
        clear h hi2 hb2
        have dc : ((ca : Int) == (ca : Int)) = true := beq_self_eq_true _
        go_wp2_with fail
        refine HS.out.mono ?_
        rintro e w3 ⟨rfl, m3, rfl⟩
        have HB3 := Lib.hid (below_drewN HB2.out m3)
        generalize w2.drewN m3 = w4 at *
        go_wp2_with fail
        refine (HAW.out w4).mono ?_
        rintro e w5 ⟨rfl, hb5⟩
        have HB5 := Lib.hid (HB3.out.trans (hb5.mono HB3.out.size))
        clear hb5
        go_wp2_with fail
        go_ret
        exact ⟨rfl, HB5.out⟩
      · have d1 : decide ((5000 : Int) < most) = false := decide_eq_false e1
        clear hb2
        go_enter Try.func5, Try.ntmps5
        go_wp2_with fail
        refine HA.out.mono ?_
        intro e w1 h
        obtain ⟨A1, c1, rfl, _, hi1, hb1⟩ := list_slice h
        dsimp only at hi1 ⊢
        rw [← HN.out] at hi1 hL ⊢
        have HI1 := Lib.hid hi1
        have HB1 := Lib.hid hb1
        have HR1 := Lib.hid (HR.out w1 (HZ.out.below hb1))
        clear h hi1 hb1 HR HZ
        go_wp2_with fail
        refine HR1.out.mono ?_
        intro e w2 h
        obtain ⟨A2, c2, rfl, _, hi2, hb2⟩ := list_slice h
        dsimp only at hi2 ⊢
        rw [← HN.out] at hi2 ⊢
        have HS := Lib.hid (ints_same w2 A1 A2 k c1 c2 La (ints_low HI1.out hb2) hi2 (by omega))
        have HB2 := Lib.hid (HB1.out.trans (hb2.mono HB1.out.size))
        clear h hi2 hb2
        have dc : ((ca : Int) == (ca : Int)) = true := beq_self_eq_true _
        go_wp2_with fail
        refine HS.out.mono ?_
        rintro e w3 ⟨rfl, m3, rfl⟩
        have HB3 := Lib.hid (below_drewN HB2.out m3)
        generalize w2.drewN m3 = w4 at *
        go_wp2_with fail
        refine (HAW.out w4).mono ?_
        rintro e w5 ⟨rfl, hb5⟩
        have HB5 := Lib.hid (HB3.out.trans (hb5.mono HB3.out.size))
        clear hb5
        go_wp2_with fail
        go_ret
        exact ⟨rfl, HB5.out⟩
end

end Go.Proofs.Ytdlndcjiccfhgaa
