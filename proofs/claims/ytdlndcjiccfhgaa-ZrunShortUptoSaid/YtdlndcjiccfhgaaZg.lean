/- The law ZrunBack, walked over what is asked of the code's functions. -/
import Derived.Test.YtdlndcjiccfhgaaZf
namespace Go.Proofs.Ytdlndcjiccfhgaa
open Go.RowKit

theorem enc_good (n : Nat) (L : List Int) (h1 : 1 ≤ n) (h2 : n ≤ 256) (hv : ∀ x ∈ L, 0 ≤ x ∧ x < (n : Int)) : encAns n L = (encZ n 0 (L.map Int.toNat), 0) := by
  unfold encAns
  rw [if_neg (by omega), if_pos hv, Int.toNat_natCast]
theorem enc_cases (n : Int) (L : List Int) : (∃ k : Nat, n = k ∧ 1 ≤ k ∧ k ≤ 256 ∧ ∀ x ∈ L, 0 ≤ x ∧ x < (k : Int)) ∨ ∃ c, encAns n L = ([], c) ∧ c ≠ 0 := by
  by_cases h : n < 1 ∨ 256 < n
  · exact .inr ⟨2, if_pos h, by decide⟩
  · by_cases hv : ∀ x ∈ L, 0 ≤ x ∧ x < n
    · refine .inl ⟨n.toNat, by omega, by omega, by omega, fun x hx => ?_⟩
      have := hv x hx
      omega
    · refine .inr ⟨60, ?_, by decide⟩
      unfold encAns
      rw [if_neg h, if_neg hv]
theorem dec_back (n : Nat) (Ln : List Nat) (h1 : 1 ≤ n) (h2 : n ≤ 256) (hv : ∀ x ∈ Ln, x < n) (most : Nat) (hm : most ≤ 262144) : decAns n most (ints (encZ n 0 Ln)) = if Ln.length ≤ most then (Ln, 0) else ([], 3) := by
  unfold decAns
  rw [if_neg (by omega), Int.toNat_natCast, Int.toNat_natCast, dec_enc n most h1 Ln 0 [] hv (Nat.zero_le _)]
  simp
theorem ints_of_zin {w : World} {A : Option Addr} {m : Nat} {L : List Int} (h : ZIn w A m L) (hv : ∀ x ∈ L, 0 ≤ x) : IntsIn w A m (L.map Int.toNat) := by
  refine ⟨by rw [List.length_map]; exact h.1, fun hm => ?_⟩
  obtain ⟨b, off, rfl, hc⟩ := h.2 hm
  refine ⟨b, off, rfl, fun i hi => ?_⟩
  have hiL : i < L.length := by rw [h.1]; exact hi
  rw [hc i hi, List.getD_eq_getElem?_getD, List.getD_eq_getElem?_getD, List.getElem?_map, List.getElem?_eq_getElem (by rw [h.1]; exact hi)]
  have h0 := hv (L[i]'hiL) (List.getElem_mem _)
  show some (Value.int .i64 (L[i]'hiL)) = some (.int .i64 (((L[i]'hiL).toNat : Nat) : Int))
  rw [Int.toNat_of_nonneg h0]

section
variable (R : ZrunDone)
include R

set_option maxRecDepth 100000 in
theorem back_out (w : World) (n most : Int) (A : Option Addr) (m c : Nat) (hbig : 5000 < m) (hmx : m ≤ maxLen) : Calls Try.prog 6 #[.int .i64 n, .slice A m c, .int .i64 most] w fun e w' => e = .returned (.bool true) ∧ Below w.heap.size w w' := by
  unfold maxLen at hmx
  have HAW := Lib.hid (awake_any R)
  have d0 : decide ((5000 : Int) < (m : Int)) = true := decide_eq_true (by omega)
  go_enter Try.func6, Try.ntmps6
  go_wp2_with fail
  refine (HAW.out w).mono ?_
  rintro e w1 ⟨rfl, hb⟩
  have HB := Lib.hid hb
  clear hb
  go_wp2_with fail
  go_ret
  exact ⟨rfl, HB.out⟩

set_option maxHeartbeats 1600000 in
set_option maxRecDepth 100000 in
theorem back_bad (w : World) (n most : Int) (A : Option Addr) (m c : Nat) (L : List Int) (h1 : -9223372036854775808 ≤ n) (h2 : n ≤ 9223372036854775807) (hz : ZIn w A m L) (hmc : m ≤ c) (hm : m ≤ 5000) (k : Nat) (hans : encAns n L = ([], k)) (hk : k ≠ 0) : Calls Try.prog 6 #[.int .i64 n, .slice A m c, .int .i64 most] w fun e w' => e = .returned (.bool true) ∧ Below w.heap.size w w' := by
  have HAW := Lib.hid (awake_any R)
  have d0 : decide ((5000 : Int) < (m : Int)) = false := decide_eq_false (by omega)
  have HA := Lib.hid (R.enc w A m c L n hz hmc (by omega) h1 h2)
  rw [hans] at HA
  have dk : ((k : Int) == 0) = false := by
    rw [beq_eq_false_iff_ne]
    omega
  clear hz hans
  go_enter Try.func6, Try.ntmps6
  go_wp2_with fail
  refine HA.out.mono ?_
  intro e w1 h
  obtain ⟨A1, c1, rfl, _, hi1, hb1⟩ := list_slice h
  dsimp only [List.length_nil]
  have HB1 := Lib.hid hb1
  clear h hi1 hb1
  go_wp2_with fail
  refine (HAW.out w1).mono ?_
  rintro e w5 ⟨rfl, hb5⟩
  have HB5 := Lib.hid (HB1.out.trans (hb5.mono HB1.out.size))
  clear hb5
  go_wp2_with fail
  go_ret
  exact ⟨rfl, HB5.out⟩

set_option maxHeartbeats 1600000 in
set_option maxRecDepth 100000 in
theorem back_good (w : World) (n : Nat) (most : Int) (A : Option Addr) (m c : Nat) (L : List Int) (hn1 : 1 ≤ n) (hn2 : n ≤ 256) (hz : ZIn w A m L) (hmc : m ≤ c) (hm : m ≤ 5000) (hv : ∀ x ∈ L, 0 ≤ x ∧ x < (n : Int)) (h3 : -9223372036854775808 ≤ most) (h4 : most ≤ 9223372036854775807) : Calls Try.prog 6 #[.int .i64 n, .slice A m c, .int .i64 most] w fun e w' => e = .returned (.bool true) ∧ Below w.heap.size w w' := by
  have HAW := Lib.hid (awake_any R)
  have d0 : decide ((5000 : Int) < (m : Int)) = false := decide_eq_false (by omega)
  have HA := Lib.hid (R.enc w A m c L n hz hmc (by omega) (by omega) (by omega))
  rw [enc_good n L hn1 hn2 hv] at HA
  obtain ⟨Ln, hLn⟩ : ∃ Ln, Ln = L.map Int.toNat := ⟨_, rfl⟩
  have hlen : Ln.length = m := by rw [hLn, List.length_map]; exact hz.1
  have hvn : ∀ x ∈ Ln, x < n := by
    intro x hx
    rw [hLn] at hx
    obtain ⟨y, hy, rfl⟩ := List.mem_map.1 hx
    have := hv y hy
    omega
  have hil : IntsIn w A m Ln := by rw [hLn]; exact ints_of_zin hz fun x hx => (hv x hx).1
  have hel := enc_length n Ln 0
  rw [← hLn] at HA
  have hD1 := dec_back n Ln hn1 hn2 hvn m (by omega)
  rw [if_pos (by omega)] at hD1
  have hD2 : ∀ j : Nat, j < m → decAns n j (ints (encZ n 0 Ln)) = ([], 3) := fun j hj => by
    rw [dec_back n Ln hn1 hn2 hvn j (by omega), if_neg (by omega)]
  obtain ⟨S, hS⟩ : ∃ S, S = encZ n 0 Ln := ⟨_, rfl⟩
  rw [← hS] at HA hel hD1 hD2
  have HIL := Lib.hid hil
  have HD1 := Lib.hid hD1
  have HD2 := Lib.hid hD2
  obtain ⟨k, hk⟩ : ∃ k, k = S.length := ⟨_, rfl⟩
  have HK := Lib.hid hk
  have hkm : k ≤ 5001 := by omega
  have HLEN := Lib.hid hlen
  clear hz hv hLn hvn hil hel hD1 hD2 hS hk hlen
  go_enter Try.func6, Try.ntmps6
  go_wp2_with fail
  refine HA.out.mono ?_
  intro e w1 h
  obtain ⟨A1, c1, rfl, hc1, hi1, hb1⟩ := list_slice h
  dsimp only at hi1 hc1 ⊢
  rw [← HK.out] at hi1 hc1 ⊢
  have HI1 := Lib.hid hi1
  have HB1 := Lib.hid hb1
  have HIL1 := Lib.hid (ints_low HIL.out hb1)
  have HA2 := Lib.hid (R.dec w1 A1 k c1 (ints S) n m (zin_of hi1) hc1 (by omega) (by omega) (by omega) (by omega) (by omega))
  rw [HD1.out] at HA2
  clear h hi1 hb1
  go_wp2_with fail
  refine HA2.out.mono ?_
  intro e w2 h
  obtain ⟨A2, c2, rfl, _, hi2, hb2⟩ := list_slice h
  dsimp only at hi2 ⊢
  rw [HLEN.out] at hi2 ⊢
  have HS := Lib.hid (ints_same w2 A2 A m c2 c Ln hi2 (ints_low HIL1.out hb2) (by omega))
  have HB2 := Lib.hid (HB1.out.trans (hb2.mono HB1.out.size))
  have HI12 := Lib.hid (ints_low HI1.out hb2)
  clear h hi2 hb2
  by_cases e1 : most < 0 ∨ (m : Int) ≤ most
  · by_cases e2 : most < 0
    · have d5 : decide (most < 0) = true := decide_eq_true e2
      clear e1
      go_wp2_with fail
      refine HS.out.mono ?_
      rintro e w3 ⟨rfl, m3, rfl⟩
      have HB3 := Lib.hid (below_drewN HB2.out m3)
      generalize w2.drewN m3 = w4 at *
      go_wp2_with fail
      refine (HAW.out w4).mono ?_
      rintro e w5 ⟨rfl, hb5⟩
      have HB5 := Lib.hid (HB3.out.trans (hb5.mono HB3.out.size))
      clear hb5
      go_wp2_with fail
      go_ret
      exact ⟨rfl, HB5.out⟩
    · have d5 : decide (most < 0) = false := decide_eq_false e2
      have e3 : (m : Int) ≤ most := e1.resolve_left e2
      have d6 : decide ((m : Int) ≤ most) = true := decide_eq_true e3
      clear e1
      go_wp2_with fail
      refine HS.out.mono ?_
      rintro e w3 ⟨rfl, m3, rfl⟩
      have HB3 := Lib.hid (below_drewN HB2.out m3)
      generalize w2.drewN m3 = w4 at *
      go_wp2_with fail
      refine (HAW.out w4).mono ?_
      rintro e w5 ⟨rfl, hb5⟩
      have HB5 := Lib.hid (HB3.out.trans (hb5.mono HB3.out.size))
      clear hb5
      go_wp2_with fail
      go_ret
      exact ⟨rfl, HB5.out⟩
  · obtain ⟨j, rfl⟩ : ∃ j : Nat, most = j := ⟨most.toNat, by omega⟩
    have d5 : decide ((j : Int) < 0) = false := decide_eq_false (by omega)
    have hjm : j < m := by omega
    have hmj : ¬ m ≤ j := by omega
    have d6 : decide ((m : Int) ≤ (j : Int)) = false := decide_eq_false (by omega)
    clear e1
    go_wp2_with fail
    refine HS.out.mono ?_
    rintro e w3 ⟨rfl, m3, rfl⟩
    have HB3 := Lib.hid (below_drewN HB2.out m3)
    have hi3 : IntsIn (w2.drewN m3) A1 k S := HI12.out
    have HI3 := Lib.hid hi3
    clear hi3
    generalize w2.drewN m3 = w4 at *
    have HA3 := Lib.hid (R.dec w4 A1 k c1 (ints S) n j (zin_of HI3.out) hc1 (by omega) (by omega) (by omega) (by omega) (by omega))
    rw [HD2.out j hjm] at HA3
    go_wp2_with fail
    refine HA3.out.mono ?_
    intro e w5 h
    obtain ⟨A5, c5, rfl, _, hi5, hb5⟩ := list_slice h
    dsimp only [List.length_nil]
    have HB5 := Lib.hid (HB3.out.trans (hb5.mono HB3.out.size))
    clear h hi5 hb5
    go_wp2_with fail
    refine (HAW.out w5).mono ?_
    rintro e w6 ⟨rfl, hb6⟩
    have HB6 := Lib.hid (HB5.out.trans (hb6.mono HB5.out.size))
    clear hb6
    go_wp2_with fail
    go_ret
    exact ⟨rfl, HB6.out⟩

theorem back_walk (w : World) (n most : Int) (A : Option Addr) (m c : Nat) (L : List Int) (h1 : -9223372036854775808 ≤ n) (h2 : n ≤ 9223372036854775807) (hz : ZIn w A m L) (hmc : m ≤ c) (hmx : m ≤ maxLen) (h3 : -9223372036854775808 ≤ most) (h4 : most ≤ 9223372036854775807) : Calls Try.prog 6 #[.int .i64 n, .slice A m c, .int .i64 most] w fun e w' => e = .returned (.bool true) ∧ Below w.heap.size w w' := by
  by_cases hbig : 5000 < m
  · exact back_out R w n most A m c hbig hmx
  · rcases enc_cases n L with ⟨k, rfl, hk1, hk2, hv⟩ | ⟨k, hans, hk⟩
    · exact back_good R w k most A m c L hk1 hk2 hz hmc (by omega) hv h3 h4
    · exact back_bad R w n most A m c L h1 h2 hz hmc (by omega) k hans hk
end

end Go.Proofs.Ytdlndcjiccfhgaa
