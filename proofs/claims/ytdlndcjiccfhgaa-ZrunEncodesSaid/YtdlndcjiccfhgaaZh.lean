/- The law ZrunShort, walked over what is asked of the code's functions. Conditions: at most 1048576 places. -/
import Derived.Test.YtdlndcjiccfhgaaZg
namespace Go.Proofs.Ytdlndcjiccfhgaa
open Go.RowKit

section
variable (R : ZrunDone)
include R

set_option maxHeartbeats 1600000 in
set_option maxRecDepth 100000 in
theorem short_bad (w : World) (k n : Int) (A : Option Addr) (m c : Nat) (L : List Int) (hk1 : -9223372036854775808 ≤ k) (hk2 : k ≤ 9223372036854775807) (h1 : -9223372036854775808 ≤ n) (h2 : n ≤ 9223372036854775807) (hz : ZIn w A m L) (hmc : m ≤ c) (hm : m ≤ 1048576) (hr : k < 0 ∨ 2147483647 < k) (j : Nat) (hans : encAns n L = ([], j)) (hj : j ≠ 0) :
    Calls Try.prog 7 #[.int .i64 k, .int .i64 n, .slice A m c] w fun e w' => e = .returned (.bool true) ∧ Below w.heap.size w w' := by
  have HAW := Lib.hid (awake_any R)
  have HR := Lib.hid (R.run w k hk1 hk2)
  rw [show runAns k = ([], 2) from if_pos hr] at HR
  have HA := Lib.hid fun (w1 : World) (h : ZIn w1 A m L) => R.enc w1 A m c L n h hmc (by omega) h1 h2
  rw [hans] at HA
  have HZ := Lib.hid hz
  have dj : ((j : Int) == 0) = false := by
    rw [beq_eq_false_iff_ne]
    omega
  clear hz hans hr
  go_enter Try.func7, Try.ntmps7
  go_wp2_with fail
  refine HR.out.mono ?_
  intro e w1 h
  obtain ⟨A1, c1, rfl, _, hi1, hb1⟩ := list_slice h
  dsimp only [List.length_nil]
  have HB1 := Lib.hid hb1
  have HA1 := Lib.hid (HA.out w1 (HZ.out.below hb1))
  clear h hi1 hb1 HA
  go_wp2_with fail
  refine HA1.out.mono ?_
  intro e w2 h
  obtain ⟨A2, c2, rfl, _, hi2, hb2⟩ := list_slice h
  dsimp only [List.length_nil]
  have HB2 := Lib.hid (HB1.out.trans (hb2.mono HB1.out.size))
  clear h hi2 hb2
  go_wp2_with fail
  refine (HAW.out w2).mono ?_
  rintro e w5 ⟨rfl, hb5⟩
  have HB5 := Lib.hid (HB2.out.trans (hb5.mono HB2.out.size))
  clear hb5
  go_wp2_with fail
  go_ret
  exact ⟨rfl, HB5.out⟩


set_option maxHeartbeats 1600000 in
set_option maxRecDepth 100000 in
theorem short_okbad (w : World) (k : Nat) (n : Int) (A : Option Addr) (m c : Nat) (L : List Int) (hk : k ≤ 2147483647) (h1 : -9223372036854775808 ≤ n) (h2 : n ≤ 9223372036854775807) (hz : ZIn w A m L) (hmc : m ≤ c) (hm : m ≤ 1048576) (j : Nat) (hans : encAns n L = ([], j)) (hj : j ≠ 0) :
    Calls Try.prog 7 #[.int .i64 k, .int .i64 n, .slice A m c] w fun e w' => e = .returned (.bool true) ∧ Below w.heap.size w w' := by
  have HAW := Lib.hid (awake_any R)
  have HR := Lib.hid (R.run w k (by omega) (by omega))
  rw [show runAns (k : Int) = (dig k, 0) by unfold runAns; rw [if_neg (by omega), Int.toNat_natCast]] at HR
  have hbd := dig_bounds k
  have hrl := runAns_length k
  rw [show runAns (k : Int) = (dig k, 0) by unfold runAns; rw [if_neg (by omega), Int.toNat_natCast]] at hrl
  obtain ⟨N, hN⟩ : ∃ N, N = (dig k).length := ⟨_, rfl⟩
  have hN31 : N ≤ 31 := by rw [hN]; exact hrl
  rw [← hN] at hbd
  obtain ⟨P, hP⟩ : ∃ P : Nat, P = 2 ^ N := ⟨_, rfl⟩
  obtain ⟨Q, hQ⟩ : ∃ Q : Nat, Q = 2 ^ (N + 1) := ⟨_, rfl⟩
  rw [← hP, ← hQ] at hbd
  have hQP : Q = 2 * P := by rw [hQ, hP, Nat.pow_succ, Nat.mul_comm]
  have hPz : ((2 : Int) ^ N) = (P : Int) := by rw [hP]; simp
  have hQz : ((2 : Int) ^ (N + 1)) = (Q : Int) := by rw [hQ]; simp
  obtain ⟨k1, hk3⟩ : ∃ k1, k1 = k + 1 := ⟨_, rfl⟩
  have hkz : ((k : Int) + 1) = (k1 : Int) := by omega
  have hP1 : P ≤ k1 := by omega
  have hQ1 : k1 < Q := by omega
  have hk1b : k1 ≤ 2147483648 := by omega
  have hQb : Q ≤ 4294967296 := by omega
  have r0 : decide ((k : Int) < 0) = false := decide_eq_false (by omega)
  have r1 : decide ((31 : Int) < (N : Int)) = false := decide_eq_false (by omega)
  have r2 : decide ((k1 : Int) < (P : Int)) = false := decide_eq_false (by omega)
  have r3 : decide ((Q : Int) ≤ (k1 : Int)) = false := decide_eq_false (by omega)
  have hr1 : ¬ k1 < P := by omega
  have hr2 : ¬ Q ≤ k1 := by omega
  have HN := Lib.hid hN
  clear hbd hrl hN hP hQ hQP hk3
  have HA := Lib.hid fun (w1 : World) (h : ZIn w1 A m L) => R.enc w1 A m c L n h hmc (by omega) h1 h2
  rw [hans] at HA
  have HZ := Lib.hid hz
  have dj : ((j : Int) == 0) = false := by
    rw [beq_eq_false_iff_ne]
    omega
  clear hz hans
  go_enter Try.func7, Try.ntmps7
  go_wp2_with fail
  refine HR.out.mono ?_
  intro e w1 h
  obtain ⟨A1, c1, rfl, _, hi1, hb1⟩ := list_slice h
  dsimp only
  rw [← HN.out]
  have HB1 := Lib.hid hb1
  have HA1 := Lib.hid (HA.out w1 (HZ.out.below hb1))
  clear h hi1 hb1 HA
  go_wp2_with fail
  refine HA1.out.mono ?_
  intro e w2 h
  obtain ⟨A2, c2, rfl, _, hi2, hb2⟩ := list_slice h
  dsimp only [List.length_nil]
  have HB2 := Lib.hid (HB1.out.trans (hb2.mono HB1.out.size))
  clear h hi2 hb2
  go_wp2_with fail
  refine (HAW.out w2).mono ?_
  rintro e w5 ⟨rfl, hb5⟩
  have HB5 := Lib.hid (HB2.out.trans (hb5.mono HB2.out.size))
  clear hb5
  go_wp2_with fail
  go_ret
  exact ⟨rfl, HB5.out⟩

set_option maxHeartbeats 1600000 in
set_option maxRecDepth 100000 in
theorem short_badok (w : World) (k : Int) (n : Nat) (A : Option Addr) (m c : Nat) (L : List Int) (hk1 : -9223372036854775808 ≤ k) (hk2 : k ≤ 9223372036854775807) (hz : ZIn w A m L) (hmc : m ≤ c) (hm : m ≤ 1048576) (hr : k < 0 ∨ 2147483647 < k) (hn1 : 1 ≤ n) (hn2 : n ≤ 256) (hv : ∀ x ∈ L, 0 ≤ x ∧ x < (n : Int)) :
    Calls Try.prog 7 #[.int .i64 k, .int .i64 n, .slice A m c] w fun e w' => e = .returned (.bool true) ∧ Below w.heap.size w w' := by
  have HAW := Lib.hid (awake_any R)
  have HR := Lib.hid (R.run w k hk1 hk2)
  rw [show runAns k = ([], 2) from if_pos hr] at HR
  clear hr
  have HA := Lib.hid fun (w1 : World) (h : ZIn w1 A m L) => R.enc w1 A m c L n h hmc (by omega) (by omega) (by omega)
  rw [enc_good n L hn1 hn2 hv] at HA
  have hel := enc_length n (L.map Int.toNat) 0
  rw [List.length_map, hz.1] at hel
  obtain ⟨a, ha⟩ := enc_last n (L.map Int.toNat) 0
  rw [ha] at HA hel
  obtain ⟨a1, ha1⟩ : ∃ a1, a1 = a.length := ⟨_, rfl⟩
  obtain ⟨s1, hs1⟩ : ∃ s1, s1 = (a ++ [n + 1]).length := ⟨_, rfl⟩
  obtain ⟨n1, hn3⟩ : ∃ n1, n1 = n + 1 := ⟨_, rfl⟩
  have hnz : ((n : Int) + 1) = (n1 : Int) := by omega
  have hsa : s1 = a1 + 1 := by rw [hs1, ha1, List.length_append]; rfl
  have hsz : ((s1 : Int) - 1) = (a1 : Int) := by omega
  have hget : (a ++ [n + 1]).getD a1 0 = n1 := by
    rw [ha1, hn3, List.getD_eq_getElem?_getD, List.getElem?_append_right (Nat.le_refl _), Nat.sub_self]
    rfl
  have e0 : decide ((s1 : Int) ≤ (m : Int) + 1) = true := decide_eq_true (by omega)
  have e1 : decide ((0 : Int) < (s1 : Int)) = true := decide_eq_true (by omega)
  have es : s1 ≤ m + 1 := by omega
  have es0 : 0 < s1 := by omega
  have ea : (a1 : Int) < (s1 : Int) := by omega
  have eb : (0 : Int) ≤ (a1 : Int) := by omega
  have en : ((n1 : Int) == (n1 : Int)) = true := beq_self_eq_true _
  have HS1 := Lib.hid hs1
  have HGET := Lib.hid hget
  have HZ := Lib.hid hz
  have hal : a1 < s1 := by omega
  clear hz hv hel ha ha1 hs1 hn3 hget hsa
  go_enter Try.func7, Try.ntmps7
  go_wp2_with fail
  refine HR.out.mono ?_
  intro e w1 h
  obtain ⟨A1, c1, rfl, _, hi1, hb1⟩ := list_slice h
  dsimp only [List.length_nil]
  have HB1 := Lib.hid hb1
  have HA1 := Lib.hid (HA.out w1 (HZ.out.below hb1))
  clear h hi1 hb1 HA
  go_wp2_with fail
  refine HA1.out.mono ?_
  intro e w2 h
  obtain ⟨A2, c2, rfl, _, hi2, hb2⟩ := list_slice h
  dsimp only at hi2 ⊢
  rw [← HS1.out] at hi2 ⊢
  obtain ⟨b, off, rfl, hcell⟩ := hi2.2 es0
  have hq := hcell a1 hal
  rw [HGET.out] at hq
  have HB2 := Lib.hid (HB1.out.trans (hb2.mono HB1.out.size))
  clear hcell
  clear h hi2 hb2
  go_wp2_with fail
  refine (HAW.out w2).mono ?_
  rintro e w5 ⟨rfl, hb5⟩
  have HB5 := Lib.hid (HB2.out.trans (hb5.mono HB2.out.size))
  clear hb5
  go_wp2_with fail
  go_ret
  exact ⟨rfl, HB5.out⟩

set_option maxHeartbeats 1600000 in
set_option maxRecDepth 100000 in
theorem short_ok (w : World) (k : Nat) (n : Nat) (A : Option Addr) (m c : Nat) (L : List Int) (hk : k ≤ 2147483647) (hz : ZIn w A m L) (hmc : m ≤ c) (hm : m ≤ 1048576) (hn1 : 1 ≤ n) (hn2 : n ≤ 256) (hv : ∀ x ∈ L, 0 ≤ x ∧ x < (n : Int)) :
    Calls Try.prog 7 #[.int .i64 k, .int .i64 n, .slice A m c] w fun e w' => e = .returned (.bool true) ∧ Below w.heap.size w w' := by
  have HAW := Lib.hid (awake_any R)
  have HR := Lib.hid (R.run w k (by omega) (by omega))
  rw [show runAns (k : Int) = (dig k, 0) by unfold runAns; rw [if_neg (by omega), Int.toNat_natCast]] at HR
  have hbd := dig_bounds k
  have hrl := runAns_length k
  rw [show runAns (k : Int) = (dig k, 0) by unfold runAns; rw [if_neg (by omega), Int.toNat_natCast]] at hrl
  obtain ⟨N, hN⟩ : ∃ N, N = (dig k).length := ⟨_, rfl⟩
  have hN31 : N ≤ 31 := by rw [hN]; exact hrl
  rw [← hN] at hbd
  obtain ⟨P, hP⟩ : ∃ P : Nat, P = 2 ^ N := ⟨_, rfl⟩
  obtain ⟨Q, hQ⟩ : ∃ Q : Nat, Q = 2 ^ (N + 1) := ⟨_, rfl⟩
  rw [← hP, ← hQ] at hbd
  have hQP : Q = 2 * P := by rw [hQ, hP, Nat.pow_succ, Nat.mul_comm]
  have hPz : ((2 : Int) ^ N) = (P : Int) := by rw [hP]; simp
  have hQz : ((2 : Int) ^ (N + 1)) = (Q : Int) := by rw [hQ]; simp
  obtain ⟨k1, hk3⟩ : ∃ k1, k1 = k + 1 := ⟨_, rfl⟩
  have hkz : ((k : Int) + 1) = (k1 : Int) := by omega
  have hP1 : P ≤ k1 := by omega
  have hQ1 : k1 < Q := by omega
  have hk1b : k1 ≤ 2147483648 := by omega
  have hQb : Q ≤ 4294967296 := by omega
  have r0 : decide ((k : Int) < 0) = false := decide_eq_false (by omega)
  have r1 : decide ((31 : Int) < (N : Int)) = false := decide_eq_false (by omega)
  have r2 : decide ((k1 : Int) < (P : Int)) = false := decide_eq_false (by omega)
  have r3 : decide ((Q : Int) ≤ (k1 : Int)) = false := decide_eq_false (by omega)
  have hr1 : ¬ k1 < P := by omega
  have hr2 : ¬ Q ≤ k1 := by omega
  have HN := Lib.hid hN
  clear hbd hrl hN hP hQ hQP hk3
  have HA := Lib.hid fun (w1 : World) (h : ZIn w1 A m L) => R.enc w1 A m c L n h hmc (by omega) (by omega) (by omega)
  rw [enc_good n L hn1 hn2 hv] at HA
  have hel := enc_length n (L.map Int.toNat) 0
  rw [List.length_map, hz.1] at hel
  obtain ⟨a, ha⟩ := enc_last n (L.map Int.toNat) 0
  rw [ha] at HA hel
  obtain ⟨a1, ha1⟩ : ∃ a1, a1 = a.length := ⟨_, rfl⟩
  obtain ⟨s1, hs1⟩ : ∃ s1, s1 = (a ++ [n + 1]).length := ⟨_, rfl⟩
  obtain ⟨n1, hn3⟩ : ∃ n1, n1 = n + 1 := ⟨_, rfl⟩
  have hnz : ((n : Int) + 1) = (n1 : Int) := by omega
  have hsa : s1 = a1 + 1 := by rw [hs1, ha1, List.length_append]; rfl
  have hsz : ((s1 : Int) - 1) = (a1 : Int) := by omega
  have hget : (a ++ [n + 1]).getD a1 0 = n1 := by
    rw [ha1, hn3, List.getD_eq_getElem?_getD, List.getElem?_append_right (Nat.le_refl _), Nat.sub_self]
    rfl
  have e0 : decide ((s1 : Int) ≤ (m : Int) + 1) = true := decide_eq_true (by omega)
  have e1 : decide ((0 : Int) < (s1 : Int)) = true := decide_eq_true (by omega)
  have es : s1 ≤ m + 1 := by omega
  have es0 : 0 < s1 := by omega
  have ea : (a1 : Int) < (s1 : Int) := by omega
  have eb : (0 : Int) ≤ (a1 : Int) := by omega
  have en : ((n1 : Int) == (n1 : Int)) = true := beq_self_eq_true _
  have HS1 := Lib.hid hs1
  have HGET := Lib.hid hget
  have HZ := Lib.hid hz
  have hal : a1 < s1 := by omega
  clear hz hv hel ha ha1 hs1 hn3 hget hsa
  go_enter Try.func7, Try.ntmps7
  go_wp2_with fail
  refine HR.out.mono ?_
  intro e w1 h
  obtain ⟨A1, c1, rfl, _, hi1, hb1⟩ := list_slice h
  dsimp only
  rw [← HN.out]
  have HB1 := Lib.hid hb1
  have HA1 := Lib.hid (HA.out w1 (HZ.out.below hb1))
  clear h hi1 hb1 HA
  go_wp2_with fail
  refine HA1.out.mono ?_
  intro e w2 h
  obtain ⟨A2, c2, rfl, _, hi2, hb2⟩ := list_slice h
  dsimp only at hi2 ⊢
  rw [← HS1.out] at hi2 ⊢
  obtain ⟨b, off, rfl, hcell⟩ := hi2.2 es0
  have hq := hcell a1 hal
  rw [HGET.out] at hq
  have HB2 := Lib.hid (HB1.out.trans (hb2.mono HB1.out.size))
  clear hcell
  clear h hi2 hb2
  go_wp2_with fail
  refine (HAW.out w2).mono ?_
  rintro e w5 ⟨rfl, hb5⟩
  have HB5 := Lib.hid (HB2.out.trans (hb5.mono HB2.out.size))
  clear hb5
  go_wp2_with fail
  go_ret
  exact ⟨rfl, HB5.out⟩

theorem short_walk (w : World) (k n : Int) (A : Option Addr) (m c : Nat) (L : List Int) (hk1 : -9223372036854775808 ≤ k) (hk2 : k ≤ 9223372036854775807) (h1 : -9223372036854775808 ≤ n) (h2 : n ≤ 9223372036854775807) (hz : ZIn w A m L) (hmc : m ≤ c) (hm : m ≤ 1048576) :
    Calls Try.prog 7 #[.int .i64 k, .int .i64 n, .slice A m c] w fun e w' => e = .returned (.bool true) ∧ Below w.heap.size w w' := by
  by_cases hr : k < 0 ∨ 2147483647 < k
  · rcases enc_cases n L with ⟨j, rfl, hn1, hn2, hv⟩ | ⟨j, hans, hj⟩
    · exact short_badok R w k j A m c L hk1 hk2 hz hmc hm hr hn1 hn2 hv
    · exact short_bad R w k n A m c L hk1 hk2 h1 h2 hz hmc hm hr j hans hj
  · obtain ⟨q, rfl⟩ : ∃ q : Nat, k = q := ⟨k.toNat, by omega⟩
    rcases enc_cases n L with ⟨j, rfl, hn1, hn2, hv⟩ | ⟨j, hans, hj⟩
    · exact short_ok R w q j A m c L (by omega) hz hmc hm hn1 hn2 hv
    · exact short_okbad R w q n A m c L (by omega) h1 h2 hz hmc hm j hans hj
end

end Go.Proofs.Ytdlndcjiccfhgaa
