/- The laws RotateCmps, RotatePeriods, RotateTwice, walked. Over what is asked of the sort, of six numbers. -/
import Derived.Test.YtgoghcdigkgkmaaKl
import Derived.Test.YtgoghcdigkgkmaaGd
namespace Go.Proofs.Ytgoghcdigkgkmaa
open Go.RowKit

section
variable (S : SortOk 6)
include S
set_option maxRecDepth 100000 in
theorem cmps_big (w : World) (s : ByteArray) (i j : Int) (ws : s.size ≤ maxLen) (h : 2000 < s.size) : Calls Try.prog 3 #[.string s, .int .i64 i, .int .i64 j] w fun e w' => e = .returned (.bool true) ∧ Below w.heap.size w w' := by
  unfold maxLen at ws
  have d1 : decide ((2000 : Int) < (s.size : Int)) = true := decide_eq_true (by omega)
  go_enter Try.func3, Try.ntmps3
  go_wp2_with fail
  refine (awake_any S w).mono ?_
  rintro e w1 ⟨rfl, hb⟩
  have HB := Lib.hid hb
  clear hb
  go_wp2_with fail
  go_ret
  exact ⟨rfl, HB.out⟩

set_option maxHeartbeats 1600000 in
set_option maxRecDepth 100000 in
theorem cmps_walk (w : World) (s : ByteArray) (i j : Int) (h : s.size ≤ 2000) : Calls Try.prog 3 #[.string s, .int .i64 i, .int .i64 j] w fun e w' => e = .returned (.bool true) ∧ Below w.heap.size w w' := by
  have d1 : decide ((2000 : Int) < (s.size : Int)) = false := decide_eq_false (by omega)
  by_cases hr : (i < 0 ∨ (s.size : Int) ≤ i) ∨ (j < 0 ∨ (s.size : Int) ≤ j)
  · have HA := Lib.hid (ccmp_arg w s i j hr)
    have HB := Lib.hid (rcmp_arg w s i j (by omega))
    clear hr
    go_enter Try.func3, Try.ntmps3
    go_wp2_with fail
    refine HA.out.mono ?_
    rintro e w1 ⟨rfl, rfl⟩
    go_wp2_with fail
    refine HB.out.mono ?_
    rintro e w1 ⟨rfl, rfl⟩
    go_wp2_with fail
    refine (awake_any S _).mono ?_
    rintro e w3 ⟨rfl, hb⟩
    have HC := Lib.hid hb
    clear hb
    go_wp2_with fail
    go_ret
    exact ⟨rfl, HC.out⟩
  · obtain ⟨a, rfl⟩ : ∃ a : Nat, i = a := ⟨i.toNat, by omega⟩
    obtain ⟨b, rfl⟩ : ∃ b : Nat, j = b := ⟨j.toNat, by omega⟩
    have HA := Lib.hid (ccmp_any w s a b (by omega) (by omega) (by omega))
    have HB := Lib.hid fun w1 : World => rcmp_any w1 s a b (by omega) (by omega) (by omega)
    clear hr
    generalize cmpV s.data.toList a b = v at *
    have d2 : (v == v) = true := beq_self_eq_true v
    go_enter Try.func3, Try.ntmps3
    go_wp2_with fail
    refine HA.out.mono ?_
    rintro e w1 ⟨rfl, m1, rfl⟩
    go_wp2_with fail
    refine (HB.out _).mono ?_
    rintro e w2 ⟨rfl, m2, rfl⟩
    go_wp2_with fail
    refine (awake_any S _).mono ?_
    rintro e w3 ⟨rfl, hb⟩
    have HC := Lib.hid (show Below w.heap.size w w3 from (below_drewN (Below.refl _ w) _).trans hb)
    clear hb
    go_wp2_with fail
    go_ret
    exact ⟨rfl, HC.out⟩

set_option maxRecDepth 100000 in
theorem periods_big (w : World) (s : ByteArray) (ws : s.size ≤ maxLen) (h : 1000 < s.size) : Calls Try.prog 6 #[.string s] w fun e w' => e = .returned (.bool true) ∧ Below w.heap.size w w' := by
  unfold maxLen at ws
  have d1 : decide ((1000 : Int) < (s.size : Int)) = true := decide_eq_true (by omega)
  go_enter Try.func6, Try.ntmps6
  go_wp2_with fail
  refine (awake_any S w).mono ?_
  rintro e w1 ⟨rfl, hb⟩
  have HB := Lib.hid hb
  clear hb
  go_wp2_with fail
  go_ret
  exact ⟨rfl, HB.out⟩


set_option maxRecDepth 100000 in
theorem periods_walk (w : World) (s : ByteArray) (h : s.size ≤ 1000) : Calls Try.prog 6 #[.string s] w fun e w' => e = .returned (.bool true) ∧ Below w.heap.size w w' := by
  have d1 : decide ((1000 : Int) < (s.size : Int)) = false := decide_eq_false (by omega)
  have hsl : s.data.toList.length = s.size := rfl
  have HA := Lib.hid (cper_any w s (by omega))
  have HB := Lib.hid fun w1 : World => rper_any w1 s (by omega)
  have HSL := Lib.hid hsl
  clear hsl
  go_enter Try.func6, Try.ntmps6
  go_wp2_with fail
  refine HA.out.mono ?_
  rintro e w1 ⟨p, rfl, hp0, hp, m1, rfl⟩
  have HP0 := Lib.hid hp0
  have HP := Lib.hid hp
  clear hp0 hp
  go_wp2_with fail
  refine (HB.out _).mono ?_
  rintro e w2 ⟨q, rfl, hq0, hq, m2, rfl⟩
  have e : q = p := by
    rcases Nat.eq_zero_or_pos s.size with h0 | h0
    · rw [hq0 h0, HP0.out (by rw [HSL.out]; exact h0)]
    · exact isPer_one (hq h0) (HP.out (by rw [HSL.out]; exact h0))
  subst e
  clear hq0 hq
  have d2 : ((q : Int) == (q : Int)) = true := beq_self_eq_true _
  go_wp2_with fail
  refine (awake_any S _).mono ?_
  rintro e w3 ⟨rfl, hb⟩
  have HC := Lib.hid (show Below w.heap.size w w3 from (below_drewN (Below.refl _ w) _).trans hb)
  clear hb
  go_wp2_with fail
  go_ret
  exact ⟨rfl, HC.out⟩

set_option maxRecDepth 100000 in
theorem twice_out (w : World) (s : ByteArray) (i : Int) (ws : s.size ≤ maxLen) (h : 1000 < s.size ∨ i < 0 ∨ (s.size : Int) ≤ i) : Calls Try.prog 8 #[.string s, .int .i64 i] w fun e w' => e = .returned (.bool true) ∧ Below w.heap.size w w' := by
  unfold maxLen at ws
  have key : 1000 < s.size ∨ (¬ 1000 < s.size ∧ i < 0) ∨ (¬ 1000 < s.size ∧ ¬ i < 0 ∧ (s.size : Int) ≤ i) := by omega
  clear h
  rcases key with h1 | ⟨h1, h2⟩ | ⟨h1, h2, h3⟩
  · have d1 : decide ((1000 : Int) < (s.size : Int)) = true := decide_eq_true (by omega)
    go_enter Try.func8, Try.ntmps8
    go_wp2_with fail
    refine (awake_any S w).mono ?_
    rintro e w1 ⟨rfl, hb⟩
    have HB := Lib.hid hb
    clear hb
    go_wp2_with fail
    go_ret
    exact ⟨rfl, HB.out⟩
  · have d1 : decide ((1000 : Int) < (s.size : Int)) = false := decide_eq_false (by omega)
    have d2 : decide (i < 0) = true := decide_eq_true h2
    go_enter Try.func8, Try.ntmps8
    go_wp2_with fail
    refine (awake_any S w).mono ?_
    rintro e w1 ⟨rfl, hb⟩
    have HB := Lib.hid hb
    clear hb
    go_wp2_with fail
    go_ret
    exact ⟨rfl, HB.out⟩
  · have d1 : decide ((1000 : Int) < (s.size : Int)) = false := decide_eq_false (by omega)
    have d2 : decide (i < 0) = false := decide_eq_false h2
    have d3 : decide ((s.size : Int) ≤ i) = true := decide_eq_true h3
    go_enter Try.func8, Try.ntmps8
    go_wp2_with fail
    refine (awake_any S w).mono ?_
    rintro e w1 ⟨rfl, hb⟩
    have HB := Lib.hid hb
    clear hb
    go_wp2_with fail
    go_ret
    exact ⟨rfl, HB.out⟩

omit S in
theorem cmpV_zero (s : List UInt8) (i j : Nat) : cmpV s i j = 0 ↔ rotL s i = rotL s j := by
  unfold cmpV
  by_cases h1 : rotL s i < rotL s j
  · rw [if_pos h1]
    constructor
    · intro h; omega
    · intro h; rw [h] at h1; exact absurd h1 (List.lt_irrefl _)
  · by_cases h2 : rotL s j < rotL s i
    · rw [if_neg h1, if_pos h2]
      constructor
      · intro h; omega
      · intro h; rw [h] at h2; exact absurd h2 (List.lt_irrefl _)
    · rw [if_neg h1, if_neg h2]
      exact ⟨fun _ => List.le_antisymm (List.not_lt.1 h2) (List.not_lt.1 h1), fun _ => rfl⟩

set_option maxHeartbeats 1600000 in
set_option maxRecDepth 100000 in
theorem twice_walk (w : World) (s : ByteArray) (i : Nat) (h : s.size ≤ 1000) (hi : i < s.size) : Calls Try.prog 8 #[.string s, .int .i64 i] w fun e w' => e = .returned (.bool true) ∧ Below w.heap.size w w' := by
  have d1 : decide ((1000 : Int) < (s.size : Int)) = false := decide_eq_false (by omega)
  have d2 : decide ((i : Int) < 0) = false := decide_eq_false (by omega)
  have d3 : decide ((s.size : Int) ≤ (i : Int)) = false := decide_eq_false (by omega)
  have hsl : s.data.toList.length = s.size := rfl
  have hss : (s ++ s).data.toList = s.data.toList ++ s.data.toList := by rw [ByteArray.data_append, Array.toList_append]
  have hsz : (s ++ s).size = s.size + s.size := ByteArray.size_append
  have HA := Lib.hid (cper_any w s (by omega))
  have HB := Lib.hid fun w1 : World => cper_any w1 (s ++ s) (by omega)
  have HC := Lib.hid fun (a b : Nat) (ha : a < s.size) (hb : b < s.size) (w1 : World) => ccmp_any w1 s a b ha hb (by omega)
  have HSL := Lib.hid hsl
  have HSS := Lib.hid hss
  have HSZ := Lib.hid hsz
  clear hsl hss hsz
  go_enter Try.func8, Try.ntmps8
  go_wp2_with fail
  refine HA.out.mono ?_
  rintro e w1 ⟨p, rfl, _, hp, m1, rfl⟩
  have hper := hp (by rw [HSL.out]; omega)
  have hle := isPer_le hper (by rw [HSL.out]; omega)
  rw [HSL.out] at hle
  have hp1 := hper.1
  have hdv := isPer_dvd hper (per_all s.data.toList)
  rw [HSL.out] at hdv
  have HPER := Lib.hid hper
  have HDV := Lib.hid hdv
  clear hp hper hdv
  have d4 : decide ((p : Int) < 1) = false := decide_eq_false (by omega)
  have d5 : ((p : Int) == 0) = false := beq_false_of_ne (by omega)
  have d6 : ((s.size : Int) % (p : Int)) = 0 := by
    have : ((s.size % p : Nat) : Int) = 0 := by rw [HDV.out]; rfl
    rwa [Int.natCast_emod] at this
  go_wp2_with fail
  refine (HB.out _).mono ?_
  rintro e w2 ⟨p2, rfl, _, hp2, m2, rfl⟩
  have hper2 := hp2 (by rw [HSS.out, List.length_append, HSL.out]; omega)
  rw [HSS.out] at hper2
  have e2 : p2 = p := isPer_one hper2 (isPer_twice HPER.out)
  subst e2
  clear hp2 hper2
  have d7 : ((p2 : Int) != (p2 : Int)) = false := by simp
  obtain ⟨a, ha⟩ : ∃ a, a = (i + p2) % s.size := ⟨_, rfl⟩
  obtain ⟨b, hb⟩ : ∃ b, b = (i + 1) % s.size := ⟨_, rfl⟩
  have hal : a < s.size := by rw [ha]; exact Nat.mod_lt _ (by omega)
  have hbl : b < s.size := by rw [hb]; exact Nat.mod_lt _ (by omega)
  have em : ((i : Int) + (p2 : Int)) % (s.size : Int) = (a : Int) := by rw [ha]; simp
  have en : ((i : Int) + 1) % (s.size : Int) = (b : Int) := by rw [hb]; simp
  have ra : cmpV s.data.toList i a = 0 := (cmpV_zero _ _ _).2 (by
    have := rot_apart HPER.out.2.1 i (by rw [HSL.out]; omega)
    rw [HSL.out, ← ha] at this
    exact this)
  have rb : cmpV s.data.toList i b = 0 ↔ p2 = 1 := by
    have := rot_next HPER.out (show i < s.data.toList.length by rw [HSL.out]; omega)
    rw [HSL.out, ← hb] at this
    rw [cmpV_zero]
    exact this
  have HRA := Lib.hid (HC.out i a hi hal)
  have HRB := Lib.hid (HC.out i b hi hbl)
  rw [ra] at HRA
  obtain ⟨v, hv⟩ : ∃ v, v = cmpV s.data.toList i b := ⟨_, rfl⟩
  rw [← hv] at HRB rb
  clear ha hb ra hv
  go_wp2_with fail
  refine (HRA.out _).mono ?_
  rintro e w3 ⟨rfl, m3, rfl⟩
  go_wp2_with fail
  refine (HRB.out _).mono ?_
  rintro e w4 ⟨rfl, m4, rfl⟩
  by_cases hv0 : v = 0
  · have g1 : (v == 0) = true := by rw [hv0]; rfl
    have g2 : ((p2 : Int) == 1) = true := by rw [rb.1 hv0]; rfl
    clear rb hv0
    go_wp2_with fail
    refine (awake_any S _).mono ?_
    rintro e w5 ⟨rfl, hb⟩
    have HD := Lib.hid (show Below w.heap.size w w5 from (below_drewN (Below.refl _ w) _).trans hb)
    clear hb
    go_wp2_with fail
    go_ret
    exact ⟨rfl, HD.out⟩
  · have g1 : (v == 0) = false := beq_false_of_ne hv0
    have hp3 : ¬ p2 = 1 := fun e => hv0 (rb.2 e)
    have g2 : ((p2 : Int) == 1) = false := beq_false_of_ne (by omega)
    clear rb hv0
    go_wp2_with fail
    refine (awake_any S _).mono ?_
    rintro e w5 ⟨rfl, hb⟩
    have HD := Lib.hid (show Below w.heap.size w w5 from (below_drewN (Below.refl _ w) _).trans hb)
    clear hb
    go_wp2_with fail
    go_ret
    exact ⟨rfl, HD.out⟩
end

end Go.Proofs.Ytgoghcdigkgkmaa
