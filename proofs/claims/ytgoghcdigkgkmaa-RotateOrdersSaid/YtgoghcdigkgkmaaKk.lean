/- Cmp where a number is not there; the period, as the program finds it. Conditions: texts of at most two million bytes. -/
import Derived.Test.YtgoghcdigkgkmaaKj
namespace Go.Proofs.Ytgoghcdigkgkmaa
open Go.RowKit

set_option maxRecDepth 100000 in
theorem ccmp_arg (w : World) (s : ByteArray) (i j : Int) (h : (i < 0 ∨ (s.size : Int) ≤ i) ∨ (j < 0 ∨ (s.size : Int) ≤ j)) :
    Calls Try.prog 10 #[.string s, .int .i64 i, .int .i64 j] w fun e w' => e = .returned (.tuple #[.int .i64 0, .int .i64 2]) ∧ w = w' := by
  by_cases hi : i < 0 ∨ (s.size : Int) ≤ i
  · have HA := Lib.hid (there_no w s i hi)
    clear h hi
    go_enter Try.func10, Try.ntmps10
    go_wp2_with fail
    refine HA.out.mono ?_
    rintro e w1 ⟨rfl, rfl⟩
    go_wp2_with fail
    go_ret2
    exact ⟨rfl, rfl⟩
  · have hj : j < 0 ∨ (s.size : Int) ≤ j := h.resolve_left hi
    obtain ⟨k, rfl⟩ : ∃ k : Nat, i = k := ⟨i.toNat, by omega⟩
    have HA := Lib.hid (there_yes w s k (by omega))
    have HB := Lib.hid (there_no w s j hj)
    clear h hi hj
    go_enter Try.func10, Try.ntmps10
    go_wp2_with fail
    refine HA.out.mono ?_
    rintro e w1 ⟨rfl, rfl⟩
    go_wp2_with fail
    refine HB.out.mono ?_
    rintro e w1 ⟨rfl, rfl⟩
    go_wp2_with fail
    go_ret2
    exact ⟨rfl, rfl⟩

/-- What the program tries of a number. -/
def PTest (s : List UInt8) (p : Nat) : Prop := s.length % p = 0 ∧ s.drop p = s.take (s.length - p)
theorem ptest_per {s : List UInt8} {p : Nat} (h0 : 0 < p) (h : PTest s p) (hn : 0 < s.length) (hp : p ≤ s.length) : Per s p := by
  obtain ⟨hm, he⟩ := h
  have lin : ∀ k, k + p < s.length → rat s (k + p) = rat s k := by
    intro k hk
    have h1 : (s.drop p)[k]? = (s.take (s.length - p))[k]? := by rw [he]
    rw [List.getElem?_drop, List.getElem?_take_of_lt (by omega), show p + k = k + p by omega, rat_some s _ hk, rat_some s k (by omega)] at h1
    exact Option.some.inj h1
  have chain : ∀ c r, r + p * c < s.length → rat s (r + p * c) = rat s r := by
    intro c
    induction c with
    | zero => intro r _; rw [Nat.mul_zero, Nat.add_zero]
    | succ c ih =>
      intro r hr
      rw [Nat.mul_succ] at hr ⊢
      rw [← Nat.add_assoc, lin _ (by omega), ih r (by omega)]
  obtain ⟨c, hc⟩ : ∃ c, s.length = p * c := ⟨s.length / p, by have := Nat.mod_add_div s.length p; omega⟩
  have hc0 : 0 < c := by
    rcases Nat.eq_zero_or_pos c with h | h
    · rw [h, Nat.mul_zero] at hc; omega
    · exact h
  obtain ⟨c1, rfl⟩ : ∃ c1, c = c1 + 1 := ⟨c - 1, by omega⟩
  rw [Nat.mul_succ] at hc
  have one : ∀ k, k < s.length → rat s (k + p) = rat s k := by
    intro k hk
    by_cases h : k + p < s.length
    · exact lin k h
    · have h1 := chain c1 (k + p - s.length) (by omega)
      rw [show k + p - s.length + p * c1 = k by omega] at h1
      rw [h1, ← rat_round s (k + p - s.length), show k + p - s.length + s.length = k + p by omega]
  intro k
  have h1 := one (k % s.length) (Nat.mod_lt _ hn)
  rw [rat_mod] at h1
  rw [← h1, ← rat_mod s (k % s.length + p), ← rat_mod s (k + p), Nat.mod_add_mod]
theorem per_ptest {s : List UInt8} {p : Nat} (h : IsPer s p) (hn : 0 < s.length) : PTest s p := by
  refine ⟨isPer_dvd h (per_all s), ?_⟩
  have hp := isPer_le h hn
  apply List.ext_getElem?
  intro k
  by_cases hk : k < s.length - p
  · rw [List.getElem?_drop, List.getElem?_take_of_lt hk, rat_some s _ (by omega), rat_some s k (by omega), Nat.add_comm, h.2.1 k]
  · rw [List.getElem?_eq_none (by rw [List.length_drop]; omega), List.getElem?_eq_none (by rw [List.length_take]; omega)]
theorem isPer_exists (s : List UInt8) (hn : 0 < s.length) : ∃ p, IsPer s p := by
  have H : ∀ m, 0 < m → Per s m → ∃ p, IsPer s p := by
    intro m
    induction m using Nat.strongRecOn with
    | _ m ih =>
      intro h0 hp
      by_cases h : ∃ q, 0 < q ∧ q < m ∧ Per s q
      · obtain ⟨q, h1, h2, h3⟩ := h
        exact ih q h2 h1 h3
      · refine ⟨m, h0, hp, fun q h1 h2 => ?_⟩
        rcases Nat.lt_or_ge q m with h3 | h3
        · exact absurd ⟨q, h1, h3, h2⟩ h
        · exact h3
  exact H s.length hn (per_all s)
theorem isPer_found {s : List UInt8} {p : Nat} (hn : 0 < s.length) (h0 : 0 < p) (hp : p ≤ s.length) (h : PTest s p) (hlow : ∀ q, 0 < q → q < p → ¬ PTest s q) : IsPer s p := by
  obtain ⟨r, hr⟩ := isPer_exists s hn
  have h1 := hr.2.2 p h0 (ptest_per h0 h hn hp)
  rcases Nat.lt_or_ge r p with h2 | h2
  · exact absurd (per_ptest hr hn) (hlow r hr.1 h2)
  · rw [show p = r by omega]
    exact hr
theorem isPer_whole {s : List UInt8} (hn : 0 < s.length) (hlow : ∀ q, 0 < q → q ≤ s.length / 2 → ¬ PTest s q) : IsPer s s.length := by
  obtain ⟨r, hr⟩ := isPer_exists s hn
  have h1 := isPer_le hr hn
  have h2 := isPer_dvd hr (per_all s)
  have h3 := Nat.mod_add_div s.length r
  have h4 : r = s.length := by
    rcases Nat.lt_or_ge (s.length / 2) r with h5 | h5
    · rcases Nat.lt_or_ge (s.length / r) 2 with h6 | h6
      · rcases Nat.lt_or_ge (s.length / r) 1 with h7 | h7
        · have h8 : s.length / r = 0 := Nat.lt_one_iff.1 h7
          rw [h8, Nat.mul_zero] at h3
          omega
        · have h8 : s.length / r = 1 := Nat.le_antisymm (Nat.le_of_lt_succ h6) h7
          rw [h8, Nat.mul_one] at h3
          omega
      · have := Nat.mul_le_mul_left r h6
        omega
    · exact absurd (per_ptest hr hn) (hlow r hr.1 h5)
  rw [← h4]
  exact hr

/-- What Period answers. -/
def PerPost (w : World) (s : List UInt8) (e : Ending) (w' : World) : Prop := ∃ p : Nat, e = .returned (.int .i64 p) ∧ (s.length = 0 → p = 0) ∧ (0 < s.length → IsPer s p) ∧ ∃ m, w' = w.drewN m

theorem half_eq (s : ByteArray) (p : Nat) : ((s.extract p s.size).toList == (s.extract 0 (s.size - p)).toList) = decide (s.data.toList.drop p = s.data.toList.take (s.data.toList.length - p)) := by
  have e1 : (s.extract p s.size).data.toList = s.data.toList.drop p := by
    rw [ByteArray.data_extract, Array.toList_extract, List.extract_eq_take_drop]
    refine List.take_of_length_le ?_
    rw [List.length_drop]
    exact Nat.le_refl _
  have e2 : (s.extract 0 (s.size - p)).data.toList = s.data.toList.take (s.data.toList.length - p) := by
    rw [ByteArray.data_extract, Array.toList_extract, List.extract_eq_take_drop, List.drop_zero, Nat.sub_zero]
    rfl
  rw [ByteArray.toList_eq, ByteArray.toList_eq, e1, e2]
  by_cases h : s.data.toList.drop p = s.data.toList.take (s.data.toList.length - p)
  · rw [decide_eq_true h, h]
    exact beq_self_eq_true _
  · rw [decide_eq_false h]
    exact beq_false_of_ne h

set_option maxHeartbeats 1600000 in
set_option maxRecDepth 100000 in
theorem cper_any (w : World) (s : ByteArray) (hs : s.size ≤ 2000000) : Calls Try.prog 17 #[.string s] w (PerPost w s.data.toList) := by
  have hsl : s.data.toList.length = s.size := rfl
  have HSL := Lib.hid hsl
  clear hsl
  go_enter Try.func17, Try.ntmps17
  go_wp2_with fail
  go_loopw [4] (fun x wr => ∃ p : Nat, 1 ≤ p ∧ p ≤ s.size / 2 + 1 ∧ x = .int .i64 p ∧ (∀ q, 0 < q → q < p → ¬ PTest s.data.toList q) ∧ ∃ m, wr = w.drewN m) (fun x _ => s.size + 1 - (intOf x).toNat)
  case atStart => exact ⟨1, Nat.le_refl _, by omega, rfl, fun q h1 h2 => by omega, 0, rfl⟩
  case round =>
    obtain ⟨p, h1, h2, rfl, hlow, hd⟩ := hrel
    have HLOW := Lib.hid hlow
    have HD := Lib.hid hd
    clear hlow hd
    by_cases e1 : p ≤ s.size / 2
    · have d1 : decide ((p : Int) ≤ (s.size : Int) / 2) = true := decide_eq_true (by omega)
      have tm : ((s.size : Int)).tmod (p : Int) = ((s.size % p : Nat) : Int) := by
        rw [Int.tmod_eq_emod_of_nonneg (by omega)]
        rfl
      have tn : ((p : Int) == 0) = false := beq_false_of_ne (by omega)
      have z1 : (s.extract p s.size).size = s.size - p := by rw [ByteArray.size_extract]; omega
      have z2 : (s.extract 0 (s.size - p)).size = s.size - p := by rw [ByteArray.size_extract]; omega
      by_cases e2 : s.size % p = 0
      · have d2 : (((s.size % p : Nat) : Int) == 0) = true := by rw [e2]; rfl
        have hh := half_eq s p
        by_cases e3 : s.data.toList.drop p = s.data.toList.take (s.data.toList.length - p)
        · rw [decide_eq_true e3] at hh
          have HP := Lib.hid (isPer_found (s := s.data.toList) (p := p) (by rw [HSL.out]; omega) (by omega) (by rw [HSL.out]; omega) ⟨by rw [HSL.out]; exact e2, e3⟩ HLOW.out)
          clear e3
          go_wp2_with fail
          go_quiet (fail)
          go_wp2_with fail
          go_ret
          obtain ⟨m, hm⟩ := HD.out
          exact ⟨p, rfl, fun h => by rw [HSL.out] at h; omega, fun _ => HP.out, m + nq, by rw [hm]; simp⟩
        · rw [decide_eq_false e3] at hh
          have HP := Lib.hid (show ¬ PTest s.data.toList p from fun h => e3 h.2)
          clear e3
          go_wp2_with fail
          go_quiet (fail)
          go_wp2_with fail
          go_roundw
          case rel =>
            obtain ⟨m, hm⟩ := HD.out
            refine ⟨p + 1, by omega, by omega, by go_num, fun q h3 h4 => ?_, m + nq, by rw [hm]; simp⟩
            by_cases e : q = p
            · rw [e]; exact HP.out
            · exact HLOW.out q h3 (by omega)
          case measure => simp [intOf]; omega
      · have d2 : (((s.size % p : Nat) : Int) == 0) = false := beq_false_of_ne (by omega)
        have HP := Lib.hid (show ¬ PTest s.data.toList p from fun h => e2 (by rw [← HSL.out]; exact h.1))
        have hr6 : s.size % p ≤ s.size := Nat.mod_le _ _
        clear e2
        generalize s.size % p = r at *
        go_wp2_with fail
        go_quiet (fail)
        go_wp2_with fail
        go_roundw
        case rel =>
          obtain ⟨m, hm⟩ := HD.out
          refine ⟨p + 1, by omega, by omega, by go_num, fun q h3 h4 => ?_, m + nq, by rw [hm]; simp⟩
          by_cases e : q = p
          · rw [e]; exact HP.out
          · exact HLOW.out q h3 (by omega)
        case measure => simp [intOf]; omega
    · have d1 : decide ((p : Int) ≤ (s.size : Int) / 2) = false := decide_eq_false (by omega)
      go_wp2_with fail
      go_ret
      refine ⟨s.size, rfl, fun h => by rw [HSL.out] at h; exact h, fun h => ?_, HD.out⟩
      have := isPer_whole h (fun q h3 h4 => HLOW.out q h3 (by rw [HSL.out] at h4; omega))
      rwa [HSL.out] at this

end Go.Proofs.Ytgoghcdigkgkmaa
