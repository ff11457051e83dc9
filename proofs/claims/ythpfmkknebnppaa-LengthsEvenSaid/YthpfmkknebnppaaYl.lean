/- The law LengthsEven, walked over what is asked of the code's functions. -/
import Derived.Test.YthpfmkknebnppaaYk
namespace Go.Proofs.Ythpfmkknebnppaa
open Go.RowKit

theorem flat_near (k c : Nat) (w : List Nat) (i j : Nat) : flatLen k c w i ≤ flatLen k c w j + 1 := by
  unfold flatLen
  split <;> split <;> omega
theorem flat_order (k c : Nat) (w : List Nat) {i j : Nat} (hi : i < w.length) (h : w.getD j 0 < w.getD i 0) : flatLen k c w i ≤ flatLen k c w j := by
  have h1 := front_lt w hi (.inl h)
  unfold flatLen
  split <;> split <;> omega

section
variable {N : Nat} (R : LenDone N)
include R

set_option maxHeartbeats 3200000 in
set_option maxRecDepth 100000 in
theorem even_walk (hN : 10 ≤ N) (w : World) (A : Option Addr) (n c : Nat) (L : List Int) (hL : ZIn w A n L) (hnc : n ≤ c) (hnN : n ≤ N) (hn : n ≤ maxLen) : Calls Try.prog 8 #[.slice A n c] w fun e w' => e = .returned (.bool true) ∧ Below w.heap.size w w' := by
  have HAW := Lib.hid (awake_any R hN)
  have HA := Lib.hid (R.flat w A n c L hL hnc hnN hn)
  have hln := hL.1
  have HLN := Lib.hid hln
  have HZ := Lib.hid hL
  clear hL hln
  go_enter Try.func8, Try.ntmps8
  go_wp2_with fail
  refine HA.out.mono ?_
  intro e w4 h
  obtain ⟨a, k, A4, c4, hans, hal, rfl, hac, hi4, hb4⟩ := flat_slice h
  have HB4 := Lib.hid hb4
  rcases hans with ⟨_, rfl, rfl⟩ | ⟨hM, rfl, j, hj1, hj2, ha⟩
  · dsimp only [List.length_nil]
    clear h hi4 hb4
    go_wp2_with fail
    refine (HAW.out w4).mono ?_
    rintro e w10 ⟨rfl, hb10⟩
    have HB10 := Lib.hid (HB4.out.trans (hb10.mono HB4.out.size))
    clear hb10
    go_wp2_with fail
    go_ret
    exact ⟨rfl, HB10.out⟩
  · have hap : a.length = n := by rw [ha, List.length_map, List.length_range]; exact HLN.out
    have hol : (oneL L).length = n := by unfold oneL; rw [List.length_map, List.length_range]; exact HLN.out
    have hM1 := hM.1
    have hM2 := hM.2.1
    rw [HLN.out] at hM1 hM2 hj1 hj2 ha
    have hj8 : j ≤ 8 := by
      rcases Nat.lt_or_ge j 9 with h | h
      · omega
      · exfalso
        have := Nat.pow_le_pow_right (n := 2) (by decide) h
        have e9 : (2 : Nat) ^ 9 = 512 := by decide
        omega
    obtain ⟨C, hC⟩ : ∃ C, C = 2 ^ (j + 1) - n := ⟨_, rfl⟩
    have hwh := flat_whole (oneL L) j (by rw [hol]; exact hj1) (by rw [hol]; exact hj2) 20 (by omega)
    rw [hol, ← hC] at hwh
    rw [← hC] at ha
    have hfl : ∀ i, flatLen j C (oneL L) i ≤ 9 := by
      intro i
      unfold flatLen
      split <;> omega
    have hfull := len_full hM1 hM2 (fun i _ => by have := hfl i; omega) hwh
    rw [← ha] at hfull
    have hcell : ∀ i, i < n → a.getD i 0 = flatLen j C (oneL L) i := by
      intro i hi
      rw [ha, range_getD n _ i hi]
    have hW : ∀ i, i < n → (oneL L).getD i 0 = max (L.getD i 0).toNat 1 := fun i hi => oneL_get L i (by rw [HLN.out]; exact hi)
    have hWB : ∀ i, i < n → 0 ≤ L.getD i 0 ∧ L.getD i 0 ≤ 1073741824 := fun i hi => hM.2.2 _ (getD_mem_int L i (by rw [HLN.out]; exact hi))
    rw [hap] at hi4 hac ⊢
    have HF := Lib.hid (R.full w4 A4 n c4 (intL a) (zin_of hi4) hac hn)
    rw [decide_eq_true hfull] at HF
    have HI := Lib.hid hi4
    have HCELL := Lib.hid hcell
    have HW := Lib.hid hW
    have HWB := Lib.hid hWB
    have HOL := Lib.hid hol
    have HFL := Lib.hid hfl
    have HZ4 := Lib.hid (HZ.out.below hb4)
    clear h hi4 hb4 ha hap hol hwh hfl hfull hM hcell hW hWB hal hj1 hj2 hC HLN HZ
    have dn : ((n : Int) != (n : Int)) = false := by simp
    generalize oneL L = W at *
    go_wp2_with fail
    refine HF.out.mono ?_
    rintro e w5 ⟨rfl, hb5⟩
    have HB5 := Lib.hid (HB4.out.trans (hb5.mono HB4.out.size))
    have HI5 := Lib.hid (ints_low HI.out hb5)
    have HZ5 := Lib.hid (HZ4.out.below hb5)
    clear hb5
    go_wp2_with fail
    go_loopw [5, 6, 7] (fun x u v wx => ∃ i : Nat, 1 ≤ i ∧ i ≤ n ∧ x = .int .i64 i ∧ ∃ m, wx = w5.drewN m) (fun x _ _ _ => n - (intOf x).toNat)
    case atStart => exact ⟨1, Nat.le_refl _, by omega, rfl, 0, rfl⟩
    case round =>
      obtain ⟨i, hi1, hi, rfl, hd⟩ := hrel
      have HD := Lib.hid hd
      by_cases e : i < n
      · have di : decide ((i : Int) < (n : Int)) = true := decide_eq_true (by omega)
        obtain ⟨b1, o1, rfl, hc1⟩ := HZ5.out.2 (by omega)
        obtain ⟨b2, o2, rfl, hc2⟩ := HI5.out.2 (by omega)
        have ci : wr.cell? ⟨b1, o1 + i, none⟩ = some (.int .i64 (L.getD i 0)) := by obtain ⟨m, rfl⟩ := hd; exact hc1 i e
        have c0 : wr.cell? ⟨b1, o1 + 0, none⟩ = some (.int .i64 (L.getD 0 0)) := by obtain ⟨m, rfl⟩ := hd; exact hc1 0 (by omega)
        rw [Nat.add_zero] at c0
        have bi := HWB.out i e
        have b0 := HWB.out 0 (by omega)
        have hwi := HW.out i e
        have hw0 := HW.out 0 (by omega)
        obtain ⟨x, hx⟩ : ∃ x : Nat, L.getD i 0 = x := ⟨(L.getD i 0).toNat, by omega⟩
        obtain ⟨y, hy⟩ : ∃ y : Nat, L.getD 0 0 = y := ⟨(L.getD 0 0).toNat, by omega⟩
        rw [hx] at ci bi hwi
        rw [hy] at c0 b0 hw0
        rw [Int.toNat_natCast] at hwi hw0
        obtain ⟨u, hu⟩ : ∃ u, u = max x 1 := ⟨_, rfl⟩
        obtain ⟨v, hv⟩ : ∃ v, v = max y 1 := ⟨_, rfl⟩
        rw [← hu] at hwi
        rw [← hv] at hw0
        have HU := Lib.hid hu
        have HV := Lib.hid hv
        have HWI := Lib.hid hwi
        have HW0 := Lib.hid hw0
        have HC2 := Lib.hid hc2
        have hnI : (0 : Int) < (n : Int) := by omega
        have hiI : (0 : Int) ≤ (i : Int) := by omega
        clear hc1 hc2 hx hy hu hv hwi hw0 hd
        go_upto_region 9 with fail
        go_cut [6, 7] from 31 to 95 (fun s6 s7 wx => s6 = .int .i64 u ∧ s7 = .int .i64 v ∧ ∃ m, wx = w5.drewN m)
        case first =>
          have HX0 : Hid (x ≠ 0 → u = x) := Lib.hid fun h => by rw [HU.out]; omega
          have HY0 : Hid (y ≠ 0 → v = y) := Lib.hid fun h => by rw [HV.out]; omega
          by_cases hx0 : x = 0
          · subst hx0
            have ha1 : u = 1 := HU.out
            subst ha1
            by_cases hy0 : y = 0
            · subst hy0
              have hd1 : v = 1 := HV.out
              subst hd1
              go_quiet (fail)
              go_wp2_with fail
              go_meet
              obtain ⟨m, hm⟩ := HD.out
              exact ⟨rfl, rfl, m + nq, by rw [hm]; simp⟩
            · have hd1 := HY0.out hy0
              subst hd1
              have dy : decide ((v : Int) < 1) = false := decide_eq_false (by omega)
              have hy1 : ¬ ((v : Int) < 1) := by omega
              go_quiet (fail)
              go_wp2_with fail
              go_meet
              obtain ⟨m, hm⟩ := HD.out
              exact ⟨rfl, rfl, m + nq, by rw [hm]; simp⟩
          · have ha1 := HX0.out hx0
            subst ha1
            have dx : decide ((u : Int) < 1) = false := decide_eq_false (by omega)
            have hx1 : ¬ ((u : Int) < 1) := by omega
            by_cases hy0 : y = 0
            · subst hy0
              have hd1 : v = 1 := HV.out
              subst hd1
              go_quiet (fail)
              go_wp2_with fail
              go_meet
              obtain ⟨m, hm⟩ := HD.out
              exact ⟨rfl, rfl, m + nq, by rw [hm]; simp⟩
            · have hd1 := HY0.out hy0
              subst hd1
              have dy : decide ((v : Int) < 1) = false := decide_eq_false (by omega)
              have hy1 : ¬ ((v : Int) < 1) := by omega
              go_quiet (fail)
              go_wp2_with fail
              go_meet
              obtain ⟨m, hm⟩ := HD.out
              exact ⟨rfl, rfl, m + nq, by rw [hm]; simp⟩
        case rest =>
          obtain ⟨rfl, rfl, hd3⟩ := hcut
          have HD3 := Lib.hid hd3
          have hli := HCELL.out i e
          have hl0 := HCELL.out 0 (by omega)
          have ki : wc.cell? ⟨b2, o2 + i, none⟩ = some (.int .i64 (a.getD i 0 : Nat)) := by obtain ⟨m, rfl⟩ := hd3; exact HC2.out i e
          have k0 : wc.cell? ⟨b2, o2 + 0, none⟩ = some (.int .i64 (a.getD 0 0 : Nat)) := by obtain ⟨m, rfl⟩ := hd3; exact HC2.out 0 (by omega)
          rw [Nat.add_zero] at k0
          rw [hli] at ki
          rw [hl0] at k0
          have hn1 := flat_near j C W i 0
          have hn2 := flat_near j C W 0 i
          have hf1 := HFL.out i
          have hf2 := HFL.out 0
          have ho1 : v < u → flatLen j C W i ≤ flatLen j C W 0 := fun h => flat_order j C W (by rw [HOL.out]; exact e) (by rw [HWI.out, HW0.out]; exact h)
          have ho2 : u < v → flatLen j C W 0 ≤ flatLen j C W i := fun h => flat_order j C W (by rw [HOL.out]; omega) (by rw [HWI.out, HW0.out]; exact h)
          obtain ⟨p, hp⟩ : ∃ p, p = flatLen j C W i := ⟨_, rfl⟩
          obtain ⟨q, hq⟩ : ∃ q, q = flatLen j C W 0 := ⟨_, rfl⟩
          rw [← hp] at ki hn1 hn2 hf1 ho1 ho2
          rw [← hq] at k0 hn1 hn2 hf2 ho1 ho2
          obtain ⟨s1, hs1⟩ : ∃ s1, (p : Int) - (q : Int) = s1 := ⟨_, rfl⟩
          obtain ⟨s2, hs2⟩ : ∃ s2, (q : Int) - (p : Int) = s2 := ⟨_, rfl⟩
          have w1 : IntKind.i64.wrap s1 = s1 := by rw [IntKind.wrap_i64]; omega
          have w2 : IntKind.i64.wrap s2 = s2 := by rw [IntKind.wrap_i64]; omega
          have t1 : decide ((1 : Int) < s1) = false := decide_eq_false (by omega)
          have t2 : decide ((1 : Int) < s2) = false := decide_eq_false (by omega)
          have n1 : ¬ (1 : Int) < s1 := by omega
          have n2 : ¬ (1 : Int) < s2 := by omega
          clear hli hl0 hp hq hd3 HC2 hn1 hn2
          rcases Nat.lt_trichotomy u v with h | h | h
          · have g1 : decide ((v : Int) < (u : Int)) = false := decide_eq_false (by omega)
            have g2 : decide ((u : Int) < (v : Int)) = true := decide_eq_true (by omega)
            have hpq := ho2 h
            have g3 : decide ((p : Int) < (q : Int)) = false := decide_eq_false (by omega)
            have hm1 : ¬ v < u := by omega
            have hm3 : ¬ p < q := by omega
            clear ho1 ho2
            go_wp2_with fail
            go_quiet (fail)
            go_wp2_with fail
            go_roundw
            case rel =>
              obtain ⟨m, hm⟩ := HD3.out
              exact ⟨i + 1, by omega, by omega, by go_num, m + nq, by rw [hm]; simp⟩
            case measure => simp [intOf]; omega
          · have g1 : decide ((v : Int) < (u : Int)) = false := decide_eq_false (by omega)
            have g2 : decide ((u : Int) < (v : Int)) = false := decide_eq_false (by omega)
            have hm1 : ¬ v < u := by omega
            have hm2 : ¬ u < v := by omega
            clear ho1 ho2 h
            go_wp2_with fail
            go_quiet (fail)
            go_wp2_with fail
            go_roundw
            case rel =>
              obtain ⟨m, hm⟩ := HD3.out
              exact ⟨i + 1, by omega, by omega, by go_num, m + nq, by rw [hm]; simp⟩
            case measure => simp [intOf]; omega
          · have g1 : decide ((v : Int) < (u : Int)) = true := decide_eq_true (by omega)
            have g2 : decide ((u : Int) < (v : Int)) = false := decide_eq_false (by omega)
            have hpq := ho1 h
            have g3 : decide ((q : Int) < (p : Int)) = false := decide_eq_false (by omega)
            have hm2 : ¬ u < v := by omega
            have hm3 : ¬ q < p := by omega
            clear ho1 ho2
            go_wp2_with fail
            go_quiet (fail)
            go_wp2_with fail
            go_roundw
            case rel =>
              obtain ⟨m, hm⟩ := HD3.out
              exact ⟨i + 1, by omega, by omega, by go_num, m + nq, by rw [hm]; simp⟩
            case measure => simp [intOf]; omega
      · obtain rfl : i = n := by omega
        have di : decide ((i : Int) < (i : Int)) = false := decide_eq_false (by omega)
        have HB6 : Hid (Below w.heap.size w wr) := Lib.hid (by obtain ⟨m, rfl⟩ := hd; exact below_drewN HB5.out m)
        clear hd
        go_wp2_with fail
        refine (HAW.out _).mono ?_
        rintro e w10 ⟨rfl, hb10⟩
        have HB10 := Lib.hid (HB6.out.trans (hb10.mono HB6.out.size))
        clear hb10
        go_wp2_with fail
        go_ret
        exact ⟨rfl, HB10.out⟩
end

end Go.Proofs.Ythpfmkknebnppaa
