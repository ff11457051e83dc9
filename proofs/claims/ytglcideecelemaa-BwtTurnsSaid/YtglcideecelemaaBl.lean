/- The law BwtTurns, walked. Over what is asked of the sort. -/
import Derived.Test.YtglcideecelemaaBk
import Derived.Test.YtglcideecelemaaKk
namespace Go.Proofs.Ytglcideecelemaa
open Go.RowKit

theorem cmpV_zero {s : List UInt8} {i : Nat} (h : cmpV s 0 i = 0) : rotL s i = s := by
  unfold cmpV at h
  by_cases h1 : rotL s 0 < rotL s i
  · rw [if_pos h1] at h
    exact absurd h (by decide)
  · rw [if_neg h1] at h
    by_cases h2 : rotL s i < rotL s 0
    · rw [if_pos h2] at h
      exact absurd h (by decide)
    · rw [rotL_zero] at h1 h2
      exact List.le_antisymm (List.not_lt.1 h1) (List.not_lt.1 h2)
theorem getD_inj {s : List UInt8} {L : List Nat} (h : IsOrd s L) {i j : Nat} (hi : i < L.length) (hj : j < L.length) (e : L.getD i 0 = L.getD j 0) : i = j := by
  rw [List.getD_eq_getElem?_getD, List.getElem?_eq_getElem hi, List.getD_eq_getElem?_getD, List.getElem?_eq_getElem hj] at e
  exact nodup_inj (isOrd_nodup h) hi hj e
theorem cnt_step (l : List UInt8) (b : UInt8) (q : Nat) (h : q < l.length) : cntL (l.take (q + 1)) b.toNat = cntL (l.take q) b.toNat + if l.getD q 0 = b then 1 else 0 := by
  rw [cnt_next l q b.toNat h]
  by_cases e : l.getD q 0 = b
  · subst e
    rw [if_pos rfl, if_pos rfl]
  · have e2 : ¬ b.toNat = (l.getD q 0).toNat := fun h2 => e (UInt8.toNat_inj.1 h2.symm)
    rw [if_neg e2, if_neg e]
    rfl
theorem cnt_perm {l m : List UInt8} (h : l.Perm m) (b : Nat) : cntL l b = cntL m b := by
  unfold cntL
  exact h.countP_eq _

section
variable (S : SortOk 5000)
include S

set_option maxRecDepth 100000 in
theorem turns_out (w : World) (s : ByteArray) (i b : Int) (ws : s.size ≤ maxLen) (h : 2000 < s.size ∨ i < 0 ∨ (s.size : Int) ≤ i) : Calls Try.prog 7 #[.string s, .int .i64 i, .int .u8 b] w fun e w' => e = .returned (.bool true) ∧ Below w.heap.size w w' := by
  unfold maxLen at ws
  have key : 2000 < s.size ∨ (s.size ≤ 2000 ∧ i < 0) ∨ (s.size ≤ 2000 ∧ ¬ i < 0 ∧ (s.size : Int) ≤ i) := by omega
  clear h
  rcases key with h1 | ⟨h1, h2⟩ | ⟨h1, h2, h3⟩
  · have d1 : decide ((2000 : Int) < (s.size : Int)) = true := decide_eq_true (by omega)
    go_enter Try.func7, Try.ntmps7
    go_wp2_with fail
    refine (awake_any (S.less (by omega)) w).mono ?_
    rintro e w1 ⟨rfl, hb⟩
    have HB := Lib.hid hb
    clear hb
    go_wp2_with fail
    go_ret
    exact ⟨rfl, HB.out⟩
  · have d1 : decide ((2000 : Int) < (s.size : Int)) = false := decide_eq_false (by omega)
    have d2 : decide (i < 0) = true := decide_eq_true h2
    go_enter Try.func7, Try.ntmps7
    go_wp2_with fail
    refine (awake_any (S.less (by omega)) w).mono ?_
    rintro e w1 ⟨rfl, hb⟩
    have HB := Lib.hid hb
    clear hb
    go_wp2_with fail
    go_ret
    exact ⟨rfl, HB.out⟩
  · have d1 : decide ((2000 : Int) < (s.size : Int)) = false := decide_eq_false (by omega)
    have d2 : decide (i < 0) = false := decide_eq_false h2
    have d3 : decide ((s.size : Int) ≤ i) = true := decide_eq_true h3
    go_enter Try.func7, Try.ntmps7
    go_wp2_with fail
    refine (awake_any (S.less (by omega)) w).mono ?_
    rintro e w1 ⟨rfl, hb⟩
    have HB := Lib.hid hb
    clear hb
    go_wp2_with fail
    go_ret
    exact ⟨rfl, HB.out⟩

set_option maxHeartbeats 4000000 in
set_option maxRecDepth 100000 in
theorem turns_walk (w : World) (s : ByteArray) (i : Nat) (b : UInt8) (hi : i < s.size) (hs : s.size ≤ 2000) : Calls Try.prog 7 #[.string s, .int .i64 i, .int .u8 b.toNat] w fun e w' => e = .returned (.bool true) ∧ Below w.heap.size w w' := by
  have d1 : decide ((2000 : Int) < (s.size : Int)) = false := decide_eq_false (by omega)
  have d2 : decide ((i : Int) < 0) = false := decide_eq_false (by omega)
  have d3 : decide ((s.size : Int) ≤ (i : Int)) = false := decide_eq_false (by omega)
  have HSL := Lib.hid (show s.data.toList.length = s.size from rfl)
  have HF := Lib.hid (fwd_text S w s (by omega) (by omega))
  have hx1 : (0 : Int) ≤ (i : Int) := by omega
  have hx2 : (i : Int) ≤ (s.size : Int) := by omega
  have hex := rotB_ext s i
  have h1 : (s.extract i s.size).size = s.size - i := by rw [ByteArray.size_extract]; omega
  have h2 : (s.extract 0 i).size = i := by rw [ByteArray.size_extract]; omega
  obtain ⟨v, hv⟩ : ∃ v, v = rotB s i := ⟨_, rfl⟩
  have hvl : v.data.toList = rotL s.data.toList i := by rw [hv]; rfl
  have hvs : v.size = s.size := by
    show v.data.toList.length = s.data.toList.length
    rw [hvl, rotL_length]
  rw [← hv] at hex
  have hcat : ∀ w9 : World, (Op.stringOp .add (s.extract i s.size) (s.extract 0 i)).run Try.prog w9 = .ok (.string v) w9 := fun w9 => (run_string_add_sum w9 _ _ (by omega)).trans (by rw [hex])
  have HF2 := Lib.hid fun w1 : World => fwd_text S w1 v (by omega) (by omega)
  have HAW := Lib.hid (awake_any (S.less (show 6 ≤ 5000 by omega)))
  have HRK := Lib.hid fun w1 : World => crank_any 5000 S w1 s i hi (by omega) (by omega)
  have HCM := Lib.hid fun w1 : World => ccmp_any w1 s 0 i (by omega) hi (by omega)
  have HVL := Lib.hid hvl
  have HVS := Lib.hid hvs
  clear hv hvl hvs hex h1 h2
  go_enter Try.func7, Try.ntmps7
  go_wp2_with fail
  refine HF.out.mono ?_
  rintro e w1 ⟨u, L, k, rfl, hu, hus, hord, hk, hv, hb⟩
  have HU := Lib.hid hu
  have HUS := Lib.hid hus
  have HORD := Lib.hid hord
  have HB := Lib.hid hb
  have HV := Lib.hid hv
  have hz := hb.size
  clear hu hus hord hv hb
  go_upto_region 4 with fail
  go_region_held3 (fun _ => True) (first | exact trivial | go_keep)
    (first | (go_at_call 9; refine (HF2.out _).mono ?_; rintro e w2 ⟨u2, M, k2, rfl, hu2, hus2, hord2, hk2, hv2, hb2⟩))
  have huu : u2 = u := by
    apply ByteArray.ext
    apply Array.ext'
    show u2.data.toList = u.data.toList
    rw [hu2, HVL.out, HU.out]
    exact lastCol_turn (by rw [HSL.out]; exact hi) HORD.out (by rw [← HVL.out]; exact hord2)
  subst huu
  rw [HVL.out] at hord2
  have HORD2 := Lib.hid hord2
  have HV2 := Lib.hid hv2
  have HB2 := Lib.hid (HB.out.trans (((Below.refl w1.heap.size w1).drew.trans hb2).mono hz))
  have hk2' : k2 < s.size := by rw [← HVS.out]; exact hk2
  have d4 : ((u2.size : Int) != (s.size : Int)) = false := by rw [HUS.out]; simp
  clear hu2 hus2 hord2 hv2 hb2 hk2 hz
  go_wp2_with fail
  go_loop [13, 14] (fun x j => ∃ (q : Nat) (z : Int), q ≤ s.size ∧ j = .int .i64 q ∧ x = .int .i64 z ∧ z = (cntL (s.data.toList.take q) b.toNat : Int) - (cntL (u2.data.toList.take q) b.toNat : Int)) (fun _ j => s.size - (intOf j).toNat)
  case atStart => exact ⟨0, 0, Nat.zero_le _, rfl, rfl, by simp [cntL]⟩
  case round =>
    obtain ⟨q, z, hq, rfl, rfl, hz⟩ := hrel
    by_cases e : q < s.size
    · have hqu : q < u2.size := by rw [HUS.out]; exact e
      have hn1 := cnt_step s.data.toList b q (by rw [HSL.out]; exact e)
      have hn2 := cnt_step u2.data.toList b q hqu
      rw [getD_byte s q e] at hn1
      rw [getD_byte u2 q hqu] at hn2
      have hb1 := cnt_le s.data.toList q b.toNat
      have hb2 := cnt_le u2.data.toList q b.toNat
      rw [HSL.out] at hb1
      rw [show u2.data.toList.length = s.size from HUS.out] at hb2
      have hzl : -2000 ≤ z := by omega
      have hzh : z ≤ 2000 := by omega
      have HZ := Lib.hid hz
      have HN1 := Lib.hid hn1
      have HN2 := Lib.hid hn2
      clear hz hn1 hn2 hb1 hb2
      by_cases e1 : s[q] = b
      · have q1 : ((s[q].toNat : Int) == (b.toNat : Int)) = true := by rw [e1]; simp
        by_cases e2 : u2[q] = b
        · have q2 : ((u2[q].toNat : Int) == (b.toNat : Int)) = true := by rw [e2]; simp
          have hnx : z = (cntL (s.data.toList.take (q + 1)) b.toNat : Int) - (cntL (u2.data.toList.take (q + 1)) b.toNat : Int) := by
            rw [HN1.out, HN2.out, if_pos e1, if_pos e2, HZ.out]
            omega
          have HNX := Lib.hid hnx
          clear hnx e1 e2
          go_wp2_with fail
          go_round
          case rel => exact ⟨q + 1, z, by omega, by go_num, by go_num, HNX.out⟩
          case measure => simp [intOf]; omega
        · have q2 : ((u2[q].toNat : Int) == (b.toNat : Int)) = false := by
            simp only [beq_eq_false_iff_ne, ne_eq]
            exact fun h => e2 (UInt8.toNat_inj.1 (by omega))
          have hnx : z + 1 = (cntL (s.data.toList.take (q + 1)) b.toNat : Int) - (cntL (u2.data.toList.take (q + 1)) b.toNat : Int) := by
            rw [HN1.out, HN2.out, if_pos e1, if_neg e2, HZ.out]
            omega
          have HNX := Lib.hid hnx
          clear hnx e1 e2
          go_wp2_with fail
          go_round
          case rel => exact ⟨q + 1, z + 1, by omega, by go_num, by go_num, HNX.out⟩
          case measure => simp [intOf]; omega
      · have q1 : ((s[q].toNat : Int) == (b.toNat : Int)) = false := by
          simp only [beq_eq_false_iff_ne, ne_eq]
          exact fun h => e1 (UInt8.toNat_inj.1 (by omega))
        by_cases e2 : u2[q] = b
        · have q2 : ((u2[q].toNat : Int) == (b.toNat : Int)) = true := by rw [e2]; simp
          have hnx : z - 1 = (cntL (s.data.toList.take (q + 1)) b.toNat : Int) - (cntL (u2.data.toList.take (q + 1)) b.toNat : Int) := by
            rw [HN1.out, HN2.out, if_neg e1, if_pos e2, HZ.out]
            omega
          have HNX := Lib.hid hnx
          clear hnx e1 e2
          go_wp2_with fail
          go_round
          case rel => exact ⟨q + 1, z - 1, by omega, by go_num, by go_num, HNX.out⟩
          case measure => simp [intOf]; omega
        · have q2 : ((u2[q].toNat : Int) == (b.toNat : Int)) = false := by
            simp only [beq_eq_false_iff_ne, ne_eq]
            exact fun h => e2 (UInt8.toNat_inj.1 (by omega))
          have hnx : z = (cntL (s.data.toList.take (q + 1)) b.toNat : Int) - (cntL (u2.data.toList.take (q + 1)) b.toNat : Int) := by
            rw [HN1.out, HN2.out, if_neg e1, if_neg e2, HZ.out]
            omega
          have HNX := Lib.hid hnx
          clear hnx e1 e2
          go_wp2_with fail
          go_round
          case rel => exact ⟨q + 1, z, by omega, by go_num, by go_num, HNX.out⟩
          case measure => simp [intOf]; omega
    · obtain rfl : q = s.size := by omega
      have hz0 : z = 0 := by
        have hp := cnt_perm (lastCol_perm HORD.out) b.toNat
        rw [← HU.out] at hp
        have t1 : s.data.toList.take s.size = s.data.toList := List.take_of_length_le (Nat.le_of_eq HSL.out)
        have t2 : u2.data.toList.take s.size = u2.data.toList := List.take_of_length_le (by rw [show u2.data.toList.length = s.size from HUS.out]; exact Nat.le_refl _)
        rw [t1, t2, hp] at hz
        omega
      subst hz0
      clear hz
      go_wp2_with fail
      refine (HRK.out w2).mono ?_
      rintro e w3 ⟨p, rfl, hrank, hb3⟩
      have HB3 := Lib.hid (HB2.out.trans (hb3.mono HB2.out.size))
      have hkp : k2 ≤ p := by
        obtain ⟨L', hL', hp1, hp2⟩ := hrank
        have hLL : L' = L := isOrd_one hL' HORD.out
        subst hLL
        refine own_first (by rw [HSL.out]; exact hi) HORD.out HORD2.out ?_ HV2.out hp1 hp2
        rw [isOrd_length HORD2.out, rotL_length, HSL.out]
        exact hk2'
      have d5 : decide ((k2 : Int) ≤ (p : Int)) = true := decide_eq_true (by omega)
      clear hrank hb3
      go_wp2_with fail
      refine (HCM.out w3).mono ?_
      rintro e w4 ⟨rfl, m4, rfl⟩
      have hcz : cmpV s.data.toList 0 i = 0 → k = k2 := by
        intro h
        have hr := cmpV_zero h
        have hord3 := HORD2.out
        rw [hr] at hord3
        have hML : M = L := isOrd_one hord3 HORD.out
        subst hML
        have hl : M.length = s.size := (isOrd_length HORD.out).trans HSL.out
        exact getD_inj HORD.out (by omega) (by omega) (HV.out.trans HV2.out.symm)
      obtain ⟨c, hc⟩ : ∃ c, c = cmpV s.data.toList 0 i := ⟨_, rfl⟩
      rw [← hc] at hcz ⊢
      have HB4 := Lib.hid (below_drewN HB3.out m4)
      generalize w3.drewN m4 = w4 at *
      by_cases c0 : c = 0
      · obtain rfl := hcz c0
        subst c0
        have d6 : ((k : Int) == (k : Int)) = true := beq_self_eq_true _
        clear hc hcz
        go_wp2_with fail
        refine (HAW.out w4).mono ?_
        rintro e w5 ⟨rfl, hb5⟩
        have HB5 := Lib.hid (HB4.out.trans (hb5.mono HB4.out.size))
        clear hb5
        go_wp2_with fail
        go_ret
        exact ⟨rfl, HB5.out⟩
      · have d6 : (c != (0 : Int)) = true := by simp [c0]
        clear hc hcz
        go_wp2_with fail
        refine (HAW.out w4).mono ?_
        rintro e w5 ⟨rfl, hb5⟩
        have HB5 := Lib.hid (HB4.out.trans (hb5.mono HB4.out.size))
        clear hb5
        go_wp2_with fail
        go_ret
        exact ⟨rfl, HB5.out⟩
end

end Go.Proofs.Ytglcideecelemaa
