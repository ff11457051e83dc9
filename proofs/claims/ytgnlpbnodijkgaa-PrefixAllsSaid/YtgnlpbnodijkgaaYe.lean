/- The reference's room, Check, Full, Cost. Conditions: none but the machine's own. -/
import Derived.Test.YtgnlpbnodijkgaaYd
namespace Go.Proofs.Ytgnlpbnodijkgaa
open Go.RowKit

/-- What lengths take. -/
def kraftL (L : List Int) : Nat := (L.map fun x => 2 ^ (20 - x.toNat)).sum
/-- Lengths may be. -/
def LenOk (L : List Int) : Prop := 2 ≤ L.length ∧ L.length ≤ 258 ∧ (∀ x ∈ L, 1 ≤ x ∧ x ≤ 20) ∧ kraftL L ≤ 1048576
instance (L : List Int) : Decidable (LenOk L) := inferInstanceAs (Decidable (_ ∧ _))
def roomV (L : List Int) : Int := if LenOk L then (kraftL L : Nat) else -1
theorem kraft_snoc (L : List Int) (x : Int) : kraftL (L ++ [x]) = kraftL L + 2 ^ (20 - x.toNat) := by
  unfold kraftL
  rw [List.map_append, List.sum_append]
  simp
theorem kraft_le (L : List Int) (h : ∀ x ∈ L, 1 ≤ x) : kraftL L ≤ 524288 * L.length := by
  unfold kraftL
  have h1 := sum_le 524288 (L.map fun x => 2 ^ (20 - x.toNat)) (fun y hy => by
    obtain ⟨x, hx, rfl⟩ := List.mem_map.1 hy
    have := h x hx
    have h2 : 2 ^ (20 - x.toNat) ≤ 2 ^ 19 := Nat.pow_le_pow_right (by decide) (by omega)
    exact h2)
  rw [List.length_map] at h1
  exact h1

set_option maxHeartbeats 1600000 in
set_option maxRecDepth 100000 in
theorem room_any (w : World) (A : Option Addr) (n c : Nat) (L : List Int) (hL : ZIn w A n L) (hn : n ≤ maxLen) : Calls Try.prog 48 #[.slice A n c] w fun e w' => e = .returned (.int .i64 (roomV L)) ∧ w' = w := by
  unfold maxLen at hn
  have hlm := hL.1
  have HL := Lib.hid hL
  have HLM := Lib.hid hlm
  have HNO : Hid (∀ x ∈ L, (x < 1 ∨ 20 < x) → roomV L = -1) := Lib.hid fun x hx h => if_neg fun hm => by
    have := hm.2.2.1 x hx
    omega
  have HSM : Hid ((n < 2 ∨ 258 < n) → roomV L = -1) := Lib.hid fun h => if_neg fun hm => by
    have := hm.1
    have := hm.2.1
    omega
  have HBG : Hid (1048576 < kraftL L → roomV L = -1) := Lib.hid fun h => if_neg fun hm => by
    have := hm.2.2.2
    omega
  have HOK : Hid (2 ≤ n → n ≤ 258 → (∀ x ∈ L, 1 ≤ x ∧ x ≤ 20) → kraftL L ≤ 1048576 → roomV L = (kraftL L : Nat)) := Lib.hid fun h1 h2 h3 h4 => if_pos ⟨by omega, by omega, h3, h4⟩
  clear hL hlm
  generalize roomV L = ans at *
  go_enter Try.func48, Try.ntmps48
  go_wp2_with fail
  go_loopw [3, 4] (fun s i wx => ∃ (q : Nat) (v : Int), q ≤ n ∧ i = .int .i64 q ∧ s = .int .i64 v ∧ Hid (q ≤ 1000000 → v = (kraftL (L.take q) : Nat)) ∧ Hid (∀ x ∈ L.take q, 1 ≤ x ∧ x ≤ 20) ∧ wx = w) (fun _ i _ => n - (intOf i).toNat)
  case atStart => exact ⟨0, 0, Nat.zero_le _, rfl, rfl, fun _ => rfl, by simp [Hid], rfl⟩
  case round =>
    obtain ⟨q, v, hq, rfl, rfl, hk, hv, rfl⟩ := hrel
    by_cases e : q < n
    · have dq : decide ((q : Int) < (n : Int)) = true := decide_eq_true (by omega)
      obtain ⟨b, off, rfl, hc⟩ := HL.out.2 (by omega)
      have hcw := hc q e
      have htk := take_snoc_int L q (by rw [HLM.out]; exact e)
      have hmem := getD_mem_int L q (by rw [HLM.out]; exact e)
      obtain ⟨x, hx⟩ : ∃ x, x = L.getD q 0 := ⟨_, rfl⟩
      rw [← hx] at hcw htk hmem
      have HTK := Lib.hid htk
      have HM := Lib.hid hmem
      clear hc hx htk hmem
      by_cases e1 : x < 1
      · have d1 : decide (x < 1) = true := decide_eq_true e1
        have hans := HNO.out x HM.out (.inl e1)
        subst hans
        clear HSM HBG HOK
        go_wp2_with fail
        go_ret
        exact ⟨rfl, rfl⟩
      · have d1 : decide (x < 1) = false := decide_eq_false e1
        by_cases e2 : 20 < x
        · have d2 : decide (20 < x) = true := decide_eq_true e2
          have hans := HNO.out x HM.out (.inr e2)
          subst hans
          clear HSM HBG HOK
          go_wp2_with fail
          go_ret
          exact ⟨rfl, rfl⟩
        · obtain ⟨y, rfl⟩ : ∃ y : Nat, x = y := ⟨x.toNat, by omega⟩
          have d1' : decide ((y : Int) < 1) = false := d1
          have d2 : decide ((20 : Int) < (y : Int)) = false := decide_eq_false e2
          have hv2 : ∀ z ∈ L.take (q + 1), 1 ≤ z ∧ z ≤ 20 := by
            rw [HTK.out]
            intro z hz
            rcases List.mem_append.1 hz with hz | hz
            · exact hv.out z hz
            · rw [List.mem_singleton.1 hz]
              omega
          have HV2 := Lib.hid hv2
          obtain ⟨d, hd⟩ : ∃ d, d = 20 - y := ⟨_, rfl⟩
          have hdz : (20 : Int) - (y : Int) = (d : Int) := by omega
          have hd19 : d ≤ 19 := by omega
          obtain ⟨t, ht⟩ : ∃ t : Nat, t = 2 ^ d := ⟨_, rfl⟩
          have htz : ((2 : Int) ^ d) = (t : Int) := by rw [ht]; simp
          have ht19 : t ≤ 524288 := by
            rw [ht]
            exact Nat.pow_le_pow_right (by decide) hd19
          have hkn : kraftL (L.take (q + 1)) = kraftL (L.take q) + t := by
            rw [HTK.out, kraft_snoc, ht, hd, Int.toNat_natCast]
          have hkl := kraft_le (L.take q) fun z hz => (hv.out z hz).1
          have hlt : (L.take q).length ≤ q := by rw [List.length_take]; omega
          have HKN := Lib.hid hkn
          have hy1 : ¬ (y : Int) < 1 := e1
          clear hv2 hd ht hkn e1
          by_cases e3 : q + 1 ≤ 1000000
          · have hvk := hk.out (by omega)
            obtain ⟨z, hz⟩ : ∃ z, z = kraftL (L.take q) := ⟨_, rfl⟩
            rw [← hz] at hvk hkl
            have HZ := Lib.hid hz
            subst hvk
            have hzb : z ≤ 524288000000 := by
              have : 524288 * (L.take q).length ≤ 524288 * 1000000 := Nat.mul_le_mul_left _ (by omega)
              omega
            have HK2 : Hid (q + 1 ≤ 1000000 → (z : Int) + (t : Int) = (kraftL (L.take (q + 1)) : Nat)) := Lib.hid fun _ => by rw [HKN.out, ← HZ.out]; simp
            clear hz hk hkl hlt HNO HSM HBG HOK
            go_wp2_with fail
            go_roundw
            case rel => exact ⟨q + 1, _, by omega, by go_num, rfl, HK2, HV2, trivial⟩
            case measure => simp [intOf]; omega
          · clear hkl hlt hk HNO HSM HBG HOK
            go_wp2_with fail
            go_roundw
            case rel => exact ⟨q + 1, _, by omega, by go_num, rfl, fun h => absurd h e3, HV2, trivial⟩
            case measure => simp [intOf]; omega
    · obtain rfl : q = n := by omega
      have dq : decide ((q : Int) < (q : Int)) = false := decide_eq_false (by omega)
      have hv2 := hv.out
      have hk2 := hk.out
      rw [List.take_of_length_le (Nat.le_of_eq HLM.out)] at hv2 hk2
      by_cases h1 : q < 2
      · have d1 : decide ((q : Int) < 2) = true := decide_eq_true (by omega)
        have hans := HSM.out (.inl h1)
        subst hans
        clear hv2 hk2 hk hv HNO HSM HBG HOK
        go_wp2_with fail
        go_ret
        exact ⟨rfl, rfl⟩
      · have d1 : decide ((q : Int) < 2) = false := decide_eq_false (by omega)
        by_cases h2 : 258 < q
        · have d2 : decide ((258 : Int) < (q : Int)) = true := decide_eq_true (by omega)
          have hans := HSM.out (.inr h2)
          subst hans
          clear hv2 hk2 hk hv HNO HSM HBG HOK
          go_wp2_with fail
          go_ret
          exact ⟨rfl, rfl⟩
        · have d2 : decide ((258 : Int) < (q : Int)) = false := decide_eq_false (by omega)
          have hvk := hk2 (by omega)
          obtain ⟨z, hz⟩ : ∃ z, z = kraftL L := ⟨_, rfl⟩
          rw [← hz] at hvk
          subst hvk
          by_cases h3 : 1048576 < z
          · have d3 : decide ((1048576 : Int) < (z : Int)) = true := decide_eq_true (by omega)
            have hans := HBG.out (by rw [← hz]; exact h3)
            subst hans
            clear hv2 hk2 hk hv HNO HSM HBG HOK hz
            go_wp2_with fail
            go_ret
            exact ⟨rfl, rfl⟩
          · have d3 : decide ((1048576 : Int) < (z : Int)) = false := decide_eq_false (by omega)
            have hans := HOK.out (by omega) (by omega) hv2 (by rw [← hz]; omega)
            rw [← hz] at hans
            subst hans
            clear hv2 hk2 hk hv HNO HSM HBG HOK hz
            go_wp2_with fail
            go_ret
            exact ⟨rfl, rfl⟩

theorem check_any (w : World) (A : Option Addr) (n c : Nat) (L : List Int) (hL : ZIn w A n L) (hn : n ≤ maxLen) : Calls Try.prog 25 #[.slice A n c] w fun e w' => e = .returned (.int .i64 (if LenOk L then 0 else 80)) ∧ w' = w := by
  have HR := Lib.hid (room_any w A n c L hL hn)
  clear hL
  by_cases h : LenOk L
  · rw [show roomV L = (kraftL L : Nat) from if_pos h] at HR
    rw [if_pos h]
    obtain ⟨z, hz⟩ : ∃ z, z = kraftL L := ⟨_, rfl⟩
    rw [← hz] at HR
    have d0 : decide ((z : Int) < 0) = false := decide_eq_false (by omega)
    clear h hz
    go_enter Try.func25, Try.ntmps25
    go_wp2_with fail
    refine HR.out.mono ?_
    rintro e w' ⟨rfl, rfl⟩
    go_wp2_with fail
    go_ret
    exact ⟨rfl, rfl⟩
  · rw [show roomV L = -1 from if_neg h] at HR
    rw [if_neg h]
    clear h
    go_enter Try.func25, Try.ntmps25
    go_wp2_with fail
    refine HR.out.mono ?_
    rintro e w' ⟨rfl, rfl⟩
    go_wp2_with fail
    go_ret
    exact ⟨rfl, rfl⟩


end Go.Proofs.Ytgnlpbnodijkgaa
