/- The laws BwtForwards, BwtBacks, walked. Over what is asked of the sort. -/
import Derived.Test.YtglcideecelemaaBs
import Derived.Test.YtglcideecelemaaBh
namespace Go.Proofs.Ytglcideecelemaa
open Go.RowKit

section
variable (S : SortOk 5000)
include S

set_option maxRecDepth 100000 in
theorem fwds_mid (w : World) (s : ByteArray) (h1 : 150 < s.size) (h2 : s.size ≤ 262144) : Calls Try.prog 3 #[.string s] w fun e w' => e = .returned (.bool true) ∧ Below w.heap.size w w' := by
  have d1 : decide ((150 : Int) < (s.size : Int)) = true := decide_eq_true (by omega)
  have d2 : decide ((s.size : Int) ≤ 262144) = true := decide_eq_true (by omega)
  clear h1 h2
  go_enter Try.func3, Try.ntmps3
  go_wp2_with fail
  refine (awake_any (S.less (by omega)) w).mono ?_
  rintro e w1 ⟨rfl, hb⟩
  have HB := Lib.hid hb
  clear hb
  go_wp2_with fail
  go_ret
  exact ⟨rfl, HB.out⟩

set_option maxRecDepth 100000 in
theorem fwds_big (w : World) (s : ByteArray) (ws : s.size ≤ maxLen) (h : 262144 < s.size) : Calls Try.prog 3 #[.string s] w fun e w' => e = .returned (.bool true) ∧ Below w.heap.size w w' := by
  unfold maxLen at ws
  have d1 : decide ((150 : Int) < (s.size : Int)) = true := decide_eq_true (by omega)
  have d2 : decide ((s.size : Int) ≤ 262144) = false := decide_eq_false (by omega)
  have HA := Lib.hid (cfwd_big w s h)
  have HR := Lib.hid (rfwd_big w s h)
  clear h
  go_enter Try.func3, Try.ntmps3
  go_wp2_with fail
  refine HA.out.mono ?_
  rintro e w1 ⟨rfl, rfl⟩
  go_wp2_with fail
  refine HR.out.mono ?_
  rintro e w1 ⟨rfl, rfl⟩
  go_wp2_with fail
  refine (awake_any (S.less (by omega)) _).mono ?_
  rintro e w1 ⟨rfl, hb⟩
  have HB := Lib.hid hb
  clear hb
  go_wp2_with fail
  go_ret
  exact ⟨rfl, HB.out⟩

set_option maxRecDepth 100000 in
theorem fwds_none (w : World) : Calls Try.prog 3 #[.string ⟨#[]⟩] w fun e w' => e = .returned (.bool true) ∧ Below w.heap.size w w' := by
  go_enter Try.func3, Try.ntmps3
  go_wp2_with fail
  refine (cfwd_none w).mono ?_
  rintro e w1 ⟨rfl, rfl⟩
  go_wp2_with fail
  refine (rfwd_none w).mono ?_
  rintro e w1 ⟨rfl, rfl⟩
  go_wp2_with fail
  refine (awake_any (S.less (by omega)) _).mono ?_
  rintro e w1 ⟨rfl, hb⟩
  have HB := Lib.hid hb
  clear hb
  go_wp2_with fail
  go_ret
  exact ⟨rfl, HB.out⟩

set_option maxRecDepth 100000 in
theorem fwds_walk (w : World) (s : ByteArray) (h0 : 0 < s.size) (h1 : s.size ≤ 150) : Calls Try.prog 3 #[.string s] w fun e w' => e = .returned (.bool true) ∧ Below w.heap.size w w' := by
  have d1 : decide ((150 : Int) < (s.size : Int)) = false := decide_eq_false (by omega)
  have HA := Lib.hid (cfwd_any 5000 S w s h0 (by omega) (by omega))
  have HR := Lib.hid fun w1 : World => rfwd_any w1 s h0 (by omega)
  go_enter Try.func3, Try.ntmps3
  go_wp2_with fail
  refine HA.out.mono ?_
  rintro e w1 ⟨L, k, rfl, hord, hk, hkv, hb⟩
  obtain ⟨u, hu⟩ : ∃ u : ByteArray, u = ⟨(lastCol s.data.toList L).toArray⟩ := ⟨_, rfl⟩
  rw [← hu]
  have HU := Lib.hid hu
  have HORD := Lib.hid hord
  have HK := Lib.hid hk
  have HKV := Lib.hid hkv
  have HB := Lib.hid hb
  clear hu hord hk hkv hb
  go_wp2_with fail
  refine (HR.out w1).mono ?_
  rintro e w2 ⟨M, k2, rfl, hord2, hk2, hkv2, hb2⟩
  have hML : M = L := isOrd_one hord2 HORD.out
  subst hML
  have hkk : k2 = k := by
    have hi : k2 < M.length := hk2
    have hj : k < M.length := HK.out
    have h3 : M.getD k2 0 = M.getD k 0 := hkv2.trans HKV.out.symm
    rw [List.getD_eq_getElem?_getD, List.getElem?_eq_getElem hi, List.getD_eq_getElem?_getD, List.getElem?_eq_getElem hj] at h3
    exact nodup_inj (isOrd_nodup hord2) hi hj h3
  subst hkk
  rw [← HU.out]
  have HB2 := Lib.hid (HB.out.trans (hb2.mono HB.out.size))
  have d2 : ((k2 : Int) == (k2 : Int)) = true := beq_self_eq_true _
  clear hord2 hk2 hkv2 hb2
  go_wp2_with fail
  refine (awake_any (S.less (by omega)) w2).mono ?_
  rintro e w3 ⟨rfl, hb3⟩
  have HB3 := Lib.hid (HB2.out.trans (hb3.mono HB2.out.size))
  clear hb3
  go_wp2_with fail
  go_ret
  exact ⟨rfl, HB3.out⟩

theorem fwds_all (w : World) (s : ByteArray) (ws : s.size ≤ maxLen) : Calls Try.prog 3 #[.string s] w fun e w' => e = .returned (.bool true) ∧ Below w.heap.size w w' := by
  by_cases h1 : 262144 < s.size
  · exact fwds_big S w s ws h1
  · by_cases h2 : 150 < s.size
    · exact fwds_mid S w s h2 (by omega)
    · by_cases h3 : s.size = 0
      · have hd : s = ⟨#[]⟩ := by
          apply ByteArray.ext
          exact Array.eq_empty_of_size_eq_zero h3
        subst hd
        exact fwds_none S w
      · exact fwds_walk S w s (by omega) (by omega)

set_option maxRecDepth 100000 in
theorem backs_mid (w : World) (s : ByteArray) (r : Int) (h1 : 1500 < s.size) (h2 : s.size ≤ 262144) : Calls Try.prog 4 #[.string s, .int .i64 r] w fun e w' => e = .returned (.bool true) ∧ Below w.heap.size w w' := by
  have d1 : decide ((1500 : Int) < (s.size : Int)) = true := decide_eq_true (by omega)
  have d2 : decide ((s.size : Int) ≤ 262144) = true := decide_eq_true (by omega)
  clear h1 h2
  go_enter Try.func4, Try.ntmps4
  go_wp2_with fail
  refine (awake_any (S.less (by omega)) w).mono ?_
  rintro e w1 ⟨rfl, hb⟩
  have HB := Lib.hid hb
  clear hb
  go_wp2_with fail
  go_ret
  exact ⟨rfl, HB.out⟩

set_option maxRecDepth 100000 in
theorem backs_big (w : World) (s : ByteArray) (r : Int) (ws : s.size ≤ maxLen) (h : 262144 < s.size) : Calls Try.prog 4 #[.string s, .int .i64 r] w fun e w' => e = .returned (.bool true) ∧ Below w.heap.size w w' := by
  unfold maxLen at ws
  have d1 : decide ((1500 : Int) < (s.size : Int)) = true := decide_eq_true (by omega)
  have d2 : decide ((s.size : Int) ≤ 262144) = false := decide_eq_false (by omega)
  have HA := Lib.hid (cback_big w s r h)
  have HR := Lib.hid (rback_big w s r h)
  clear h
  go_enter Try.func4, Try.ntmps4
  go_wp2_with fail
  refine HA.out.mono ?_
  rintro e w1 ⟨rfl, rfl⟩
  go_wp2_with fail
  refine HR.out.mono ?_
  rintro e w1 ⟨rfl, rfl⟩
  go_wp2_with fail
  refine (awake_any (S.less (by omega)) _).mono ?_
  rintro e w1 ⟨rfl, hb⟩
  have HB := Lib.hid hb
  clear hb
  go_wp2_with fail
  go_ret
  exact ⟨rfl, HB.out⟩

set_option maxRecDepth 100000 in
theorem backs_out (w : World) (s : ByteArray) (r : Int) (h1 : s.size ≤ 1500) (h : r < 0 ∨ (s.size : Int) ≤ r) : Calls Try.prog 4 #[.string s, .int .i64 r] w fun e w' => e = .returned (.bool true) ∧ Below w.heap.size w w' := by
  have d1 : decide ((1500 : Int) < (s.size : Int)) = false := decide_eq_false (by omega)
  have HA := Lib.hid (cback_out w s r (by omega) h)
  have HR := Lib.hid (rback_out w s r (by omega) h)
  clear h
  go_enter Try.func4, Try.ntmps4
  go_wp2_with fail
  refine HA.out.mono ?_
  rintro e w1 ⟨rfl, rfl⟩
  go_wp2_with fail
  refine HR.out.mono ?_
  rintro e w1 ⟨rfl, rfl⟩
  go_wp2_with fail
  refine (awake_any (S.less (by omega)) _).mono ?_
  rintro e w1 ⟨rfl, hb⟩
  have HB := Lib.hid hb
  clear hb
  go_wp2_with fail
  go_ret
  exact ⟨rfl, HB.out⟩

set_option maxRecDepth 100000 in
theorem backs_walk (w : World) (s : ByteArray) (r : Nat) (h1 : s.size ≤ 1500) (hr : r < s.size) : Calls Try.prog 4 #[.string s, .int .i64 r] w fun e w' => e = .returned (.bool true) ∧ Below w.heap.size w w' := by
  have d1 : decide ((1500 : Int) < (s.size : Int)) = false := decide_eq_false (by omega)
  have HA := Lib.hid (cback_any w s r hr (by omega))
  have HR := Lib.hid fun w1 : World => rback_any w1 s r hr (by omega)
  obtain ⟨u, hu⟩ : ∃ u : ByteArray, u = ⟨(backL s.data.toList r).toArray⟩ := ⟨_, rfl⟩
  rw [← hu] at HA HR
  clear hu
  go_enter Try.func4, Try.ntmps4
  go_wp2_with fail
  refine HA.out.mono ?_
  rintro e w1 ⟨rfl, hb⟩
  have HB := Lib.hid hb
  clear hb
  go_wp2_with fail
  refine (HR.out w1).mono ?_
  rintro e w2 ⟨rfl, hb2⟩
  have HB2 := Lib.hid (HB.out.trans (hb2.mono HB.out.size))
  clear hb2
  go_wp2_with fail
  refine (awake_any (S.less (by omega)) w2).mono ?_
  rintro e w3 ⟨rfl, hb3⟩
  have HB3 := Lib.hid (HB2.out.trans (hb3.mono HB2.out.size))
  clear hb3
  go_wp2_with fail
  go_ret
  exact ⟨rfl, HB3.out⟩

theorem backs_all (w : World) (s : ByteArray) (r : Int) (ws : s.size ≤ maxLen) : Calls Try.prog 4 #[.string s, .int .i64 r] w fun e w' => e = .returned (.bool true) ∧ Below w.heap.size w w' := by
  by_cases h1 : 262144 < s.size
  · exact backs_big S w s r ws h1
  · by_cases h2 : 1500 < s.size
    · exact backs_mid S w s r h2 (by omega)
    · by_cases h3 : r < 0 ∨ (s.size : Int) ≤ r
      · exact backs_out S w s r (by omega) h3
      · obtain ⟨k, rfl⟩ : ∃ k : Nat, r = k := ⟨r.toNat, by omega⟩
        exact backs_walk S w s k (by omega) (by omega)
end

end Go.Proofs.Ytglcideecelemaa
