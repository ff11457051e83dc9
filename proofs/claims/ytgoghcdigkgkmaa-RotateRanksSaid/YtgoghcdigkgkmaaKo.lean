/- The laws RotateOrders, RotateRanks, walked. Over what is asked of the sort, of 150 numbers. -/
import Derived.Test.YtgoghcdigkgkmaaGj
import Derived.Test.YtgoghcdigkgkmaaPc
namespace Go.Proofs.Ytgoghcdigkgkmaa
open Go.RowKit

section
variable (S : SortOk 150)
include S
set_option maxRecDepth 100000 in
theorem orders_big (w : World) (s : ByteArray) (ws : s.size ≤ maxLen) (h : 150 < s.size) : Calls Try.prog 4 #[.string s] w fun e w' => e = .returned (.bool true) ∧ Below w.heap.size w w' := by
  unfold maxLen at ws
  have d1 : decide ((150 : Int) < (s.size : Int)) = true := decide_eq_true (by omega)
  go_enter Try.func4, Try.ntmps4
  go_wp2_with fail
  refine (awake_any (S.less (by omega)) w).mono ?_
  rintro e w1 ⟨rfl, hb⟩
  have HB := Lib.hid hb
  clear hb
  go_wp2_with fail
  go_ret
  exact ⟨rfl, HB.out⟩

set_option maxHeartbeats 1600000 in
set_option maxRecDepth 100000 in
theorem orders_walk (w : World) (s : ByteArray) (h : s.size ≤ 150) : Calls Try.prog 4 #[.string s] w fun e w' => e = .returned (.bool true) ∧ Below w.heap.size w w' := by
  have d1 : decide ((150 : Int) < (s.size : Int)) = false := decide_eq_false (by omega)
  have hsl : s.data.toList.length = s.size := rfl
  have HSL := Lib.hid hsl
  have HA := Lib.hid (order_any 150 S w s h (by omega))
  have HR := Lib.hid fun w1 : World => rord_any w1 s (by omega)
  have hs6 : s.size ≤ 1000000 := by omega
  clear hsl
  go_enter Try.func4, Try.ntmps4
  go_wp2_with fail
  refine HA.out.mono ?_
  rintro e w1 ⟨g, L, rfl, hrow, hord, hg, hb⟩
  have HW := Lib.hid hrow
  have HD := Lib.hid hord
  have HB := Lib.hid hb
  have hz := hb.size
  clear hrow hord hb
  rw [HSL.out]
  go_wp2_with fail
  refine (HR.out w1).mono ?_
  rintro e w2 ⟨A, c, M, rfl, hown, hord2, hb2⟩
  have hML : M = L := isOrd_one hord2 HD.out
  subst hML
  have hl : M.length = s.size := (isOrd_length hord2).trans HSL.out
  have h1 : IntsIn w2 (some ⟨g, 0, none⟩) s.size M := ints_below (HW.out.ints hl) hb2
  have h2 : IntsIn w2 A s.size M := by
    have := ints_of_own hown
    rwa [hl] at this
  rw [hl]
  have HI := Lib.hid (ints_same w2 (some ⟨g, 0, none⟩) A s.size s.size c M h1 h2 hs6)
  have HB2 := Lib.hid (HB.out.trans (hb2.mono hz))
  clear hown hord2 hb2 hl h1 h2
  go_wp2_with fail
  refine HI.out.mono ?_
  rintro e w3 ⟨rfl, m3, rfl⟩
  have HB3 := Lib.hid (below_drewN HB2.out m3)
  generalize w2.drewN m3 = w3 at *
  go_wp2_with fail
  refine (awake_any (S.less (by omega)) w3).mono ?_
  rintro e w4 ⟨rfl, hb4⟩
  have HB4 := Lib.hid (HB3.out.trans (hb4.mono HB3.out.size))
  clear hb4
  go_wp2_with fail
  go_ret
  exact ⟨rfl, HB4.out⟩

set_option maxRecDepth 100000 in
theorem ranks_big (w : World) (s : ByteArray) (i : Int) (ws : s.size ≤ maxLen) (h : 150 < s.size) : Calls Try.prog 5 #[.string s, .int .i64 i] w fun e w' => e = .returned (.bool true) ∧ Below w.heap.size w w' := by
  unfold maxLen at ws
  have d1 : decide ((150 : Int) < (s.size : Int)) = true := decide_eq_true (by omega)
  go_enter Try.func5, Try.ntmps5
  go_wp2_with fail
  refine (awake_any (S.less (by omega)) w).mono ?_
  rintro e w1 ⟨rfl, hb⟩
  have HB := Lib.hid hb
  clear hb
  go_wp2_with fail
  go_ret
  exact ⟨rfl, HB.out⟩

set_option maxHeartbeats 1600000 in
set_option maxRecDepth 100000 in
theorem ranks_walk (w : World) (s : ByteArray) (i : Int) (h : s.size ≤ 150) : Calls Try.prog 5 #[.string s, .int .i64 i] w fun e w' => e = .returned (.bool true) ∧ Below w.heap.size w w' := by
  have d1 : decide ((150 : Int) < (s.size : Int)) = false := decide_eq_false (by omega)
  by_cases hr : i < 0 ∨ (s.size : Int) ≤ i
  · have HA := Lib.hid (crank_arg w s i hr)
    have HB := Lib.hid (rrank_arg w s i hr)
    clear hr
    go_enter Try.func5, Try.ntmps5
    go_wp2_with fail
    refine HA.out.mono ?_
    rintro e w1 ⟨rfl, rfl⟩
    go_wp2_with fail
    refine HB.out.mono ?_
    rintro e w1 ⟨rfl, rfl⟩
    go_wp2_with fail
    refine (awake_any (S.less (by omega)) _).mono ?_
    rintro e w3 ⟨rfl, hb⟩
    have HC := Lib.hid hb
    clear hb
    go_wp2_with fail
    go_ret
    exact ⟨rfl, HC.out⟩
  · obtain ⟨a, rfl⟩ : ∃ a : Nat, i = a := ⟨i.toNat, by omega⟩
    have HA := Lib.hid (crank_any 150 S w s a (by omega) h (by omega))
    have HB := Lib.hid fun w1 : World => rrank_any w1 s a (by omega) (by omega)
    clear hr
    go_enter Try.func5, Try.ntmps5
    go_wp2_with fail
    refine HA.out.mono ?_
    rintro e w1 ⟨k, rfl, hk, hb⟩
    have HK := Lib.hid hk
    have HB1 := Lib.hid hb
    clear hk hb
    go_wp2_with fail
    refine (HB.out w1).mono ?_
    rintro e w2 ⟨k2, rfl, hk2, hb2⟩
    obtain rfl := isRank_one hk2 HK.out
    have HB2 := Lib.hid (HB1.out.trans (hb2.mono HB1.out.size))
    have d2 : ((k2 : Int) == (k2 : Int)) = true := beq_self_eq_true _
    clear hk2 hb2
    go_wp2_with fail
    refine (awake_any (S.less (by omega)) w2).mono ?_
    rintro e w3 ⟨rfl, hb3⟩
    have HB3 := Lib.hid (HB2.out.trans (hb3.mono HB2.out.size))
    clear hb3
    go_wp2_with fail
    go_ret
    exact ⟨rfl, HB3.out⟩
end

end Go.Proofs.Ytgoghcdigkgkmaa
