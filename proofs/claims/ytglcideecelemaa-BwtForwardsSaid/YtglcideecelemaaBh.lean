/- The answers that the document fixes; the law BwtBack, walked. Over what is asked of the sort. -/
import Derived.Test.YtglcideecelemaaBf
import Derived.Test.YtglcideecelemaaBg
import Derived.Test.YtglcideecelemaaPc
namespace Go.Proofs.Ytglcideecelemaa
open Go.RowKit

theorem fwd_six (S : SortOk 6) (w : World) : Calls Try.prog 9 #[.string ⟨#[98, 97, 110, 97, 110, 97]⟩] w fun e w' => e = .returned (.tuple #[.string ⟨#[110, 110, 98, 97, 97, 97]⟩, .int .i64 3, .int .i64 0]) ∧ Below w.heap.size w w' := by
  refine (cfwd_any 6 S w ⟨#[98, 97, 110, 97, 110, 97]⟩ (by decide) (by decide) (by decide)).mono ?_
  rintro e w' ⟨L, k, rfl, hord, hk, hv, hb⟩
  have hL : L = [5, 3, 1, 0, 4, 2] := isOrd_one hord ord_fixed
  subst hL
  have h3 : k = 3 := by
    match k, hk, hv with
    | 0, _, h => simp at h
    | 1, _, h => simp at h
    | 2, _, h => simp at h
    | 3, _, _ => rfl
    | 4, _, h => simp at h
    | 5, _, h => simp at h
  subst h3
  exact ⟨rfl, hb⟩
theorem back_two (w : World) : Calls Try.prog 11 #[.string ⟨#[97, 98]⟩, .int .i64 1] w fun e w' => e = .returned (.tuple #[.string ⟨#[98, 98]⟩, .int .i64 0]) ∧ Below w.heap.size w w' := by
  refine (cback_any w ⟨#[97, 98]⟩ 1 (by decide) (by decide)).mono ?_
  rintro e w' ⟨rfl, hb⟩
  have e : backL [97, 98] 1 = [98, 98] := by decide +kernel
  exact ⟨congrArg (fun l : List UInt8 => Ending.returned (.tuple #[.string ⟨l.toArray⟩, .int .i64 0])) e, hb⟩

set_option maxRecDepth 100000 in
theorem awake_any (S : SortOk 6) (w : World) : Calls Try.prog 8 #[] w fun e w' => e = .returned (.bool true) ∧ Below w.heap.size w w' := by
  go_enter Try.func8, Try.ntmps8
  go_wp2_with fail
  refine (fwd_six S w).mono ?_
  rintro e w1 ⟨rfl, hb1⟩
  have HB1 := Lib.hid hb1
  clear hb1
  go_wp2_with fail
  refine (back_two w1).mono ?_
  rintro e w2 ⟨rfl, hb2⟩
  have HB2 := Lib.hid (HB1.out.trans (hb2.mono HB1.out.size))
  clear hb2
  go_wp2_with fail
  go_ret
  exact ⟨rfl, HB2.out⟩

/-- Back from a row of a text's last column. -/
theorem back_text (w : World) (s u : ByteArray) (L : List Nat) (r : Nat) (hu : u.data.toList = lastCol s.data.toList L) (hus : u.size = s.size) (hord : IsOrd s.data.toList L) (hr : r < s.size) (hs : s.size ≤ 5000) :
    Calls Try.prog 11 #[.string u, .int .i64 r] w fun e w' => e = .returned (.tuple #[.string ⟨(rotL s.data.toList (L.getD r 0)).toArray⟩, .int .i64 0]) ∧ Below w.heap.size w w' := by
  have h := cback_any w u r (by omega) (by omega)
  rw [hu, back_rot hord r hr] at h
  exact h

section
variable (S : SortOk 5000)
include S

/-- Forward, and what its last column is. -/
theorem fwd_text (w : World) (s : ByteArray) (h0 : 0 < s.size) (hs : s.size ≤ 5000) : Calls Try.prog 9 #[.string s] w fun e w' => ∃ (u : ByteArray) (L : List Nat) (k : Nat), e = .returned (.tuple #[.string u, .int .i64 k, .int .i64 0]) ∧ u.data.toList = lastCol s.data.toList L ∧ u.size = s.size ∧ IsOrd s.data.toList L ∧ k < s.size ∧ L.getD k 0 = 0 ∧ Below w.heap.size w w' := by
  refine (cfwd_any 5000 S w s h0 hs (by omega)).mono ?_
  rintro e w' ⟨L, k, rfl, hord, hk, hv, hb⟩
  have hl : L.length = s.size := (isOrd_length hord).trans rfl
  refine ⟨⟨(lastCol s.data.toList L).toArray⟩, L, k, rfl, rfl, ?_, hord, by omega, hv, hb⟩
  show (lastCol s.data.toList L).toArray.size = _
  rw [List.size_toArray, lastCol_length, hl]

set_option maxRecDepth 100000 in
theorem back_out (w : World) (s : ByteArray) (ws : s.size ≤ maxLen) (h : s.size = 0 ∨ 5000 < s.size) : Calls Try.prog 5 #[.string s] w fun e w' => e = .returned (.bool true) ∧ Below w.heap.size w w' := by
  unfold maxLen at ws
  by_cases h0 : s.size = 0
  · have hd : s = ⟨#[]⟩ := by
      apply ByteArray.ext
      exact Array.eq_empty_of_size_eq_zero h0
    subst hd
    go_enter Try.func5, Try.ntmps5
    go_wp2_with fail
    refine (awake_any (S.less (by omega)) w).mono ?_
    rintro e w1 ⟨rfl, hb⟩
    have HB := Lib.hid hb
    clear hb
    go_wp2_with fail
    go_ret
    exact ⟨rfl, HB.out⟩
  · have d1 : decide ((5000 : Int) < (s.size : Int)) = true := decide_eq_true (by omega)
    have hne := not_empty s (by omega)
    go_enter Try.func5, Try.ntmps5
    go_wp2_with fail
    refine (awake_any (S.less (by omega)) w).mono ?_
    rintro e w1 ⟨rfl, hb⟩
    have HB := Lib.hid hb
    clear hb
    go_wp2_with fail
    go_ret
    exact ⟨rfl, HB.out⟩

set_option maxHeartbeats 1600000 in
set_option maxRecDepth 100000 in
theorem back_walk (w : World) (s : ByteArray) (h0 : 0 < s.size) (hs : s.size ≤ 5000) : Calls Try.prog 5 #[.string s] w fun e w' => e = .returned (.bool true) ∧ Below w.heap.size w w' := by
  have d1 : decide ((5000 : Int) < (s.size : Int)) = false := decide_eq_false (by omega)
  have hne := not_empty s h0
  have HF := Lib.hid (fwd_text S w s h0 hs)
  go_enter Try.func5, Try.ntmps5
  go_wp2_with fail
  refine HF.out.mono ?_
  rintro e w1 ⟨u, L, k, rfl, hu, hus, hord, hk, hv, hb⟩
  have hbk := back_text w1 s u L k hu hus hord hk hs
  rw [hv, rotL_zero] at hbk
  have hss : (⟨s.data.toList.toArray⟩ : ByteArray) = s := by
    apply ByteArray.ext
    simp
  rw [hss] at hbk
  have HBK := Lib.hid hbk
  have HB := Lib.hid hb
  have d2 : ((u.size : Int) == (s.size : Int)) = true := by rw [hus]; simp
  have d3 : decide ((0 : Int) ≤ (k : Int)) = true := decide_eq_true (by omega)
  have d4 : decide ((k : Int) < (s.size : Int)) = true := decide_eq_true (by omega)
  clear hbk hb hu hus hord hv hss
  go_wp2_with fail
  refine HBK.out.mono ?_
  rintro e w2 ⟨rfl, hb2⟩
  have HB2 := Lib.hid (HB.out.trans (hb2.mono HB.out.size))
  clear hb2
  go_wp2_with fail
  refine (awake_any (S.less (by omega)) w2).mono ?_
  rintro e w3 ⟨rfl, hb3⟩
  have HB3 := Lib.hid (HB2.out.trans (hb3.mono HB2.out.size))
  clear hb3
  go_wp2_with fail
  go_ret
  exact ⟨rfl, HB3.out⟩
end

end Go.Proofs.Ytglcideecelemaa
