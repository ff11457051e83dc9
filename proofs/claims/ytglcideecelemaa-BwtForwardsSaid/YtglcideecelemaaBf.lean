/- The transform's way back: Back. Conditions: none beyond a length that a text may have. -/
import Derived.Test.YtglcideecelemaaBe
namespace Go.Proofs.Ytglcideecelemaa
open Go.RowKit

set_option maxRecDepth 100000 in
theorem cback_any (w : World) (s : ByteArray) (r : Nat) (hr : r < s.size) (hs : s.size ≤ 262144) : Calls Try.prog 11 #[.string s, .int .i64 r] w fun e w' => e = .returned (.tuple #[.string ⟨(backL s.data.toList r).toArray⟩, .int .i64 0]) ∧ Below w.heap.size w w' := by
  have d0 : decide ((262144 : Int) < (s.size : Int)) = false := decide_eq_false (by omega)
  have d1 : decide ((r : Int) < 0) = false := decide_eq_false (by omega)
  have d2 : decide ((s.size : Int) ≤ (r : Int)) = false := decide_eq_false (by omega)
  have HA := Lib.hid (through_any w s (by omega))
  have HF := Lib.hid fun (w1 : World) (pb : Nat) => from_any w1 s pb r hr (by omega)
  clear hs
  go_enter Try.func11, Try.ntmps11
  go_wp2_with fail
  refine HA.out.mono ?_
  rintro e w1 ⟨pb, rfl, hw, hb⟩
  have HW := Lib.hid hw
  have HB := Lib.hid hb
  clear hw hb
  go_wp2_with fail
  refine (HF.out w1 pb HW.out).mono ?_
  rintro e w2 ⟨rfl, hb2⟩
  have HB2 := Lib.hid (HB.out.trans (hb2.mono HB.out.size))
  clear hb2
  go_wp2_with fail
  go_ret2
  exact ⟨rfl, HB2.out⟩

set_option maxRecDepth 100000 in
theorem cback_big (w : World) (s : ByteArray) (r : Int) (hs : 262144 < s.size) : Calls Try.prog 11 #[.string s, .int .i64 r] w fun e w' => e = .returned (.tuple #[.string ⟨#[]⟩, .int .i64 3]) ∧ w = w' := by
  have d0 : decide ((262144 : Int) < (s.size : Int)) = true := decide_eq_true (by omega)
  clear hs
  go_enter Try.func11, Try.ntmps11
  go_wp2_with fail
  go_ret2
  exact ⟨rfl, rfl⟩

set_option maxRecDepth 100000 in
theorem cback_out (w : World) (s : ByteArray) (r : Int) (hs : s.size ≤ 262144) (hr : r < 0 ∨ (s.size : Int) ≤ r) : Calls Try.prog 11 #[.string s, .int .i64 r] w fun e w' => e = .returned (.tuple #[.string ⟨#[]⟩, .int .i64 50]) ∧ w = w' := by
  have d0 : decide ((262144 : Int) < (s.size : Int)) = false := decide_eq_false (by omega)
  by_cases h1 : r < 0
  · have d1 : decide (r < 0) = true := decide_eq_true h1
    clear hs hr
    go_enter Try.func11, Try.ntmps11
    go_wp2_with fail
    go_ret2
    exact ⟨rfl, rfl⟩
  · have d1 : decide (r < 0) = false := decide_eq_false h1
    have d2 : decide ((s.size : Int) ≤ r) = true := decide_eq_true (by omega)
    clear hs hr
    go_enter Try.func11, Try.ntmps11
    go_wp2_with fail
    go_ret2
    exact ⟨rfl, rfl⟩

end Go.Proofs.Ytglcideecelemaa
