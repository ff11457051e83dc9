/- Cmp where a number is not there. -/
import Derived.Test.YtglcideecelemaaKj
namespace Go.Proofs.Ytglcideecelemaa
open Go.RowKit

set_option maxRecDepth 100000 in
theorem ccmp_arg (w : World) (s : ByteArray) (i j : Int) (h : (i < 0 ∨ (s.size : Int) ≤ i) ∨ (j < 0 ∨ (s.size : Int) ≤ j)) :
    Calls Try.prog 15 #[.string s, .int .i64 i, .int .i64 j] w fun e w' => e = .returned (.tuple #[.int .i64 0, .int .i64 2]) ∧ w = w' := by
  by_cases hi : i < 0 ∨ (s.size : Int) ≤ i
  · have HA := Lib.hid (there_no w s i hi)
    clear h hi
    go_enter Try.func15, Try.ntmps15
    go_wp2_with fail
    refine HA.out.mono ?_
    rintro e w1 ⟨rfl, rfl⟩
    go_wp2_with fail
    go_ret2
    exact ⟨rfl, rfl⟩
  · have hj : j < 0 ∨ (s.size : Int) ≤ j := h.resolve_left hi
    obtain ⟨k, rfl⟩ : ∃ k : Nat, i = k := ⟨i.toNat, by omega⟩
    have HA := Lib.hid (there_yes w s k (by omega))
    have HB := Lib.hid (there_no w s j hj)
    clear h hi hj
    go_enter Try.func15, Try.ntmps15
    go_wp2_with fail
    refine HA.out.mono ?_
    rintro e w1 ⟨rfl, rfl⟩
    go_wp2_with fail
    refine HB.out.mono ?_
    rintro e w1 ⟨rfl, rfl⟩
    go_wp2_with fail
    go_ret2
    exact ⟨rfl, rfl⟩

end Go.Proofs.Ytglcideecelemaa
