/- The reference of rotate, walked: Cmp where a number is not there; Period. -/
import Derived.Test.YtgoghcdigkgkmaaGc
namespace Go.Proofs.Ytgoghcdigkgkmaa
open Go.RowKit

set_option maxRecDepth 100000 in
theorem rcmp_arg (w : World) (s : ByteArray) (i j : Int) (h : i < 0 ∨ j < 0 ∨ (s.size : Int) ≤ i ∨ (s.size : Int) ≤ j) :
    Calls Try.prog 11 #[.string s, .int .i64 i, .int .i64 j] w fun e w' => e = .returned (.tuple #[.int .i64 0, .int .i64 2]) ∧ w = w' := by
  have key : (i < 0) ∨ (¬ i < 0 ∧ j < 0) ∨ (¬ i < 0 ∧ ¬ j < 0 ∧ (s.size : Int) ≤ i) ∨ (¬ i < 0 ∧ ¬ j < 0 ∧ ¬ (s.size : Int) ≤ i ∧ (s.size : Int) ≤ j) := by omega
  clear h
  rcases key with h1 | ⟨h1, h2⟩ | ⟨h1, h2, h3⟩ | ⟨h1, h2, h3, h4⟩
  · have d1 : decide (i < 0) = true := decide_eq_true h1
    go_enter Try.func11, Try.ntmps11
    go_wp2_with fail
    go_ret2
    exact ⟨rfl, rfl⟩
  · have d1 : decide (i < 0) = false := decide_eq_false h1
    have d2 : decide (j < 0) = true := decide_eq_true h2
    go_enter Try.func11, Try.ntmps11
    go_wp2_with fail
    go_ret2
    exact ⟨rfl, rfl⟩
  · have d1 : decide (i < 0) = false := decide_eq_false h1
    have d2 : decide (j < 0) = false := decide_eq_false h2
    have d3 : decide ((s.size : Int) ≤ i) = true := decide_eq_true h3
    go_enter Try.func11, Try.ntmps11
    go_wp2_with fail
    go_ret2
    exact ⟨rfl, rfl⟩
  · have d1 : decide (i < 0) = false := decide_eq_false h1
    have d2 : decide (j < 0) = false := decide_eq_false h2
    have d3 : decide ((s.size : Int) ≤ i) = false := decide_eq_false h3
    have d4 : decide ((s.size : Int) ≤ j) = true := decide_eq_true h4
    go_enter Try.func11, Try.ntmps11
    go_wp2_with fail
    go_ret2
    exact ⟨rfl, rfl⟩

theorem rot_self (s : ByteArray) (p : Nat) : ((rotB s p).toList == s.toList) = decide (rotL s.data.toList p = s.data.toList) := by
  rw [ByteArray.toList_eq, ByteArray.toList_eq]
  show (rotL s.data.toList p == s.data.toList) = _
  by_cases h : rotL s.data.toList p = s.data.toList
  · simp [h]
  · simp [h]

set_option maxHeartbeats 1600000 in
set_option maxRecDepth 100000 in
theorem rper_any (w : World) (s : ByteArray) (hs : s.size ≤ 1000000) :
    Calls Try.prog 18 #[.string s] w fun e w' => ∃ p : Nat, e = .returned (.int .i64 p) ∧ (s.size = 0 → p = 0) ∧ (0 < s.size → IsPer s.data.toList p) ∧ ∃ m, w' = w.drewN m := by
  have hsl : s.data.toList.length = s.size := rfl
  have HSL := Lib.hid hsl
  clear hsl
  go_enter Try.func18, Try.ntmps18
  go_wp2_with fail
  go_loopw [3] (fun i wr => ∃ p : Nat, 1 ≤ p ∧ (p ≤ s.size ∨ (p = 1 ∧ s.size = 0)) ∧ i = .int .i64 p ∧ (∀ q, 0 < q → q < p → rotL s.data.toList q ≠ s.data.toList) ∧ ∃ m, wr = w.drewN m) (fun i _ => s.size + 1 - (intOf i).toNat)
  case atStart => exact ⟨1, Nat.le_refl _, by omega, rfl, fun q h1 h2 => by omega, 0, rfl⟩
  case round =>
    obtain ⟨p, h1, h2, rfl, hlow, m, rfl⟩ := hrel
    have HLOW := Lib.hid hlow
    clear hlow
    by_cases e1 : p < s.size
    · have HR := Lib.hid fun w1 : World => rrotation_any w1 s p (by omega) hs
      have hself := rot_self s p
      generalize rotB s p = A at *
      by_cases e2 : rotL s.data.toList p = s.data.toList
      · rw [decide_eq_true e2] at hself
        have HE := Lib.hid e2
        clear e2
        go_wp2_with fail
        refine (HR.out _).mono ?_
        rintro e w1 ⟨rfl, m1, rfl⟩
        go_wp2_with fail
        go_ret
        refine ⟨p, rfl, fun h => by omega, fun _ => isPer_of_first (by omega) (by rw [HSL.out]; omega) (.inr HE.out) HLOW.out, _, rfl⟩
      · rw [decide_eq_false e2] at hself
        have HE := Lib.hid e2
        clear e2
        go_wp2_with fail
        refine (HR.out _).mono ?_
        rintro e w1 ⟨rfl, m1, rfl⟩
        go_wp2_with fail
        go_roundw
        case rel =>
          refine ⟨p + 1, by omega, by omega, by go_num, fun q h3 h4 => ?_, _, rfl⟩
          by_cases e : q = p
          · rw [e]; exact HE.out
          · exact HLOW.out q h3 (by omega)
        case measure => simp [intOf]; omega
    · go_wp2_with fail
      go_ret
      exact ⟨s.size, rfl, fun h => h, fun h => isPer_of_first h (by rw [HSL.out]; exact Nat.le_refl _) (.inl HSL.out.symm) (fun q h3 h4 => HLOW.out q h3 (by omega)), _, rfl⟩

end Go.Proofs.Ytgoghcdigkgkmaa
