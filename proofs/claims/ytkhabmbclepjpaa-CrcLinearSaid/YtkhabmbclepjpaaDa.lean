/- What eight 0 bits make of a register, walked. -/
import Derived.Test.YtkhabmbclepjpaaCy
namespace Go.Proofs.Ytkhabmbclepjpaa
open Go.RowKit

theorem crcBit_code (x : Nat) (hx : x < 4294967296) : crcBit x = (2 * x % 4294967296) ^^^ (x / 2147483648 * 79764919 % 4294967296) := by
  unfold crcBit
  by_cases h : 2147483648 ≤ x
  · rw [if_pos h, show x / 2147483648 = 1 by omega]
  · rw [if_neg h, show x / 2147483648 = 0 by omega]
theorem crcIter_snoc (n : Nat) : ∀ c, crcIter (n + 1) c = crcBit (crcIter n c) := by
  induction n with
  | zero => intro c; rfl
  | succ n ih => intro c; rw [crcIter, ih]; rfl

theorem shifted_any (w : World) (c : Nat) (hc : c < 4294967296) :
    Calls Try.prog 30 #[.int .u32 c] w fun e w' => e = .returned (.int .u32 (crcIter 8 c)) ∧ w = w' := by
  go_enter Try.func30, Try.ntmps30
  go_wp2_with fail
  go_loop [0, 4] (fun v i => ∃ j x : Nat, j ≤ 8 ∧ i = .int .i64 j ∧ v = .int .u32 x ∧ x = crcIter j c ∧ x < 4294967296) (fun _ i => 8 - (intOf i).toNat)
  case atStart => exact ⟨0, c, by omega, rfl, rfl, rfl, hc⟩
  case round =>
    obtain ⟨j, x, hj, rfl, rfl, hx, hx2⟩ := hrel
    have HX := Lib.hid hx
    clear hx
    by_cases h : j < 8
    · have hnx := crcBit_code x hx2
      have hlt := crcBit_lt x
      have HLT := Lib.hid hlt
      have HNX := Lib.hid hnx
      clear hnx hlt
      go_wp2_with fail
      refine ⟨⟨j + 1, crcBit x, by omega, by go_num, ?_, by rw [HX.out, crcIter_snoc], HLT.out⟩, by simp [intOf]; omega⟩
      have hcast1 : ((x : Int) * 2 % 4294967296) = ((2 * x % 4294967296 : Nat) : Int) := by omega
      have hcast2 : ((x : Int) / 2147483648 * 79764919) = ((x / 2147483648 * 79764919 % 4294967296 : Nat) : Int) := by omega
      rw [hcast1, hcast2, u32_xor_nat _ _ (by omega) (by omega), HNX.out]
    · obtain rfl : j = 8 := by omega
      go_wp2_with fail
      go_ret
      rw [← HX.out]
      exact ⟨rfl, rfl⟩

end Go.Proofs.Ytkhabmbclepjpaa
