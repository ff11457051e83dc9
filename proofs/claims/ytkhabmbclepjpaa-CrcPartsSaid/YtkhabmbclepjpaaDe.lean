/- A stream's sum, walked. -/
import Derived.Test.YtkhabmbclepjpaaDd
import Derived.Test.YtkhabmbclepjpaaCx
namespace Go.Proofs.Ytkhabmbclepjpaa
open Go.RowKit

theorem rotate_any (w : World) (x : Nat) (hx : x < 4294967296) :
    Calls Try.prog 29 #[.int .u32 x, .int .i64 1] w fun e w' => e = .returned (.int .u32 (x % 2147483648 * 2 + x / 2147483648 : Nat)) ∧ w = w' := by
  have h31 : bits .and .u64 1 31 = 1 := by rfl
  have hor : bits .or .u32 ((x : Int) * 2 % 4294967296) ((x : Int) / 2147483648) = ((x % 2147483648 * 2 + x / 2147483648 : Nat) : Int) := by
    rw [show ((x : Int) * 2 % 4294967296) = ((x % 2147483648 * 2 : Nat) : Int) by omega, show ((x : Int) / 2147483648) = ((x / 2147483648 : Nat) : Int) by omega, u32_or_nat _ _ (by omega) (by omega),
      nat_join 1 _ _ (by omega) (by omega)]
  go_enter Try.func29, Try.ntmps29
  go_wp2
  go_ret
  exact ⟨rfl, rfl⟩

theorem cstream_any (w : World) (A : Option Addr) (n c : Nat) (L : List Nat) (hi : WordsIn w A n L) (hb : ∀ x ∈ L, x < 4294967296) (hn : n ≤ 9223372036854775807) :
    Calls Try.prog 16 #[.slice A n c] w fun e w' => e = .returned (.int .u32 (streamN L)) ∧ w = w' := by
  have HI := Lib.hid hi
  have HB := Lib.hid hb
  clear hi hb
  go_enter Try.func16, Try.ntmps16
  go_wp2_with fail
  go_loop [3, 8] (fun v i => ∃ j x : Nat, j ≤ n ∧ i = .int .i64 j ∧ v = .int .u32 x ∧ x = streamN (L.take j) ∧ x < 4294967296) (fun _ i => n - (intOf i).toNat)
  case atStart => exact ⟨0, 0, Nat.zero_le _, rfl, rfl, by simp [streamN], by omega⟩
  case round =>
    obtain ⟨j, x, hj, rfl, rfl, hx, hx2⟩ := hrel
    by_cases h : j < n
    · obtain ⟨hl, hc⟩ := HI.out
      obtain ⟨b, off, rfl, hc'⟩ := hc (by omega)
      have g := hc' j h
      have hy : L.getD j 0 < 4294967296 := by
        rw [List.getD_eq_getElem?_getD, List.getElem?_eq_getElem (by omega)]
        exact HB.out _ (List.getElem_mem _)
      have hnx := streamN_take L j (by omega)
      rw [← hx] at hnx
      have hlt := streamStep_lt x (L.getD j 0) hx2 hy
      have HR := Lib.hid (rotate_any w x hx2)
      have HNX := Lib.hid hnx
      have HX := Lib.hid hx
      have HLT := Lib.hid hlt
      have HL := Lib.hid hl
      clear hl hc hc' hnx hx hlt
      generalize L.getD j 0 = y at *
      go_wp2_with (refine HR.out.mono ?_)
      refine ⟨⟨j + 1, streamStep x y, by omega, by go_num, ?_, HNX.out.symm, HLT.out⟩, by simp [intOf]; omega⟩
      have hcast : ((x : Int) % 2147483648 * 2 + (x : Int) / 2147483648) = ((x % 2147483648 * 2 + x / 2147483648 : Nat) : Int) := by omega
      rw [hcast, u32_xor_nat _ _ (by omega) hy]
      rfl
    · obtain rfl : j = n := by omega
      have hl := HI.out.1
      rw [List.take_of_length_le (by omega)] at hx
      have HX := Lib.hid hx
      clear hx hl
      go_wp2_with fail
      go_ret
      rw [← HX.out]
      exact ⟨rfl, rfl⟩

end Go.Proofs.Ytkhabmbclepjpaa
