/- The reference Number tells the number that a list of bits is. Conditions: at most 64 bits. -/
import Derived.Test.YticigahhdhindaaI
namespace Go.Proofs.Yticigahhdhindaa
open Go.RowKit

set_option maxRecDepth 100000 in
theorem number_any (w : World) (A : Option Addr) (n c : Nat) (L : List Nat) (h : IntsIn w A n L) (hb : Bit01 L) (hn : n ≤ 64) :
    Calls Try.prog 28 #[.slice A n c] w fun e w' => e = .returned (.int .u64 (val L)) ∧ w = w' := by
  have HI := Lib.hid h
  clear h
  go_enter Try.func28, Try.ntmps28
  go_wp2
  go_loop [3, 4] (fun v i => ∃ j x : Nat, j ≤ n ∧ i = .int .i64 j ∧ v = .int .u64 x ∧ x = val (L.take j)) (fun _ i => n - (intOf i).toNat)
  case atStart => exact ⟨0, 0, Nat.zero_le _, rfl, rfl, by simp [val]⟩
  case round =>
    obtain ⟨j, x, hj, rfl, rfl, hx⟩ := hrel
    by_cases h : j < n
    · obtain ⟨hl, hc⟩ := HI.out
      have HL := Lib.hid hl
      clear hl
      obtain ⟨b, off, rfl, hc'⟩ := hc (by omega)
      have hc1 := hc' j h
      have hx2 : x < 9223372036854775808 := by
        rw [hx]
        refine Nat.lt_of_lt_of_le (val_lt _ (hb.take j)) (Nat.le_trans (Nat.pow_le_pow_right (by omega) (show (L.take j).length ≤ 63 by rw [List.length_take]; omega)) (by decide))
      obtain ⟨y, hy⟩ : ∃ y, y = L.getD j 0 := ⟨_, rfl⟩
      rw [← hy] at hc1
      have hy2 : y < 2 := by
        rw [hy, List.getD_eq_getElem?_getD, List.getElem?_eq_getElem (by rw [HL.out]; exact h)]
        exact hb _ (List.getElem_mem _)
      have HX := Lib.hid hx; clear hx
      have HY := Lib.hid hy; clear hy
      clear hc hc'
      go_wp2
      go_round
      case rel =>
        refine ⟨j + 1, 2 * x + y, h, rfl, ?_, ?_⟩
        · congr 1; omega
        · rw [HX.out, HY.out, List.take_succ_eq_append_getElem (by rw [HL.out]; exact h), val_snoc, List.getD_eq_getElem?_getD, List.getElem?_eq_getElem (by rw [HL.out]; exact h)]
          rfl
      case measure => simp [intOf]; omega
    · obtain rfl : j = n := by omega
      have HX := Lib.hid hx; clear hx
      go_wp2
      go_ret
      refine ⟨?_, rfl⟩
      rw [HX.out, List.take_of_length_le (by rw [HI.out.1]; exact Nat.le_refl _)]
      rfl

end Go.Proofs.Yticigahhdhindaa
