/- The reference's sum of a stream, walked. Conditions: at most 2^63 - 1 sums. -/
import Derived.Test.YtkhabmbclepjpaaCv
import Derived.Laws.BitsAllLaws
namespace Go.Proofs.Ytkhabmbclepjpaa
open Go.RowKit

/-- A slice of words that is read. -/
def WordsIn (w : World) (A : Option Addr) (n : Nat) (L : List Nat) : Prop :=
  L.length = n ∧ (0 < n → ∃ b off, A = some ⟨b, off, none⟩ ∧ ∀ i, i < n → w.cell? ⟨b, off + i, none⟩ = some (.int .u32 (L.getD i 0)))
def streamStep (c x : Nat) : Nat := (c % 2147483648 * 2 + c / 2147483648) ^^^ x
def streamN (L : List Nat) : Nat := L.foldl streamStep 0
theorem streamStep_lt (c x : Nat) (hc : c < 4294967296) (hx : x < 4294967296) : streamStep c x < 4294967296 := by
  unfold streamStep
  exact Nat.xor_lt_two_pow (n := 32) (by omega) hx
theorem foldl_stream_lt (L : List Nat) (h : ∀ x ∈ L, x < 4294967296) : ∀ c, c < 4294967296 → L.foldl streamStep c < 4294967296 := by
  induction L with
  | nil => intro c hc; exact hc
  | cons x L ih => intro c hc; exact ih (fun y hy => h y (List.mem_cons_of_mem _ hy)) _ (streamStep_lt c x hc (h x List.mem_cons_self))
theorem streamN_lt (L : List Nat) (h : ∀ x ∈ L, x < 4294967296) : streamN L < 4294967296 := foldl_stream_lt L h 0 (by omega)
theorem streamN_snoc (L : List Nat) (x : Nat) : streamN (L ++ [x]) = streamStep (streamN L) x := by simp [streamN]
theorem streamN_take (L : List Nat) (j : Nat) (h : j < L.length) : streamN (L.take (j + 1)) = streamStep (streamN (L.take j)) (L.getD j 0) := by
  rw [List.take_succ_eq_append_getElem h, streamN_snoc, List.getD_eq_getElem?_getD, List.getElem?_eq_getElem h]
  rfl

theorem stream_any (w : World) (A : Option Addr) (n c : Nat) (L : List Nat) (hi : WordsIn w A n L) (hb : ∀ x ∈ L, x < 4294967296) (hn : n ≤ 9223372036854775807) :
    Calls Try.prog 17 #[.slice A n c] w fun e w' => e = .returned (.int .u32 (streamN L)) ∧ w = w' := by
  have HI := Lib.hid hi
  have HB := Lib.hid hb
  clear hi hb
  go_enter Try.func17, Try.ntmps17
  go_wp2_with fail
  go_loop [3, 4] (fun v i => ∃ j x : Nat, j ≤ n ∧ i = .int .i64 j ∧ v = .int .u32 x ∧ x = streamN (L.take j) ∧ x < 4294967296) (fun _ i => n - (intOf i).toNat)
  case atStart => exact ⟨0, 0, Nat.zero_le _, rfl, rfl, by simp [streamN], by omega⟩
  case round =>
    obtain ⟨j, x, hj, rfl, rfl, hx, hx2⟩ := hrel
    by_cases h : j < n
    · obtain ⟨hl, hc⟩ := HI.out
      obtain ⟨b, off, rfl, hc'⟩ := hc (by omega)
      have g := hc' j h
      have hy : L.getD j 0 < 4294967296 := by
        rw [List.getD_eq_getElem?_getD, List.getElem?_eq_getElem (by omega)]
        exact HB.out _ (List.getElem_mem _)
      have hnx := streamN_take L j (by omega)
      rw [← hx] at hnx
      have hlt := streamStep_lt x (L.getD j 0) hx2 hy
      have HNX := Lib.hid hnx
      have HX := Lib.hid hx
      have HLT := Lib.hid hlt
      have HL := Lib.hid hl
      clear hl hc hc' hnx hx hlt
      generalize L.getD j 0 = y at *
      go_wp2_with fail
      refine ⟨⟨j + 1, streamStep x y, by omega, by go_num, ?_, HNX.out.symm, HLT.out⟩, by simp [intOf]; omega⟩
      have hcast : ((x : Int) % 2147483648 * 2 + (x : Int) / 2147483648) = ((x % 2147483648 * 2 + x / 2147483648 : Nat) : Int) := by omega
      rw [hcast, u32_xor_nat _ _ (by omega) hy]
      rfl
    · obtain rfl : j = n := by omega
      have hl := HI.out.1
      rw [List.take_of_length_le (by omega)] at hx
      have HX := Lib.hid hx
      clear hx hl
      go_wp2_with fail
      go_ret
      rw [← HX.out]
      exact ⟨rfl, rfl⟩

end Go.Proofs.Ytkhabmbclepjpaa
