/- A register behind a text, by the array; bzip2's sum. -/
import Derived.Test.YtkhabmbclepjpaaDc
namespace Go.Proofs.Ytkhabmbclepjpaa
open Go.RowKit

theorem take_fold (c : Nat) (s : ByteArray) (j : Nat) (h : j < s.size) : crcFold c (s.data.toList.take (j + 1)) = crcByte (crcFold c (s.data.toList.take j)) (s[j]).toNat := by
  have hjl : j < s.data.toList.length := by simpa using h
  rw [List.take_succ_eq_append_getElem hjl, crcFold_append]
  rfl

set_option maxHeartbeats 1600000 in
set_option maxRecDepth 1000000 in
theorem cmore_any (w : World) (c : Nat) (s : ByteArray) (hc : c < 4294967296) (hs : s.size ≤ 9223372036854775807) :
    Calls Try.prog 12 #[.int .u32 c, .string s] w fun e w' => e = .returned (.int .u32 (crcFold c s.data.toList)) ∧ Below w.heap.size w w' := by
  have HS := Lib.hid tabA_size
  have HG := Lib.hid tabA_get
  have HO := Lib.hid tabA_one
  have HE := Lib.hid eights_any
  obtain ⟨hz, hi⟩ := zero37
  generalize tabA = T at *
  have HI := Lib.hid hi
  clear hi
  go_enter Try.func12, Try.ntmps12
  go_wp2_with fail
  refine (HE.out w).mono ?_
  rintro e w1 ⟨rfl, hb1⟩
  have hst := run_storeCells_new (P := Try.prog) w1 37 (T 0) (T 256) (by rw [HS.out]; exact HI.out) (by rw [HS.out, HS.out]) (HO.out _)
  have hsz := HS.out 256
  have hcell : ∀ i, i < 256 → (w1.alloc (.cells (T 256) 37)).cell? ⟨w1.heap.size, i, none⟩ = some (.int .u32 (crcTab i)) := by
    intro i h
    rw [World.cell?_alloc_new]
    exact HG.out i h
  have HC := Lib.hid hcell
  have hb2 : Below w.heap.size w (w1.alloc (.cells (T 256) 37)) := hb1.alloc hb1.size _
  have HB := Lib.hid hb2
  clear hcell hb1 hb2
  go_wp2_with fail
  clear hst
  generalize w1.alloc (.cells (T 256) 37) = w2 at *
  generalize w1.heap.size = g at *
  generalize T 256 = T2 at *
  go_loop [0, 10] (fun v i => ∃ j x : Nat, j ≤ s.size ∧ i = .int .i64 j ∧ v = .int .u32 x ∧ x = crcFold c (s.data.toList.take j) ∧ x < 4294967296) (fun _ i => s.size - (intOf i).toNat)
  case atStart => exact ⟨0, c, by omega, rfl, rfl, rfl, hc⟩
  case round =>
    obtain ⟨j, x, hj, rfl, rfl, hx, hx2⟩ := hrel
    by_cases h : j < s.size
    · have hnx := take_fold c s j h
      rw [← hx] at hnx
      have hlt := crcByte_lt x (s[j]).toNat
      have hb := UInt8.toNat_lt (s[j])
      have HR := Lib.hid (behind_any w2 g x (s[j]).toNat HC.out hx2 hb)
      have HNX := Lib.hid hnx
      have HLT := Lib.hid hlt
      have HX := Lib.hid hx
      clear hnx hlt hx
      go_wp2_with (refine HR.out.mono ?_)
      exact ⟨⟨j + 1, _, by omega, by go_num, rfl, HNX.out.symm, HLT.out⟩, by simp [intOf]; omega⟩
    · obtain rfl : j = s.size := by omega
      have hall : s.data.toList.take s.size = s.data.toList := List.take_of_length_le (Nat.le_of_eq rfl)
      rw [hall] at hx
      clear hall
      have HX := Lib.hid hx
      clear hx
      go_wp2_with fail
      go_ret
      rw [← HX.out]
      exact ⟨rfl, HB.out⟩

theorem xor_ones (x : Nat) (hx : x < 4294967296) : 4294967295 ^^^ x = 4294967295 - x := by
  apply Nat.eq_of_testBit_eq
  intro i
  have h1 := Nat.testBit_two_pow_sub_succ (n := 32) hx i
  have h2 := Nat.testBit_two_pow_sub_one 32 i
  rw [show (4294967295 - x : Nat) = 2 ^ 32 - (x + 1) by omega, h1, Nat.testBit_xor, show (4294967295 : Nat) = 2 ^ 32 - 1 by rfl, h2]
  by_cases h : i < 32
  · simp [h]
  · have h3 : x.testBit i = false := Nat.testBit_lt_two_pow (Nat.lt_of_lt_of_le hx (Nat.pow_le_pow_right (n := 2) (by omega) (by omega : 32 ≤ i)))
    simp [h, h3]
theorem not_u32 (x : Nat) (hx : x < 4294967296) : bits .xor .u32 IntKind.u32.max (x : Int) = ((4294967295 - x : Nat) : Int) := by
  rw [← xor_ones x hx, ← u32_xor_nat _ _ (by omega) hx]
  rfl
theorem unsigned_u32 : (IntKind.u32.signed = true) = False := by decide

theorem cbzip_any (w : World) (s : ByteArray) (hs : s.size ≤ 9223372036854775807) :
    Calls Try.prog 9 #[.string s] w fun e w' => e = .returned (.int .u32 (4294967295 - crcFold 4294967295 s.data.toList : Nat)) ∧ Below w.heap.size w w' := by
  go_enter Try.func9, Try.ntmps9
  go_wp2_with fail
  refine (cmore_any w 4294967295 s (by decide) hs).mono ?_
  rintro e w1 ⟨rfl, hb⟩
  have hlt := crcFold_lt s.data.toList 4294967295 (by decide)
  generalize hX : crcFold 4294967295 s.data.toList = x at *
  have HX := Lib.hid hX
  clear hX
  have hmax := not_u32 x hlt
  have hsg := unsigned_u32
  go_wp2_with fail
  go_ret
  rw [HX.out]
  exact ⟨rfl, hb⟩

end Go.Proofs.Ytkhabmbclepjpaa
