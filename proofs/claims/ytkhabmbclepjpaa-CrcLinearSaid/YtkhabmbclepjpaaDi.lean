/- The answers that the document fixes: awake. -/
import Derived.Test.YtkhabmbclepjpaaDe
import Derived.Test.YtkhabmbclepjpaaDh
namespace Go.Proofs.Ytkhabmbclepjpaa
open Go.RowKit

theorem crc_digits : (4294967295 - crcFold 4294967295 (⟨#[49, 50, 51, 52, 53, 54, 55, 56, 57]⟩ : ByteArray).data.toList : Nat) = 4236843288 := by decide +kernel
theorem ieee_digits : ieeeF [49, 50, 51, 52, 53, 54, 55, 56, 57] = 3421780262 := by decide +kernel

theorem bzip_digits (w : World) : Calls Try.prog 9 #[.string ⟨#[49, 50, 51, 52, 53, 54, 55, 56, 57]⟩] w fun e w' => e = .returned (.int .u32 4236843288) ∧ Below w.heap.size w w' := by
  have h := cbzip_any w ⟨#[49, 50, 51, 52, 53, 54, 55, 56, 57]⟩ (by decide)
  rw [crc_digits] at h
  exact h
theorem ieee_nine (w : World) : Calls Try.prog 14 #[.string ⟨#[49, 50, 51, 52, 53, 54, 55, 56, 57]⟩] w fun e w' => e = .returned (.int .u32 3421780262) ∧ Below w.heap.size w w' := by
  have h := cieee_any w ⟨#[49, 50, 51, 52, 53, 54, 55, 56, 57]⟩ (by decide)
  have hB : ieeeF (⟨#[49, 50, 51, 52, 53, 54, 55, 56, 57]⟩ : ByteArray).data.toList = 3421780262 := ieee_digits
  rw [hB] at h
  exact h
theorem more_none (w : World) : Calls Try.prog 12 #[.int .u32 1, .string ⟨#[]⟩] w fun e w' => e = .returned (.int .u32 1) ∧ Below w.heap.size w w' :=
  cmore_any w 1 ⟨#[]⟩ (by decide) (by decide)

theorem stream_two (w : World) : Calls Try.prog 16 #[.slice (some ⟨w.heap.size, 0, none⟩) 2 2] (w.alloc (.cells #[.int .u32 2147483648, .int .u32 0] 22)) fun e w' => e = .returned (.int .u32 1) ∧ w.alloc (.cells #[.int .u32 2147483648, .int .u32 0] 22) = w' := by
  refine cstream_any _ _ 2 2 [2147483648, 0] ⟨rfl, fun _ => ⟨w.heap.size, 0, rfl, fun i h => ?_⟩⟩ ?_ (by decide)
  · rw [Nat.zero_add, World.cell?_alloc_new]
    rcases (by omega : i = 0 ∨ i = 1) with rfl | rfl <;> rfl
  · intro x hx
    simp at hx
    omega

set_option maxHeartbeats 1600000 in
set_option maxRecDepth 1000000 in
theorem awake_any (w : World) : Calls Try.prog 11 #[] w fun e w' => e = .returned (.bool true) ∧ Below w.heap.size w w' := by
  go_enter Try.func11, Try.ntmps11
  go_wp2_with fail
  refine (bzip_digits w).mono ?_
  rintro e w1 ⟨rfl, hb1⟩
  go_wp2_with fail
  refine (ieee_nine w1).mono ?_
  rintro e w2 ⟨rfl, hb2⟩
  have hb := hb1.trans (hb2.mono hb1.size)
  have HB := Lib.hid hb
  clear hb hb1 hb2
  go_wp2_with fail
  refine (stream_two w2).mono ?_
  rintro e w3 ⟨rfl, rfl⟩
  have hb := HB.out.alloc HB.out.size (Obj.cells #[Value.int IntKind.u32 2147483648, Value.int IntKind.u32 0] 22)
  generalize w2.alloc (Obj.cells #[Value.int IntKind.u32 2147483648, Value.int IntKind.u32 0] 22) = w3 at *
  have HB3 := Lib.hid hb
  clear hb
  go_wp2_with fail
  refine (more_none w3).mono ?_
  rintro e w4 ⟨rfl, hb4⟩
  go_wp2_with fail
  go_ret
  exact ⟨rfl, HB3.out.trans (hb4.mono HB3.out.size)⟩

end Go.Proofs.Ytkhabmbclepjpaa
