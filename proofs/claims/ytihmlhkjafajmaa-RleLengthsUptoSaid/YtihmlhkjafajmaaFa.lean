/- What the calls of rle are told to do; the answers that the document fixes: awake. -/
import Derived.Test.YtihmlhkjafajmaaEf
import Derived.Test.YtihmlhkjafajmaaL
namespace Go.Proofs.Ytihmlhkjafajmaa
open Go.RowKit

/-- The contracts of the three calls, for texts of at most two million bytes. -/
structure RleDone : Prop where
  enc : ∀ (w : World) (s : ByteArray), s.size ≤ 2097152 → Calls Try.prog 9 #[.string s] w fun e w' => e = .returned (.string ⟨(encL s.data.toList).toArray⟩) ∧ Below w.heap.size w w'
  dec : ∀ (w : World) (s : ByteArray), s.size ≤ 2097152 → Calls Try.prog 12 #[.string s] w fun e w' => e = .returned (.tuple #[.string ⟨(decL [] s.data.toList).1.toArray⟩, .int .i64 (decL [] s.data.toList).2]) ∧ Below w.heap.size w w'
  fit : ∀ (w : World) (s : ByteArray) (most : Int), s.size ≤ 2097152 → -9223372036854775808 ≤ most → most ≤ 9223372036854775807 → Calls Try.prog 14 #[.string s, .int .i64 most] w fun e w' => ∃ n : Nat, e = .returned (.int .i64 n) ∧ IsFit s.data.toList most n ∧ Below w.heap.size w w'

theorem enc_fixed : encL [97, 97, 97, 97, 97, 98] = [97, 97, 97, 97, 1, 98] := by decide +kernel
theorem dec_fixed : decL [] [97, 97, 97, 97, 1, 98] = ([97, 97, 97, 97, 97, 98], 0) := by decide +kernel
theorem dec_refused : decL [] [97, 97, 97, 97] = ([], 30) := by decide +kernel
theorem fit_fixed : IsFit [97, 97, 97, 97, 98] 5 4 := by
  refine ⟨by decide, ?_, fun _ => by decide +kernel⟩
  intro m h1 h2
  have : ∀ j : Fin 5, 1 ≤ j.val → ((encL (([97, 97, 97, 97, 98] : List UInt8).take j.val)).length : Int) ≤ 5 := by decide +kernel
  exact this ⟨m, by omega⟩ h1

section
variable (R : RleDone)
include R
theorem enc_six (w : World) : Calls Try.prog 9 #[.string ⟨#[97, 97, 97, 97, 97, 98]⟩] w fun e w' => e = .returned (.string ⟨#[97, 97, 97, 97, 1, 98]⟩) ∧ Below w.heap.size w w' := by
  have h := R.enc w ⟨#[97, 97, 97, 97, 97, 98]⟩ (by decide)
  have e : encL (⟨#[97, 97, 97, 97, 97, 98]⟩ : ByteArray).data.toList = [97, 97, 97, 97, 1, 98] := enc_fixed
  rw [e] at h
  exact h
theorem dec_six (w : World) : Calls Try.prog 12 #[.string ⟨#[97, 97, 97, 97, 1, 98]⟩] w fun e w' => e = .returned (.tuple #[.string ⟨#[97, 97, 97, 97, 97, 98]⟩, .int .i64 0]) ∧ Below w.heap.size w w' := by
  have h := R.dec w ⟨#[97, 97, 97, 97, 1, 98]⟩ (by decide)
  have e : decL [] (⟨#[97, 97, 97, 97, 1, 98]⟩ : ByteArray).data.toList = ([97, 97, 97, 97, 97, 98], 0) := dec_fixed
  rw [e] at h
  exact h
theorem dec_four (w : World) : Calls Try.prog 12 #[.string ⟨#[97, 97, 97, 97]⟩] w fun e w' => e = .returned (.tuple #[.string ⟨#[]⟩, .int .i64 30]) ∧ Below w.heap.size w w' := by
  have h := R.dec w ⟨#[97, 97, 97, 97]⟩ (by decide)
  have e : decL [] (⟨#[97, 97, 97, 97]⟩ : ByteArray).data.toList = ([], 30) := dec_refused
  rw [e] at h
  exact h
theorem fit_five (w : World) : Calls Try.prog 14 #[.string ⟨#[97, 97, 97, 97, 98]⟩, .int .i64 5] w fun e w' => e = .returned (.int .i64 4) ∧ Below w.heap.size w w' := by
  refine (R.fit w ⟨#[97, 97, 97, 97, 98]⟩ 5 (by decide) (by decide) (by decide)).mono ?_
  rintro e w' ⟨n, rfl, hf, hb⟩
  have : n = 4 := isFit_one hf fit_fixed
  subst this
  exact ⟨rfl, hb⟩

set_option maxHeartbeats 1600000 in
theorem awake_any (w : World) : Calls Try.prog 11 #[] w fun e w' => e = .returned (.bool true) ∧ Below w.heap.size w w' := by
  go_enter Try.func11, Try.ntmps11
  go_wp2_with fail
  refine (dec_six R w).mono ?_
  rintro e w1 ⟨rfl, hb1⟩
  go_wp2_with fail
  refine (dec_four R w1).mono ?_
  rintro e w2 ⟨rfl, hb2⟩
  have HB2 := Lib.hid (hb1.trans (hb2.mono hb1.size))
  clear hb1 hb2
  go_wp2_with fail
  refine (enc_six R w2).mono ?_
  rintro e w3 ⟨rfl, hb3⟩
  have HB3 := Lib.hid (HB2.out.trans (hb3.mono HB2.out.size))
  clear hb3
  go_wp2_with fail
  refine (fit_five R w3).mono ?_
  rintro e w4 ⟨rfl, hb4⟩
  go_wp2_with fail
  go_ret
  exact ⟨rfl, HB3.out.trans (hb4.mono HB3.out.size)⟩
end

end Go.Proofs.Ytihmlhkjafajmaa
