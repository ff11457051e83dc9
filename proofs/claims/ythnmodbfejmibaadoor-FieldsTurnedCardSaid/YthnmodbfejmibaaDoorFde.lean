/- What is asked of fields' functions (FieldsDone); the answers that the document fixes; Octals, Numbers, Texts, Decimals, Sums walked. Written ahead of stage 15. -/
import Derived.Test.YthnmodbfejmibaaDoorFdd
import Derived.Test.YthnmodbfejmibaaDoorTab
namespace Go.Proofs.YthnmodbfejmibaaDoor
open Go.RowKit

/-- What is asked of the code's functions. -/
structure FieldsDone : Prop where
  octal : ∀ (w : World), Tabs w → ∀ (n width : Int), -9223372036854775808 ≤ n → n ≤ 9223372036854775807 → -9223372036854775808 ≤ width → width ≤ 9223372036854775807 → Calls Tryd.prog 10 #[.int .i64 n, .int .i64 width] w fun e w' => e = .returned (.tuple #[.string (strF (octalA n width).1), .int .i64 (octalA n width).2]) ∧ Below w.heap.size w w'
  number : ∀ (w : World) (s : ByteArray), s.size ≤ 140737488355328 → Calls Tryd.prog 13 #[.string s] w fun e w' => e = .returned (.tuple #[.int .i64 (numberA s.data.toList).1, .int .i64 (numberA s.data.toList).2]) ∧ Below w.heap.size w w'
  text : ∀ (w : World) (s : ByteArray) (width : Int), s.size ≤ 140737488355328 → -9223372036854775808 ≤ width → width ≤ 9223372036854775807 → Calls Tryd.prog 15 #[.string s, .int .i64 width] w fun e w' => e = .returned (.tuple #[.string (strF (textA s.data.toList width).1), .int .i64 (textA s.data.toList width).2]) ∧ Below w.heap.size w w'
  cut : ∀ (w : World) (s : ByteArray), s.size ≤ 140737488355328 → Calls Tryd.prog 17 #[.string s] w fun e w' => e = .returned (.string (strF (cutZ s.data.toList))) ∧ Below w.heap.size w w'
  digits : ∀ (w : World), Tabs w → ∀ (n : Int), -9223372036854775808 ≤ n → n ≤ 9223372036854775807 → Calls Tryd.prog 21 #[.int .i64 n] w fun e w' => e = .returned (.string (strF (digitsA n))) ∧ Below w.heap.size w w'
  decimal : ∀ (w : World) (s : ByteArray), s.size ≤ 140737488355328 → Calls Tryd.prog 19 #[.string s] w fun e w' => e = .returned (.tuple #[.int .i64 (decimalA s.data.toList).1, .int .i64 (decimalA s.data.toList).2]) ∧ Below w.heap.size w w'
  sum : ∀ (w : World) (s : ByteArray), s.size ≤ 140737488355328 → Calls Tryd.prog 23 #[.string s] w fun e w' => e = .returned (.tuple #[.int .i64 (sumA s.data.toList).1, .int .i64 (sumA s.data.toList).2]) ∧ Below w.heap.size w w'

theorem octal_a : octalA 420 8 = ([48, 48, 48, 48, 54, 52, 52, 0], 0) := by decide +kernel
theorem number_a : numberA (⟨#[32, 32, 49, 55, 32, 0]⟩ : ByteArray).data.toList = (15, 0) := by decide +kernel
theorem decimal_a : decimalA (⟨#[48, 48, 55]⟩ : ByteArray).data.toList = (0, 150) := by decide +kernel
theorem text_a : textA (⟨#[97, 98]⟩ : ByteArray).data.toList 3 = ([97, 98, 0], 0) := by decide +kernel
theorem digits_a : digitsA 120 = [49, 50, 48] := by decide +kernel
section
variable (R : FieldsDone)
include R
set_option maxHeartbeats 3200000 in
set_option maxRecDepth 100000 in
theorem awake_fields (w : World) (hT : Tabs w) : Calls Tryd.prog 12 #[] w fun e w' => e = .returned (.bool true) ∧ Below w.heap.size w w' := by
  have C1 : Hid (∀ wx : World, Tabs wx → Calls Tryd.prog 10 #[.int .i64 420, .int .i64 8] wx fun e w' => e = .returned (.tuple #[.string ⟨#[48, 48, 48, 48, 54, 52, 52, 0]⟩, .int .i64 0]) ∧ Below wx.heap.size wx w') := Lib.hid fun wx ht => by
    have h := R.octal wx ht 420 8 (by decide) (by decide) (by decide) (by decide)
    rw [octal_a] at h
    exact h
  have C2 : Hid (∀ wx : World, Calls Tryd.prog 13 #[.string ⟨#[32, 32, 49, 55, 32, 0]⟩] wx fun e w' => e = .returned (.tuple #[.int .i64 15, .int .i64 0]) ∧ Below wx.heap.size wx w') := Lib.hid fun wx => by
    have h := R.number wx ⟨#[32, 32, 49, 55, 32, 0]⟩ (by decide)
    rw [number_a] at h
    exact h
  have C3 : Hid (∀ wx : World, Calls Tryd.prog 19 #[.string ⟨#[48, 48, 55]⟩] wx fun e w' => e = .returned (.tuple #[.int .i64 0, .int .i64 150]) ∧ Below wx.heap.size wx w') := Lib.hid fun wx => by
    have h := R.decimal wx ⟨#[48, 48, 55]⟩ (by decide)
    rw [decimal_a] at h
    exact h
  have C4 : Hid (∀ wx : World, Calls Tryd.prog 15 #[.string ⟨#[97, 98]⟩, .int .i64 3] wx fun e w' => e = .returned (.tuple #[.string ⟨#[97, 98, 0]⟩, .int .i64 0]) ∧ Below wx.heap.size wx w') := Lib.hid fun wx => by
    have h := R.text wx ⟨#[97, 98]⟩ 3 (by decide) (by decide) (by decide)
    rw [text_a] at h
    exact h
  have C5 : Hid (∀ wx : World, Tabs wx → Calls Tryd.prog 21 #[.int .i64 120] wx fun e w' => e = .returned (.string ⟨#[49, 50, 48]⟩) ∧ Below wx.heap.size wx w') := Lib.hid fun wx ht => by
    have h := R.digits wx ht 120 (by decide) (by decide)
    rw [digits_a] at h
    exact h
  have HTB : Hid (∀ wx : World, Below w.heap.size w wx → Tabs wx) := Lib.hid fun wx hb => hT.below hb
  have HB0 := Lib.hid (Below.refl w.heap.size w)
  clear R hT
  go_enter Tryd.func12, Tryd.ntmps12
  go_wp2_with fail
  refine (C1.out w (HTB.out _ (Hid.out (by assumption)))).mono ?_
  rintro e w1 ⟨rfl, hb1⟩
  have HB1 := Lib.hid hb1
  clear hb1
  go_wp2_with fail
  refine (C2.out w1).mono ?_
  rintro e w2 ⟨rfl, hb2⟩
  have HB2 := Lib.hid (HB1.out.trans (hb2.mono HB1.out.size))
  clear hb2
  go_wp2_with fail
  refine (C3.out w2).mono ?_
  rintro e w3 ⟨rfl, hb3⟩
  have HB3 := Lib.hid (HB2.out.trans (hb3.mono HB2.out.size))
  clear hb3
  go_wp2_with fail
  refine (C4.out w3).mono ?_
  rintro e w4 ⟨rfl, hb4⟩
  have HB4 := Lib.hid (HB3.out.trans (hb4.mono HB3.out.size))
  clear hb4
  go_wp2_with fail
  refine (C5.out w4 (HTB.out _ (Hid.out (by assumption)))).mono ?_
  rintro e w5 ⟨rfl, hb5⟩
  have HB5 := Lib.hid (HB4.out.trans (hb5.mono HB4.out.size))
  clear hb5
  go_wp2_with fail
  go_ret
  exact ⟨rfl, HB5.out⟩
set_option maxHeartbeats 3200000 in
set_option maxRecDepth 100000 in
theorem octals_law (w : World) (hT : Tabs w) (n width : Int) (hn1 : -9223372036854775808 ≤ n) (hn2 : n ≤ 9223372036854775807) (hw1 : -9223372036854775808 ≤ width) (hw2 : width ≤ 9223372036854775807) : Calls Tryd.prog 3 #[.int .i64 n, .int .i64 width] w fun e w' => e = .returned (.bool true) ∧ Below w.heap.size w w' := by
  have HTB : Hid (∀ wx : World, Below w.heap.size w wx → Tabs wx) := Lib.hid fun wx hb => hT.below hb
  have HB0 := Lib.hid (Below.refl w.heap.size w)
  have HAW := Lib.hid (awake_fields R)
  clear hT
  have HC := Lib.hid fun (wx : World) (ht : Tabs wx) => R.octal wx ht n width hn1 hn2 hw1 hw2
  have HRC := Lib.hid fun wx => roctal_any wx n width hn1 hn2 hw1 hw2
  generalize octalA n width = ans at *
  obtain ⟨X, k⟩ := ans
  dsimp only at HC HRC
  generalize strF X = T at *
  have e2 : ((k : Int) == (k : Int)) = true := beq_self_eq_true _
  clear R
  go_enter Tryd.func3, Tryd.ntmps3
  go_wp2_with fail
  refine (HC.out w (HTB.out _ (Hid.out (by assumption)))).mono ?_
  rintro e w1 ⟨rfl, hb1⟩
  have HB1 := Lib.hid hb1
  clear hb1
  go_wp2_with fail
  refine (HRC.out w1).mono ?_
  rintro e w2 ⟨rfl, rfl⟩
  go_wp2_with fail
  refine (HAW.out w2 (HTB.out _ (Hid.out (by assumption)))).mono ?_
  rintro e w3 ⟨rfl, hb3⟩
  have HB3 := Lib.hid (HB1.out.trans (hb3.mono HB1.out.size))
  clear hb3
  go_wp2_with fail
  go_ret
  exact ⟨rfl, HB3.out⟩
set_option maxHeartbeats 3200000 in
set_option maxRecDepth 100000 in
theorem numbers_law (w : World) (hT : Tabs w) (s : ByteArray) (hs : s.size ≤ 140737488355328) : Calls Tryd.prog 4 #[.string s] w fun e w' => e = .returned (.bool true) ∧ Below w.heap.size w w' := by
  have HTB : Hid (∀ wx : World, Below w.heap.size w wx → Tabs wx) := Lib.hid fun wx hb => hT.below hb
  have HB0 := Lib.hid (Below.refl w.heap.size w)
  have HAW := Lib.hid (awake_fields R)
  clear hT
  have HC := Lib.hid fun wx => R.number wx s hs
  have HRC := Lib.hid fun wx => rnumber_any wx s (by omega)
  generalize numberA s.data.toList = ans at *
  obtain ⟨m, k⟩ := ans
  dsimp only at HC HRC
  have e1 : ((m : Int) == (m : Int)) = true := beq_self_eq_true _
  have e2 : ((k : Int) == (k : Int)) = true := beq_self_eq_true _
  clear R
  go_enter Tryd.func4, Tryd.ntmps4
  go_wp2_with fail
  refine (HC.out w).mono ?_
  rintro e w1 ⟨rfl, hb1⟩
  have HB1 := Lib.hid hb1
  clear hb1
  go_wp2_with fail
  refine (HRC.out w1).mono ?_
  rintro e w2 ⟨rfl, rfl⟩
  go_wp2_with fail
  refine (HAW.out w2 (HTB.out _ (Hid.out (by assumption)))).mono ?_
  rintro e w3 ⟨rfl, hb3⟩
  have HB3 := Lib.hid (HB1.out.trans (hb3.mono HB1.out.size))
  clear hb3
  go_wp2_with fail
  go_ret
  exact ⟨rfl, HB3.out⟩
set_option maxHeartbeats 3200000 in
set_option maxRecDepth 100000 in
theorem sums_law (w : World) (hT : Tabs w) (s : ByteArray) (hs : s.size ≤ 140737488355328) : Calls Tryd.prog 7 #[.string s] w fun e w' => e = .returned (.bool true) ∧ Below w.heap.size w w' := by
  have HTB : Hid (∀ wx : World, Below w.heap.size w wx → Tabs wx) := Lib.hid fun wx hb => hT.below hb
  have HB0 := Lib.hid (Below.refl w.heap.size w)
  have HAW := Lib.hid (awake_fields R)
  clear hT
  have HC := Lib.hid fun wx => R.sum wx s hs
  have HRC := Lib.hid fun wx => rsum15_any wx s (by omega)
  generalize sumA s.data.toList = ans at *
  obtain ⟨m, k⟩ := ans
  dsimp only at HC HRC
  have e1 : ((m : Int) == (m : Int)) = true := beq_self_eq_true _
  have e2 : ((k : Int) == (k : Int)) = true := beq_self_eq_true _
  clear R
  go_enter Tryd.func7, Tryd.ntmps7
  go_wp2_with fail
  refine (HC.out w).mono ?_
  rintro e w1 ⟨rfl, hb1⟩
  have HB1 := Lib.hid hb1
  clear hb1
  go_wp2_with fail
  refine (HRC.out w1).mono ?_
  rintro e w2 ⟨rfl, rfl⟩
  go_wp2_with fail
  refine (HAW.out w2 (HTB.out _ (Hid.out (by assumption)))).mono ?_
  rintro e w3 ⟨rfl, hb3⟩
  have HB3 := Lib.hid (HB1.out.trans (hb3.mono HB1.out.size))
  clear hb3
  go_wp2_with fail
  go_ret
  exact ⟨rfl, HB3.out⟩
set_option maxHeartbeats 3200000 in
set_option maxRecDepth 100000 in
theorem decimals_law (w : World) (hT : Tabs w) (n : Int) (s : ByteArray) (hn1 : -9223372036854775808 ≤ n) (hn2 : n ≤ 9223372036854775807) (hs : s.size ≤ 140737488355328) : Calls Tryd.prog 6 #[.int .i64 n, .string s] w fun e w' => e = .returned (.bool true) ∧ Below w.heap.size w w' := by
  have HTB : Hid (∀ wx : World, Below w.heap.size w wx → Tabs wx) := Lib.hid fun wx hb => hT.below hb
  have HB0 := Lib.hid (Below.refl w.heap.size w)
  have HAW := Lib.hid (awake_fields R)
  clear hT
  have HC := Lib.hid fun wx => R.decimal wx s hs
  have HRC := Lib.hid fun wx => rdecimal_any wx s (by omega)
  have HD := Lib.hid fun (wx : World) (ht : Tabs wx) => R.digits wx ht n hn1 hn2
  have HRD := Lib.hid fun wx => rdigits_any wx n hn1 hn2
  generalize strF (digitsA n) = T at *
  generalize decimalA s.data.toList = ans at *
  obtain ⟨m, k⟩ := ans
  dsimp only at HC HRC
  have e1 : ((m : Int) == (m : Int)) = true := beq_self_eq_true _
  have e2 : ((k : Int) == (k : Int)) = true := beq_self_eq_true _
  clear R
  go_enter Tryd.func6, Tryd.ntmps6
  go_wp2_with fail
  refine (HC.out w).mono ?_
  rintro e w1 ⟨rfl, hb1⟩
  have HB1 := Lib.hid hb1
  clear hb1
  go_wp2_with fail
  refine (HRC.out w1).mono ?_
  rintro e w2 ⟨rfl, rfl⟩
  go_wp2_with fail
  refine (HD.out w2 (HTB.out _ (Hid.out (by assumption)))).mono ?_
  rintro e w3 ⟨rfl, hb3⟩
  have HB3 := Lib.hid (HB1.out.trans (hb3.mono HB1.out.size))
  clear hb3
  go_wp2_with fail
  refine (HRD.out w3).mono ?_
  rintro e w4 ⟨rfl, rfl⟩
  go_wp2_with fail
  refine (HAW.out w4 (HTB.out _ (Hid.out (by assumption)))).mono ?_
  rintro e w5 ⟨rfl, hb5⟩
  have HB5 := Lib.hid (HB3.out.trans (hb5.mono HB3.out.size))
  clear hb5
  go_wp2_with fail
  go_ret
  exact ⟨rfl, HB5.out⟩
set_option maxHeartbeats 3200000 in
set_option maxRecDepth 100000 in
theorem texts_law (w : World) (hT : Tabs w) (s : ByteArray) (width : Int) (hs : s.size ≤ 140737488355328) (hw1 : -9223372036854775808 ≤ width) (hw2 : width ≤ 9223372036854775807) : Calls Tryd.prog 5 #[.string s, .int .i64 width] w fun e w' => e = .returned (.bool true) ∧ Below w.heap.size w w' := by
  have HTB : Hid (∀ wx : World, Below w.heap.size w wx → Tabs wx) := Lib.hid fun wx hb => hT.below hb
  have HB0 := Lib.hid (Below.refl w.heap.size w)
  have HAW := Lib.hid (awake_fields R)
  clear hT
  have HC := Lib.hid fun wx => R.text wx s width hs hw1 hw2
  have HRC := Lib.hid fun wx => rtext_any wx s width (by omega) hw1 hw2
  have HD := Lib.hid fun wx => R.cut wx s hs
  have HRD := Lib.hid fun wx => rcutz_any wx s (by omega)
  generalize strF (cutZ s.data.toList) = U at *
  generalize textA s.data.toList width = ans at *
  obtain ⟨X, k⟩ := ans
  dsimp only at HC HRC
  generalize strF X = T at *
  have e2 : ((k : Int) == (k : Int)) = true := beq_self_eq_true _
  clear R
  go_enter Tryd.func5, Tryd.ntmps5
  go_wp2_with fail
  refine (HC.out w).mono ?_
  rintro e w1 ⟨rfl, hb1⟩
  have HB1 := Lib.hid hb1
  clear hb1
  go_wp2_with fail
  refine (HRC.out w1).mono ?_
  rintro e w2 ⟨rfl, rfl⟩
  go_wp2_with fail
  refine (HD.out w2).mono ?_
  rintro e w3 ⟨rfl, hb3⟩
  have HB3 := Lib.hid (HB1.out.trans (hb3.mono HB1.out.size))
  clear hb3
  go_wp2_with fail
  refine (HRD.out w3).mono ?_
  rintro e w4 ⟨rfl, rfl⟩
  go_wp2_with fail
  refine (HAW.out w4 (HTB.out _ (Hid.out (by assumption)))).mono ?_
  rintro e w5 ⟨rfl, hb5⟩
  have HB5 := Lib.hid (HB3.out.trans (hb5.mono HB3.out.size))
  clear hb5
  go_wp2_with fail
  go_ret
  exact ⟨rfl, HB5.out⟩
end
end Go.Proofs.YthnmodbfejmibaaDoor
