/- The laws RleEncodes, RleDecodes, RleFits, RleBack, walked, over the contracts of the calls. -/
import Derived.Test.YtihmlhkjafajmaaFa
namespace Go.Proofs.Ytihmlhkjafajmaa
open Go.RowKit
variable (R : RleDone)
include R

theorem encodes_big (w : World) (s : ByteArray) (hs : s.size ≤ maxLen) (h : 5000 < s.size) :
    Calls Try.prog 3 #[.string s] w fun e w' => e = .returned (.bool true) ∧ Below w.heap.size w w' := by
  unfold maxLen at hs
  go_enter Try.func3, Try.ntmps3
  go_wp2_with fail
  refine (awake_any R _).mono ?_
  rintro e w' ⟨rfl, hbw⟩
  go_wp2_with fail
  go_ret
  exact ⟨rfl, hbw⟩

theorem encodes_walk (w : World) (s : ByteArray) (hs : s.size ≤ 5000) :
    Calls Try.prog 3 #[.string s] w fun e w' => e = .returned (.bool true) ∧ Below w.heap.size w w' := by
  have hr := fun w1 : World => renc_any w1 s (by omega)
  have hc := R.enc w s (by omega)
  generalize (⟨(encL s.data.toList).toArray⟩ : ByteArray) = y at *
  have HR := Lib.hid hr
  have HC := Lib.hid hc
  clear hr hc
  go_enter Try.func3, Try.ntmps3
  go_wp2_with fail
  refine HC.out.mono ?_
  rintro e w1 ⟨rfl, hb1⟩
  go_wp2_with fail
  refine (HR.out w1).mono ?_
  rintro e w2 ⟨rfl, hb2⟩
  have HB := Lib.hid (hb1.trans (hb2.mono hb1.size))
  clear hb1 hb2
  go_wp2_with fail
  refine (awake_any R w2).mono ?_
  rintro e w3 ⟨rfl, hb3⟩
  go_wp2_with fail
  go_ret
  exact ⟨rfl, HB.out.trans (hb3.mono HB.out.size)⟩

theorem decodes_big (w : World) (s : ByteArray) (hs : s.size ≤ maxLen) (h : 4000 < s.size) :
    Calls Try.prog 4 #[.string s] w fun e w' => e = .returned (.bool true) ∧ Below w.heap.size w w' := by
  unfold maxLen at hs
  go_enter Try.func4, Try.ntmps4
  go_wp2_with fail
  refine (awake_any R _).mono ?_
  rintro e w' ⟨rfl, hbw⟩
  go_wp2_with fail
  go_ret
  exact ⟨rfl, hbw⟩

theorem decodes_walk (w : World) (s : ByteArray) (hs : s.size ≤ 4000) :
    Calls Try.prog 4 #[.string s] w fun e w' => e = .returned (.bool true) ∧ Below w.heap.size w w' := by
  have hr := fun w1 : World => rdec_any w1 s
  have hc := R.dec w s (by omega)
  generalize (⟨(decL [] s.data.toList).1.toArray⟩ : ByteArray) = y at *
  have hv : (decL [] s.data.toList).2 ≤ 30 := dec_err _ _
  generalize (decL [] s.data.toList).2 = v at *
  have HR := Lib.hid hr
  have HC := Lib.hid hc
  clear hr hc
  go_enter Try.func4, Try.ntmps4
  go_wp2_with fail
  refine HC.out.mono ?_
  rintro e w1 ⟨rfl, hb1⟩
  go_wp2_with fail
  refine (HR.out w1).mono ?_
  rintro e w2 ⟨rfl, hb2⟩
  have HB := Lib.hid (hb1.trans (hb2.mono hb1.size))
  clear hb1 hb2
  go_wp2_with fail
  refine (awake_any R w2).mono ?_
  rintro e w3 ⟨rfl, hb3⟩
  go_wp2_with fail
  go_ret
  exact ⟨rfl, HB.out.trans (hb3.mono HB.out.size)⟩

theorem fits_big (w : World) (s : ByteArray) (most : Int) (hs : s.size ≤ maxLen) (h : 400 < s.size) :
    Calls Try.prog 5 #[.string s, .int .i64 most] w fun e w' => e = .returned (.bool true) ∧ Below w.heap.size w w' := by
  unfold maxLen at hs
  go_enter Try.func5, Try.ntmps5
  go_wp2_with fail
  refine (awake_any R _).mono ?_
  rintro e w' ⟨rfl, hbw⟩
  go_wp2_with fail
  go_ret
  exact ⟨rfl, hbw⟩

theorem fits_walk (w : World) (s : ByteArray) (most : Int) (hs : s.size ≤ 400) (h1 : -9223372036854775808 ≤ most) (h2 : most ≤ 9223372036854775807) :
    Calls Try.prog 5 #[.string s, .int .i64 most] w fun e w' => e = .returned (.bool true) ∧ Below w.heap.size w w' := by
  have HR := Lib.hid fun w1 : World => rfit_any w1 s most (by omega)
  have HC := Lib.hid (R.fit w s most (by omega) h1 h2)
  go_enter Try.func5, Try.ntmps5
  go_wp2_with fail
  refine HC.out.mono ?_
  rintro e w1 ⟨n, rfl, hf1, hb1⟩
  have HF := Lib.hid hf1
  clear hf1
  go_wp2_with fail
  refine (HR.out w1).mono ?_
  rintro e w2 ⟨m, rfl, hf2, hb2⟩
  have hmn : m = n := isFit_one hf2 HF.out
  subst hmn
  clear hf2
  have HB := Lib.hid (hb1.trans (hb2.mono hb1.size))
  clear hb1 hb2
  go_wp2_with fail
  refine (awake_any R w2).mono ?_
  rintro e w3 ⟨rfl, hb3⟩
  go_wp2_with fail
  go_ret
  exact ⟨rfl, HB.out.trans (hb3.mono HB.out.size)⟩

theorem back_big (w : World) (s : ByteArray) (hs : s.size ≤ maxLen) (h : 262144 < s.size) :
    Calls Try.prog 6 #[.string s] w fun e w' => e = .returned (.bool true) ∧ Below w.heap.size w w' := by
  unfold maxLen at hs
  have dd : decide ((262144 : Int) < (s.size : Int)) = true := decide_eq_true (by omega)
  have HH := Lib.hid h
  clear h
  go_enter Try.func6, Try.ntmps6
  go_wp2_with fail
  refine (awake_any R _).mono ?_
  rintro e w' ⟨rfl, hbw⟩
  go_wp2_with fail
  go_ret
  exact ⟨rfl, hbw⟩

theorem back_walk (w : World) (s : ByteArray) (hs : s.size ≤ 262144) :
    Calls Try.prog 6 #[.string s] w fun e w' => e = .returned (.bool true) ∧ Below w.heap.size w w' := by
  have hc := R.enc w s (by omega)
  have hl := encL_long s.data.toList
  have hsl : s.data.toList.length = s.size := rfl
  have hd := fun w1 : World => R.dec w1 ⟨(encL s.data.toList).toArray⟩ (by show (encL s.data.toList).length ≤ _; omega)
  have he : decL [] (⟨(encL s.data.toList).toArray⟩ : ByteArray).data.toList = (s.data.toList, 0) := dec_enc s.data.toList hs
  rw [he] at hd
  generalize (⟨(encL s.data.toList).toArray⟩ : ByteArray) = y at *
  have HD := Lib.hid hd
  have HC := Lib.hid hc
  have dd : decide ((262144 : Int) < (s.size : Int)) = false := decide_eq_false (by omega)
  have HS := Lib.hid hs
  clear hd hc hs hl hsl he
  go_enter Try.func6, Try.ntmps6
  go_wp2_with fail
  refine HC.out.mono ?_
  rintro e w1 ⟨rfl, hb1⟩
  go_wp2_with fail
  refine (HD.out w1).mono ?_
  rintro e w2 ⟨rfl, hb2⟩
  have HB := Lib.hid (hb1.trans (hb2.mono hb1.size))
  clear hb1 hb2
  have hss : (⟨s.data.toList.toArray⟩ : ByteArray) = s := rfl
  show _
  go_wp2_with fail
  refine (awake_any R w2).mono ?_
  rintro e w3 ⟨rfl, hb3⟩
  go_wp2_with fail
  go_ret
  exact ⟨rfl, HB.out.trans (hb3.mono HB.out.size)⟩

end Go.Proofs.Ytihmlhkjafajmaa
