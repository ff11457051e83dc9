/- The law RleCuts, walked, over the contracts of the calls. -/
import Derived.Test.YtihmlhkjafajmaaFc
namespace Go.Proofs.Ytihmlhkjafajmaa
open Go.RowKit
variable (R : RleDone)
include R

set_option maxHeartbeats 1600000 in
theorem cuts_walk (w : World) (s : ByteArray) (most : Int) (hs : s.size ≤ 1048576) (h1 : -9223372036854775808 ≤ most) (h2 : most ≤ 9223372036854775807) :
    Calls Try.prog 8 #[.string s, .int .i64 most] w fun e w' => e = .returned (.bool true) ∧ Below w.heap.size w w' := by
  have HC := Lib.hid (R.fit w s most (by omega) h1 h2)
  go_enter Try.func8, Try.ntmps8
  go_wp2_with fail
  refine HC.out.mono ?_
  rintro e w1 ⟨n, rfl, hf, hb1⟩
  have hsl : s.data.toList.length = s.size := rfl
  obtain ⟨hn, hup, hnext⟩ := hf
  rw [hsl] at hn hnext
  have HB1 := Lib.hid hb1
  have hx : (s.extract 0 n).size ≤ 2097152 := by rw [ByteArray.size_extract]; omega
  have hr := fun w1 : World => R.enc w1 (s.extract 0 n) hx
  rw [ext_take] at hr
  obtain ⟨F, hF⟩ : ∃ F : ByteArray, F = ⟨(encL (s.data.toList.take n)).toArray⟩ := ⟨_, rfl⟩
  have hFs : F.size = (encL (s.data.toList.take n)).length := by rw [hF]; rfl
  have hfit : (F.size : Int) ≤ most ∨ F.size = 0 := by
    by_cases e : n = 0
    · right
      rw [hFs, e]
      rfl
    · left
      have := hup n (by omega) (Nat.le_refl _)
      rw [hFs]
      exact this
  have hlb := encL_long (s.data.toList.take n)
  rw [List.length_take, hsl, ← hFs] at hlb
  have hlb2 : F.size ≤ 2000000 := by omega
  rw [← hF] at hr
  have HR := Lib.hid hr
  have HNX := Lib.hid hnext
  clear hF hr hFs hup hnext hb1 hsl hx hlb
  go_wp2_with fail
  refine (HR.out w1).mono ?_
  rintro e w2 ⟨rfl, hb2⟩
  have HB2 := Lib.hid (HB1.out.trans (hb2.mono HB1.out.size))
  clear hb2
  have hpos : (F.size : Int) ≤ most ∨ (most < 0 ∧ F.size = 0) ∨ (0 ≤ most ∧ F.size = 0) := by omega
  by_cases hall : n = s.size
  · subst hall
    have d1 : ((s.size : Int) == (s.size : Int)) = true := by simp
    go_wp2_with fail
    all_goals refine (awake_any R _).mono ?_
    all_goals rintro e w4 ⟨rfl, hb4⟩
    all_goals go_wp2_with fail
    all_goals go_ret
    all_goals exact ⟨rfl, HB2.out.trans (hb4.mono HB2.out.size)⟩
  · have d1 : ((n : Int) == (s.size : Int)) = false := by
      simp only [beq_eq_false_iff_ne, ne_eq]
      omega
    have hx2 : (s.extract 0 (n + 1)).size ≤ 2097152 := by rw [ByteArray.size_extract]; omega
    have hr2 := fun w1 : World => R.enc w1 (s.extract 0 (n + 1)) hx2
    rw [ext_take] at hr2
    have hgt := HNX.out (by omega)
    obtain ⟨G, hG⟩ : ∃ G : ByteArray, G = ⟨(encL (s.data.toList.take (n + 1))).toArray⟩ := ⟨_, rfl⟩
    have hGs : G.size = (encL (s.data.toList.take (n + 1))).length := by rw [hG]; rfl
    have hlb := encL_long (s.data.toList.take (n + 1))
    have hsl : s.data.toList.length = s.size := rfl
    rw [List.length_take, hsl, ← hGs] at hlb
    have hlb3 : G.size ≤ 2000000 := by omega
    rw [← hGs] at hgt
    rw [← hG] at hr2
    have HR2 := Lib.hid hr2
    clear hG hr2 hGs hsl hlb hx2
    go_wp2_with fail
    all_goals refine (HR2.out w2).mono ?_
    all_goals rintro e w3 ⟨rfl, hb3⟩
    all_goals have HB3 := Lib.hid (HB2.out.trans (hb3.mono HB2.out.size))
    all_goals clear hb3
    all_goals go_wp2_with fail
    all_goals refine (awake_any R _).mono ?_
    all_goals rintro e w4 ⟨rfl, hb4⟩
    all_goals go_wp2_with fail
    all_goals go_ret
    all_goals exact ⟨rfl, HB3.out.trans (hb4.mono HB3.out.size)⟩

end Go.Proofs.Ytihmlhkjafajmaa
