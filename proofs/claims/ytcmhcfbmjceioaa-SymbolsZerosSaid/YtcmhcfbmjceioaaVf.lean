/- Of, mayBe. Conditions: a text of at most a million bytes. -/
import Derived.Test.YtcmhcfbmjceioaaVe
namespace Go.Proofs.Ytcmhcfbmjceioaa
open Go.RowKit

theorem cof_any (w : World) (s : ByteArray) (hs : s.size ≤ 1000000) : Calls Try.prog 10 #[.string s] w fun e w' => e = .returned (.string (strB (ofL s.data.toList))) ∧ Below w.heap.size w w' := by
  have HSET := Lib.hid (setof_any w s hs)
  have HRI := Lib.hid rising_any
  have HOF := Lib.hid (rising_of s.data.toList)
  go_enter Try.func10, Try.ntmps10
  go_wp2_with fail
  refine HSET.out.mono ?_
  rintro e w1 ⟨f, rfl, hrep, hb1⟩
  have hri := HRI.out w1 f fun i hi => (hrep i hi).1
  rw [HOF.out f hrep] at hri
  have HRI2 := Lib.hid hri
  have HB1 := Lib.hid hb1
  have hz1 := hb1.size
  clear hri hrep hb1
  generalize arrG f = T at *
  go_wp2_with fail
  refine HRI2.out.mono ?_
  rintro e w2 ⟨rfl, hb2⟩
  have HB2 := Lib.hid (HB1.out.trans (hb2.mono hz1))
  clear hb2
  go_wp2_with fail
  go_ret
  exact ⟨rfl, HB2.out⟩

set_option maxRecDepth 100000 in
theorem cmay_any (w : World) (s : ByteArray) (hs : s.size ≤ 1000000) : Calls Try.prog 26 #[.string s] w fun e w' => e = .returned (.bool (decide (MayL s.data.toList))) ∧ Below w.heap.size w w' := by
  by_cases h0 : s.size = 0
  · have hd : s = ⟨#[]⟩ := by
      apply ByteArray.ext
      exact Array.eq_empty_of_size_eq_zero h0
    subst hd
    have e : decide (MayL (⟨#[]⟩ : ByteArray).data.toList) = false := decide_eq_false (fun h => h.1 rfl)
    rw [e]
    go_enter Try.func26, Try.ntmps26
    go_wp2_with fail
    go_ret
    exact ⟨rfl, Below.refl _ _⟩
  · have hne := not_empty s (by omega)
    have hnil : s.data.toList ≠ [] := fun h => by
      have hsl : s.data.toList.length = s.size := rfl
      rw [h] at hsl
      simp at hsl
      omega
    have HA := Lib.hid (cof_any w s hs)
    have heq : (s.toList == (strB (ofL s.data.toList)).toList) = decide (MayL s.data.toList) := by
      rw [ByteArray.toList_eq, ByteArray.toList_eq]
      show (s.data.toList == ofL s.data.toList) = _
      by_cases h : ofL s.data.toList = s.data.toList
      · rw [decide_eq_true ⟨hnil, h⟩, h]
        simp
      · rw [decide_eq_false (fun h2 => h h2.2)]
        simpa using fun h2 => h h2.symm
    clear hnil
    generalize decide (MayL s.data.toList) = d at *
    go_enter Try.func26, Try.ntmps26
    go_wp2_with fail
    refine HA.out.mono ?_
    rintro e w1 ⟨rfl, hb⟩
    have HB := Lib.hid hb
    clear hb
    go_wp2_with fail
    go_ret
    exact ⟨rfl, HB.out⟩

end Go.Proofs.Ytcmhcfbmjceioaa
