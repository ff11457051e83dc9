/- The answers that the document fixes. -/
import Derived.Test.YthpfmkknebnppaaYh
namespace Go.Proofs.Ythpfmkknebnppaa
open Go.RowKit

theorem make_four {len : Nat → Nat} (h : MakeR (oneL [5, 1, 1, 1]) 17 len) : (List.range 4).map len = [1, 3, 3, 2] := by
  have e : oneL [5, 1, 1, 1] = [5, 1, 1, 1] := by decide
  rw [e] at h
  have h2 : MakeR [5, 1, 1, 1] 17 (more [3, 1, 2, 0] (more [3, 1, 2] (more [1, 2] fun _ => 0))) := by
    refine .done hlen_four fun i hi => ?_
    have : i = 0 ∨ i = 1 ∨ i = 2 ∨ i = 3 := by
      have h4 : i < 4 := hi
      omega
    rcases this with rfl | rfl | rfl | rfl <;> decide
  rw [makeR_one h h2]
  decide
theorem flat_three {k : Nat} (h1 : 2 ^ k ≤ 3) (h2 : 3 < 2 ^ (k + 1)) : (List.range 3).map (flatLen k (2 ^ (k + 1) - 3) (oneL [1, 9, 1])) = [2, 1, 2] := by
  have hk : k = 1 := by
    have : k < 2 := by
      rcases Nat.lt_or_ge k 2 with h | h
      · exact h
      · exfalso
        have := Nat.pow_le_pow_right (n := 2) (by decide) h
        omega
    have : k ≠ 0 := by
      rintro rfl
      simp at h2
    omega
  subst hk
  decide +kernel
theorem row_of {n : Nat} {f : Nat → Nat} {L : List Nat} (h : (List.range n).map f = L) : rowF n f = L.map iv := by
  rw [← h, List.map_map]
  rfl
theorem cost_two : costAns [3, 1] [1, 2] = (5, 0) := by decide +kernel
theorem len_three : ¬ LenOk [1, 1, 1] := by decide +kernel
theorem full_two : LenOk [1, 1] ∧ kraftL [1, 1] = 1048576 := by decide +kernel
theorem may_four : MayW [5, 1, 1, 1] := by decide +kernel
theorem may_three : MayW [1, 9, 1] := by decide +kernel
theorem zs_low {w w' : World} {A : Option Addr} {n : Nat} {L : List Int} (h : ZIn w A n L) (hb : Below w.heap.size w w') : ZIn w' A n L := h.below hb

section
variable {N : Nat} (R : LenDone N)
include R
theorem amake (hN : 10 ≤ N) (w : World) : Calls Try.prog 10 #[.slice (some ⟨w.heap.size, 0, none⟩) 4 4, .int .i64 17] (w.alloc (.cells #[.int .i64 5, .int .i64 1, .int .i64 1, .int .i64 1] 3)) fun e w' => ∃ A c, e = .returned (.tuple #[.slice A 4 c, .int .i64 0]) ∧ IntsIn w' A 4 [1, 3, 3, 2] ∧ Below w.heap.size w w' := by
  refine (R.make (w.alloc (.cells #[.int .i64 5, .int .i64 1, .int .i64 1, .int .i64 1] 3)) (some ⟨w.heap.size, 0, none⟩) 4 4 [5, 1, 1, 1] 17 (lit_zs w [5, 1, 1, 1]) (by omega) (by omega) (by unfold maxLen; omega) (by omega) (by omega)).mono ?_
  rintro e w' (⟨h, _⟩ | ⟨_, _, _, v, len, hm, rfl, ho, hb⟩)
  · exfalso
    rcases h with h | h | h
    · exact h may_four
    · omega
    · omega
  · have h4 := make_four hm
    have ho2 : w'.ownsRow (w.alloc (.cells #[.int .i64 5, .int .i64 1, .int .i64 1, .int .i64 1] 3)).heap.size 3 1 v 4 ([1, 3, 3, 2].map iv) := by
      rw [← row_of h4]
      exact ho
    obtain ⟨A, c, rfl, _⟩ := own_slice ho2
    exact ⟨A, c, rfl, ints_of_own ho2, ((Below.refl w.heap.size w).alloc (Nat.le_refl _) _).trans (hb.mono (by simp))⟩
theorem aflat (hN : 10 ≤ N) (w : World) : Calls Try.prog 14 #[.slice (some ⟨w.heap.size, 0, none⟩) 3 3] (w.alloc (.cells #[.int .i64 1, .int .i64 9, .int .i64 1] 3)) fun e w' => ∃ A c, e = .returned (.tuple #[.slice A 3 c, .int .i64 0]) ∧ IntsIn w' A 3 [2, 1, 2] ∧ Below w.heap.size w w' := by
  refine (R.flat (w.alloc (.cells #[.int .i64 1, .int .i64 9, .int .i64 1] 3)) (some ⟨w.heap.size, 0, none⟩) 3 3 [1, 9, 1] (lit_zs w [1, 9, 1]) (by omega) (by omega) (by unfold maxLen; omega)).mono ?_
  rintro e w' (⟨h, _⟩ | ⟨_, v, k, h1, h2, rfl, ho, hb⟩)
  · exact absurd may_three h
  · have h4 := flat_three h1 h2
    have ho2 : w'.ownsRow (w.alloc (.cells #[.int .i64 1, .int .i64 9, .int .i64 1] 3)).heap.size 3 1 v 3 ([2, 1, 2].map iv) := by
      rw [← row_of h4]
      exact ho
    obtain ⟨A, c, rfl, _⟩ := own_slice ho2
    exact ⟨A, c, rfl, ints_of_own ho2, ((Below.refl w.heap.size w).alloc (Nat.le_refl _) _).trans (hb.mono (by simp))⟩
theorem acost (w : World) : Calls Try.prog 20 #[.slice (some ⟨w.heap.size, 0, none⟩) 2 2, .slice (some ⟨w.heap.size + 1, 0, none⟩) 2 2] ((w.alloc (.cells #[.int .i64 3, .int .i64 1] 3)).alloc (.cells #[.int .i64 1, .int .i64 2] 3)) fun e w' => e = .returned (.tuple #[.int .i64 5, .int .i64 0]) ∧ Below w.heap.size w w' := by
  have hb1 : Below w.heap.size w (w.alloc (.cells #[.int .i64 3, .int .i64 1] 3)) := (Below.refl _ w).alloc (Nat.le_refl _) _
  have hb2 : Below (w.alloc (.cells #[.int .i64 3, .int .i64 1] 3)).heap.size (w.alloc (.cells #[.int .i64 3, .int .i64 1] 3)) ((w.alloc (.cells #[.int .i64 3, .int .i64 1] 3)).alloc (.cells #[.int .i64 1, .int .i64 2] 3)) := (Below.refl _ _).alloc (Nat.le_refl _) _
  have h2 := lit_zs (w.alloc (.cells #[.int .i64 3, .int .i64 1] 3)) [1, 2]
  rw [show (w.alloc (.cells #[.int .i64 3, .int .i64 1] 3)).heap.size = w.heap.size + 1 by simp] at h2
  refine (R.cost ((w.alloc (.cells #[.int .i64 3, .int .i64 1] 3)).alloc (.cells #[.int .i64 1, .int .i64 2] 3)) (some ⟨w.heap.size, 0, none⟩) (some ⟨w.heap.size + 1, 0, none⟩) 2 2 2 2 [3, 1] [1, 2] (zs_low (lit_zs w [3, 1]) hb2) (by omega) (by unfold maxLen; omega) h2 (by omega) (by unfold maxLen; omega)).mono ?_
  rintro e w' ⟨rfl, hb⟩
  rw [cost_two]
  exact ⟨rfl, hb1.trans ((hb2.mono (by simp)).trans (hb.mono (by simp; omega)))⟩
theorem acheck (w : World) : Calls Try.prog 16 #[.slice (some ⟨w.heap.size, 0, none⟩) 3 3] (w.alloc (.cells #[.int .i64 1, .int .i64 1, .int .i64 1] 3)) fun e w' => e = .returned (.int .i64 80) ∧ Below w.heap.size w w' := by
  refine (R.check (w.alloc (.cells #[.int .i64 1, .int .i64 1, .int .i64 1] 3)) (some ⟨w.heap.size, 0, none⟩) 3 3 [1, 1, 1] (lit_zs w [1, 1, 1]) (by omega) (by unfold maxLen; omega)).mono ?_
  rintro e w' ⟨rfl, hb⟩
  rw [if_neg len_three]
  exact ⟨rfl, ((Below.refl w.heap.size w).alloc (Nat.le_refl _) _).trans (hb.mono (by simp))⟩
theorem afull (w : World) : Calls Try.prog 18 #[.slice (some ⟨w.heap.size, 0, none⟩) 2 2] (w.alloc (.cells #[.int .i64 1, .int .i64 1] 3)) fun e w' => e = .returned (.bool true) ∧ Below w.heap.size w w' := by
  refine (R.full (w.alloc (.cells #[.int .i64 1, .int .i64 1] 3)) (some ⟨w.heap.size, 0, none⟩) 2 2 [1, 1] (lit_zs w [1, 1]) (by omega) (by unfold maxLen; omega)).mono ?_
  rintro e w' ⟨rfl, hb⟩
  rw [decide_eq_true full_two]
  exact ⟨rfl, ((Below.refl w.heap.size w).alloc (Nat.le_refl _) _).trans (hb.mono (by simp))⟩

set_option maxHeartbeats 3200000 in
set_option maxRecDepth 100000 in
theorem awake_any (hN : 10 ≤ N) (w : World) : Calls Try.prog 13 #[] w fun e w' => e = .returned (.bool true) ∧ Below w.heap.size w w' := by
  have HF := Lib.hid (aflat R hN)
  have HC := Lib.hid (acost R)
  have HK := Lib.hid (acheck R)
  have HU := Lib.hid (afull R)
  go_enter Try.func13, Try.ntmps13
  go_wp2_with fail
  refine (amake R hN w).mono ?_
  rintro e w1 ⟨A1, c1, rfl, hi1, hb1⟩
  have HI1 := Lib.hid hi1
  have HB1 := Lib.hid hb1
  clear hi1 hb1
  go_wp2_with fail
  refine (HF.out w1).mono ?_
  rintro e w2 ⟨A2, c2, rfl, hi2, hb2⟩
  have HI12 := Lib.hid (ints_low HI1.out hb2)
  have HI2 := Lib.hid hi2
  have HB2 := Lib.hid (HB1.out.trans (hb2.mono HB1.out.size))
  clear hi2 hb2
  go_wp2_with fail
  refine (HC.out w2).mono ?_
  rintro e w3 ⟨rfl, hb3⟩
  have hal : Below w3.heap.size w3 (w3.alloc (.cells #[.int .i64 1, .int .i64 3, .int .i64 3, .int .i64 2] 3)) := (Below.refl _ _).alloc (Nat.le_refl _) _
  have hI1 := ints_low (ints_low HI12.out hb3) hal
  have HI2' := Lib.hid (ints_low (ints_low HI2.out hb3) hal)
  have HB3 := Lib.hid ((HB2.out.trans (hb3.mono HB2.out.size)).trans (hal.mono (Nat.le_trans HB2.out.size hb3.size)))
  have HS := Lib.hid (ints_same _ A1 _ 4 c1 4 [1, 3, 3, 2] hI1 (lit_ints w3 [1, 3, 3, 2]) (by omega))
  clear hb3 hal hI1
  go_wp2_with fail
  refine HS.out.mono ?_
  rintro e w4 ⟨rfl, m4, rfl⟩
  have HB4 := Lib.hid (below_drewN HB3.out m4)
  have HI4 := Lib.hid (show IntsIn ((w3.alloc (.cells #[.int .i64 1, .int .i64 3, .int .i64 3, .int .i64 2] 3)).drewN m4) A2 3 [2, 1, 2] from HI2'.out)
  generalize (w3.alloc (.cells #[.int .i64 1, .int .i64 3, .int .i64 3, .int .i64 2] 3)).drewN m4 = w5 at *
  have hal : Below w5.heap.size w5 (w5.alloc (.cells #[.int .i64 2, .int .i64 1, .int .i64 2] 3)) := (Below.refl _ _).alloc (Nat.le_refl _) _
  have HS2 := Lib.hid (ints_same _ A2 _ 3 c2 3 [2, 1, 2] (ints_low HI4.out hal) (lit_ints w5 [2, 1, 2]) (by omega))
  have HB5 := Lib.hid (HB4.out.trans (hal.mono HB4.out.size))
  clear hal HS
  go_wp2_with fail
  refine HS2.out.mono ?_
  rintro e w6 ⟨rfl, m6, rfl⟩
  have HB6 := Lib.hid (below_drewN HB5.out m6)
  generalize (w5.alloc (.cells #[.int .i64 2, .int .i64 1, .int .i64 2] 3)).drewN m6 = w7 at *
  go_wp2_with fail
  refine (HK.out w7).mono ?_
  rintro e w8 ⟨rfl, hb8⟩
  have HB8 := Lib.hid (HB6.out.trans (hb8.mono HB6.out.size))
  clear hb8
  go_wp2_with fail
  refine (HU.out w8).mono ?_
  rintro e w9 ⟨rfl, hb9⟩
  have HB9 := Lib.hid (HB8.out.trans (hb9.mono HB8.out.size))
  clear hb9
  go_wp2_with fail
  go_ret
  exact ⟨rfl, HB9.out⟩
end

end Go.Proofs.Ythpfmkknebnppaa
