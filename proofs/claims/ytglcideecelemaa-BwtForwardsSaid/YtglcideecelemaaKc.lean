/- Rows of ints that are known cell by cell; the rank further on, and what is compared by it. Conditions: at most a million numbers. -/
import Derived.Test.YtglcideecelemaaKb
import Derived.Test.YtglcideecelemaaI
namespace Go.Proofs.Ytglcideecelemaa
open Go.RowKit

/-- Block g is a row of ints that begins with L. -/
def IRow (w : World) (g : Nat) (L : List Nat) : Prop := ∃ cs, Blk w g 3 cs ∧ ∀ i, i < L.length → cs[i]? = some (iv (L.getD i 0))
theorem IRow.cell {w : World} {g : Nat} {L : List Nat} (h : IRow w g L) {i : Nat} (hi : i < L.length) : w.cell? ⟨g, i, none⟩ = some (.int .i64 (L.getD i 0 : Nat)) := by
  obtain ⟨cs, hb, hc⟩ := h
  rw [blk_cell hb, hc i hi]
  rfl
theorem IRow.frozen {w : World} {g : Nat} {L : List Nat} (h : IRow w g L) (i : Nat) : w.frozen? ⟨g, i, none⟩ = false := by
  obtain ⟨cs, hb, hc⟩ := h
  exact blk_frozen hb i
theorem IRow.lt {w : World} {g : Nat} {L : List Nat} (h : IRow w g L) : g < w.heap.size := by
  obtain ⟨cs, hb, hc⟩ := h
  exact blk_lt hb
theorem getD_set (L : List Nat) (i v p : Nat) (hi : i < L.length) : (L.set i v).getD p 0 = if p = i then v else L.getD p 0 := by
  rw [List.getD_eq_getElem?_getD, List.getD_eq_getElem?_getD, List.getElem?_set]
  by_cases h : i = p
  · subst h
    rw [if_pos rfl, if_pos hi, if_pos rfl]
    rfl
  · rw [if_neg h, if_neg (fun e => h e.symm)]
theorem IRow.set {w : World} {g : Nat} {L : List Nat} (h : IRow w g L) {i : Nat} (hi : i < L.length) (v : Nat) : IRow (w.setCell ⟨g, i, none⟩ (.int .i64 v)) g (L.set i v) := by
  obtain ⟨cs, hb, hc⟩ := h
  refine ⟨_, blk_set hb i (.int .i64 v), fun p hp => ?_⟩
  rw [List.length_set] at hp
  rw [Array.getElem?_setIfInBounds, getD_set L i v p hi]
  have h1 : i < cs.size := by
    have := hc i hi
    rcases Nat.lt_or_ge i cs.size with h2 | h2
    · exact h2
    · rw [Array.getElem?_eq_none h2] at this
      cases this
  by_cases e : i = p
  · subst e
    rw [if_pos rfl, if_pos h1, if_pos rfl]
    rfl
  · rw [if_neg e, if_neg (fun e2 => e e2.symm)]
    exact hc p hp
theorem Step.irow {B : Nat} {ps : List Nat} {ts : List TypeId} {w w' : World} (h : Step B ps ts w w') {g : Nat} {L : List Nat} (hr : IRow w g L) (hp : g ∉ ps) (ht : 3 ∉ ts) : IRow w' g L := by
  obtain ⟨cs, hb, hc⟩ := hr
  exact ⟨cs, h.blk hb hp ht, hc⟩
theorem irow_of_own {w : World} {B n : Nat} {v : Value} {L : List Nat} (h : w.ownsRow B 3 1 v n (L.map iv)) (hn : 0 < n) : ∃ g cap, v = .slice (some ⟨g, 0, none⟩) n cap ∧ n ≤ cap ∧ B ≤ g ∧ IRow w g L ∧ L.length = n := by
  have hl := h.1
  rw [List.length_map, Nat.mul_one] at hl
  rcases h.2 with ⟨_, h0⟩ | ⟨g, cap, cur, rfl, hB, hh, hnc, _, hsz, htk⟩
  · omega
  · refine ⟨g, cap, rfl, hnc, hB, ⟨cur, hh, fun i hi => ?_⟩, hl⟩
    have h1 : (cur.toList.take (n * 1))[i]? = (L.map iv)[i]? := by rw [htk]
    rw [List.getElem?_take_of_lt (by omega), List.getElem?_map, List.getElem?_eq_getElem (by omega : i < L.length)] at h1
    rw [← Array.getElem?_toList, h1, List.getD_eq_getElem?_getD, List.getElem?_eq_getElem (by omega : i < L.length)]
    rfl

/-- What r holds: its ranks R in the block ob, t bytes known. -/
def RBlk (w : World) (rb ob n c t : Nat) : Prop := Blk w rb 49 #[.slice (some ⟨ob, 0, none⟩) n c, .int .i64 t]
abbrev rp (rb : Nat) : Value := .pointer (some ⟨rb, 0, none⟩)

set_option maxHeartbeats 1600000 in
set_option maxRecDepth 100000 in
theorem further_any (w : World) (rb ob n c t i : Nat) (R : List Nat) (hr : RBlk w rb ob n c t) (hR : IRow w ob R) (hl : R.length = n) (hi : i < n) (ht : t ≤ n) (hn : n ≤ 1000000) :
    Calls Try.prog 31 #[rp rb, .int .i64 i] w fun e w' => e = .returned (.int .i64 (keyAt n t (fun k => R.getD k 0) i : Nat)) ∧ w = w' := by
  have c0 := blk_cell hr 0
  have c1 := blk_cell hr 1
  simp at c0 c1
  by_cases h : n ≤ i + t
  · have hk : keyAt n t (fun k => R.getD k 0) i = R.getD (i + t - n) 0 := by unfold keyAt; rw [if_pos h]
    have hc := hR.cell (i := i + t - n) (by omega)
    rw [hk]
    generalize R.getD (i + t - n) 0 = v at *
    have e1 : ((i : Int) + (t : Int) - (n : Int)) = ((i + t - n : Nat) : Int) := by omega
    have e2 : (((i : Int) + (t : Int) - (n : Int))).toNat = i + t - n := by omega
    have d1 : decide ((n : Int) ≤ (i : Int) + (t : Int)) = true := decide_eq_true (by omega)
    go_enter Try.func31, Try.ntmps31
    go_wp2_with fail
    go_ret
    exact ⟨rfl, rfl⟩
  · have hk : keyAt n t (fun k => R.getD k 0) i = R.getD (i + t) 0 := by unfold keyAt; rw [if_neg h]
    have hc := hR.cell (i := i + t) (by omega)
    rw [hk]
    generalize R.getD (i + t) 0 = v at *
    have e2 : (((i : Int) + (t : Int))).toNat = i + t := by omega
    have d1 : decide ((n : Int) ≤ (i : Int) + (t : Int)) = false := decide_eq_false (by omega)
    go_enter Try.func31, Try.ntmps31
    go_wp2_with fail
    go_ret
    exact ⟨rfl, rfl⟩

/-- Two ints compared. -/
def cmpI (a b : Int) : Int := if a < b then -1 else if b < a then 1 else 0
set_option maxHeartbeats 1600000 in
theorem cmpint_any (w : World) (a b : Int) : Calls Try.prog 37 #[.int .i64 a, .int .i64 b] w fun e w' => e = .returned (.int .i64 (cmpI a b)) ∧ w = w' := by
  obtain ⟨v, hv⟩ : ∃ v, v = cmpI a b := ⟨_, rfl⟩
  have HV := Lib.hid hv
  unfold cmpI at hv
  by_cases h1 : a < b
  · rw [if_pos h1] at hv
    have HW := Lib.hid hv
    clear hv
    have d1 : decide (a < b) = true := decide_eq_true h1
    go_enter Try.func37, Try.ntmps37
    go_wp2
    go_ret
    exact ⟨by rw [← HV.out, HW.out]; rfl, rfl⟩
  · by_cases h2 : b < a
    · rw [if_neg h1, if_pos h2] at hv
      have HW := Lib.hid hv
      clear hv
      have d1 : decide (a < b) = false := decide_eq_false h1
      have d2 : decide (b < a) = true := decide_eq_true h2
      go_enter Try.func37, Try.ntmps37
      go_wp2
      go_ret
      exact ⟨by rw [← HV.out, HW.out]; rfl, rfl⟩
    · rw [if_neg h1, if_neg h2] at hv
      have HW := Lib.hid hv
      clear hv
      have d1 : decide (a < b) = false := decide_eq_false h1
      have d2 : decide (b < a) = false := decide_eq_false h2
      go_enter Try.func37, Try.ntmps37
      go_wp2
      go_ret
      exact ⟨by rw [← HV.out, HW.out]; rfl, rfl⟩

/-- What two numbers of one rank are compared by. -/
def cfN (key : Nat → Nat) (i j : Nat) : Int := if cmpI (key i) (key j) = 0 then cmpI i j else cmpI (key i) (key j)
theorem cmpI_zero (a b : Int) : cmpI a b = 0 ↔ a = b := by
  unfold cmpI
  by_cases h1 : a < b
  · rw [if_pos h1]; omega
  · by_cases h2 : b < a
    · rw [if_neg h1, if_pos h2]; omega
    · rw [if_neg h1, if_neg h2]; omega
theorem cmpI_neg (a b : Int) : cmpI a b < 0 ↔ a < b := by
  unfold cmpI
  by_cases h1 : a < b
  · rw [if_pos h1]; omega
  · by_cases h2 : b < a
    · rw [if_neg h1, if_pos h2]; omega
    · rw [if_neg h1, if_neg h2]; omega
theorem cfN_neg (key : Nat → Nat) (i j : Nat) : cfN key i j < 0 ↔ key i < key j ∨ (key i = key j ∧ i < j) := by
  unfold cfN
  by_cases h : cmpI (key i) (key j) = 0
  · rw [if_pos h, cmpI_neg]
    rw [cmpI_zero] at h
    omega
  · rw [if_neg h, cmpI_neg]
    rw [cmpI_zero] at h
    omega

set_option maxHeartbeats 1600000 in
set_option maxRecDepth 100000 in
theorem compare_any (w : World) (rb ob n c t i j : Nat) (R : List Nat) (hr : RBlk w rb ob n c t) (hR : IRow w ob R) (hl : R.length = n) (hi : i < n) (hj : j < n) (ht : t ≤ n) (hn : n ≤ 1000000) :
    Calls Try.prog 30 #[rp rb, .int .i64 i, .int .i64 j] w fun e w' => e = .returned (.int .i64 (cfN (keyAt n t fun k => R.getD k 0) i j)) ∧ w = w' := by
  have HA := Lib.hid (further_any w rb ob n c t i R hr hR hl hi ht hn)
  have HB := Lib.hid (further_any w rb ob n c t j R hr hR hl hj ht hn)
  generalize keyAt n t (fun k => R.getD k 0) = key at *
  have HC := Lib.hid fun w1 : World => cmpint_any w1 (key i) (key j)
  have HD := Lib.hid fun w1 : World => cmpint_any w1 (i : Nat) (j : Nat)
  obtain ⟨v, hv⟩ : ∃ v, v = cfN key i j := ⟨_, rfl⟩
  rw [← hv]
  unfold cfN at hv
  generalize cmpI (key i) (key j) = a at *
  generalize cmpI (i : Nat) (j : Nat) = b at *
  generalize key i = ki at *
  generalize key j = kj at *
  by_cases h : a = 0
  · rw [if_pos h] at hv
    have HV := Lib.hid hv
    have d1 : (a == 0) = true := by rw [h]; rfl
    have d2 : (a != 0) = false := by rw [h]; rfl
    clear hv h
    go_enter Try.func30, Try.ntmps30
    go_wp2_with fail
    refine HA.out.mono ?_
    rintro e w1 ⟨rfl, rfl⟩
    go_wp2_with fail
    refine HB.out.mono ?_
    rintro e w1 ⟨rfl, rfl⟩
    go_wp2_with fail
    refine (HC.out _).mono ?_
    rintro e w1 ⟨rfl, rfl⟩
    go_wp2_with fail
    refine (HD.out _).mono ?_
    rintro e w1 ⟨rfl, rfl⟩
    go_wp2_with fail
    go_ret
    exact ⟨by rw [HV.out]; rfl, rfl⟩
  · rw [if_neg h] at hv
    have HV := Lib.hid hv
    have d1 : (a == 0) = false := by simpa using h
    have d2 : (a != 0) = true := by simpa using h
    clear hv h
    go_enter Try.func30, Try.ntmps30
    go_wp2_with fail
    refine HA.out.mono ?_
    rintro e w1 ⟨rfl, rfl⟩
    go_wp2_with fail
    refine HB.out.mono ?_
    rintro e w1 ⟨rfl, rfl⟩
    go_wp2_with fail
    refine (HC.out _).mono ?_
    rintro e w1 ⟨rfl, rfl⟩
    go_wp2_with fail
    go_ret
    exact ⟨by rw [HV.out]; rfl, rfl⟩

end Go.Proofs.Ytglcideecelemaa
