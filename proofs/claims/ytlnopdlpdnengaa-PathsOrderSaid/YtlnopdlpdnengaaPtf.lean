/- What is asked of paths' functions (PathsDone); the answers that the document fixes; Cleans, Parts, Cmps, Splits walked. Written ahead of stage 14. -/
import Derived.Test.YtlnopdlpdnengaaPte
namespace Go.Proofs.Ytlnopdlpdnengaa
open Go.RowKit

/-- What is asked of the code's functions. -/
structure PathsDone : Prop where
  clean : ∀ (w : World) (s : ByteArray), s.size ≤ 3000 → Calls Try.prog 10 #[.string s] w fun e w' => e = .returned (.tuple #[.string (strP (cleanL s.data.toList).1), .int .i64 (cleanL s.data.toList).2]) ∧ Below w.heap.size w w'
  check : ∀ (w : World) (s : ByteArray), s.size ≤ 3000 → Calls Try.prog 12 #[.string s] w fun e w' => e = .returned (.int .i64 (checkL s.data.toList)) ∧ Below w.heap.size w w'
  parts : ∀ (w : World) (s : ByteArray), s.size ≤ 3000 → Calls Try.prog 15 #[.string s] w (TextsPost w (partsL s.data.toList))
  cmp : ∀ (w : World) (a b : ByteArray), a.size ≤ 3000 → b.size ≤ 3000 → Calls Try.prog 17 #[.string a, .string b] w fun e w' => e = .returned (.int .i64 (cmpL a.data.toList b.data.toList)) ∧ Below w.heap.size w w'
  split : ∀ (w : World) (p : ByteArray), p.size ≤ 140737488355328 → Calls Try.prog 19 #[.string p] w fun e w' => e = .returned (.tuple #[.string (strP (splitL p.data.toList).1), .string (strP (splitL p.data.toList).2.1), .bool (splitL p.data.toList).2.2]) ∧ Below w.heap.size w w'
  under : ∀ (w : World) (d p : ByteArray), d.size ≤ 140737488355328 → p.size ≤ 140737488355328 → Calls Try.prog 21 #[.string d, .string p] w fun e w' => e = .returned (.bool (underL d.data.toList p.data.toList)) ∧ Below w.heap.size w w'

theorem clean_a : cleanL (⟨#[47, 97, 47, 47, 98, 47, 46, 47, 99, 47]⟩ : ByteArray).data.toList = ([97, 47, 98, 47, 99], 0) := by decide +kernel
theorem clean_b : cleanL (⟨#[97, 47, 46, 46, 47, 98]⟩ : ByteArray).data.toList = ([], 140) := by decide +kernel
theorem cmp_a : cmpL (⟨#[97, 47, 98]⟩ : ByteArray).data.toList (⟨#[97, 46, 98]⟩ : ByteArray).data.toList = -1 := by decide +kernel
theorem under_a : underL (⟨#[97]⟩ : ByteArray).data.toList (⟨#[97, 47, 98]⟩ : ByteArray).data.toList = true := by decide +kernel
set_option maxHeartbeats 1600000 in
set_option maxRecDepth 100000 in
theorem ltexts_any (w : World) (A B : Option Addr) (n c m d : Nat) (L : List (List UInt8)) (h : SLn w A n L) (h' : SLn w B m L) (hn : n ≤ 1000001) : Calls Try.prog 14 #[.slice A n c, .slice B m d] w fun e w' => e = .returned (.bool true) ∧ Below w.heap.size w w' := by
  have hnm : m = n := by rw [← h.1, ← h'.1]
  subst hnm
  have H := Lib.hid h
  have H' := Lib.hid h'
  have d0 : ((m : Int) != (m : Int)) = false := bne_self_eq_false _
  clear h h'
  go_enter Try.func14, Try.ntmps14
  go_wp2_with fail
  go_loopw [5] (fun si wx => ∃ q : Nat, si = .int .i64 q ∧ q ≤ m ∧ ∃ j, wx = w.drewN j) (fun si _ => m - (intOf si).toNat)
  case atStart => exact ⟨0, rfl, Nat.zero_le _, 0, rfl⟩
  case round =>
    obtain ⟨q, rfl, hq, j, rfl⟩ := hrel
    have HB := Lib.hid (below_drewN (Below.refl w.heap.size w) j)
    by_cases e : q < m
    · have dq : decide ((q : Int) < (m : Int)) = true := decide_eq_true (by omega)
      obtain ⟨b1, o1, rfl, hc1⟩ := (H.out.drewN j).2 (by omega)
      obtain ⟨b2, o2, rfl, hc2⟩ := (H'.out.drewN j).2 (by omega)
      have c1 := hc1 q e
      have c2 := hc2 q e
      unfold sv at c1 c2
      generalize strP (L.getD q []) = s at *
      generalize hwj : w.drewN j = w4 at *
      have HWJ := Lib.hid hwj
      clear hc1 hc2 hwj
      go_wp2_with fail
      go_region
      go_wp2_with fail
      go_roundw
      case rel => exact ⟨q + 1, by go_num, by omega, j + 1, by rw [← HWJ.out]; rfl⟩
      case measure => simp [intOf]; omega
    · obtain rfl : q = m := by omega
      have dq : decide ((q : Int) < (q : Int)) = false := decide_eq_false (by omega)
      go_wp2_with fail
      go_ret
      exact ⟨rfl, HB.out⟩

section
variable (R : PathsDone)
include R
set_option maxHeartbeats 3200000 in
set_option maxRecDepth 100000 in
theorem awake_paths (w : World) : Calls Try.prog 9 #[] w fun e w' => e = .returned (.bool true) ∧ Below w.heap.size w w' := by
  have C1 : Hid (∀ wx : World, Calls Try.prog 10 #[.string ⟨#[47, 97, 47, 47, 98, 47, 46, 47, 99, 47]⟩] wx fun e w' => e = .returned (.tuple #[.string ⟨#[97, 47, 98, 47, 99]⟩, .int .i64 0]) ∧ Below wx.heap.size wx w') := Lib.hid fun wx => by
    have h := R.clean wx ⟨#[47, 97, 47, 47, 98, 47, 46, 47, 99, 47]⟩ (by decide)
    rw [clean_a] at h
    exact h
  have C2 : Hid (∀ wx : World, Calls Try.prog 10 #[.string ⟨#[97, 47, 46, 46, 47, 98]⟩] wx fun e w' => e = .returned (.tuple #[.string ⟨#[]⟩, .int .i64 140]) ∧ Below wx.heap.size wx w') := Lib.hid fun wx => by
    have h := R.clean wx ⟨#[97, 47, 46, 46, 47, 98]⟩ (by decide)
    rw [clean_b] at h
    exact h
  have C3 : Hid (∀ wx : World, Calls Try.prog 17 #[.string ⟨#[97, 47, 98]⟩, .string ⟨#[97, 46, 98]⟩] wx fun e w' => e = .returned (.int .i64 (-1)) ∧ Below wx.heap.size wx w') := Lib.hid fun wx => by
    have h := R.cmp wx ⟨#[97, 47, 98]⟩ ⟨#[97, 46, 98]⟩ (by decide) (by decide)
    rw [cmp_a] at h
    exact h
  have C4 : Hid (∀ wx : World, Calls Try.prog 21 #[.string ⟨#[97]⟩, .string ⟨#[97, 47, 98]⟩] wx fun e w' => e = .returned (.bool true) ∧ Below wx.heap.size wx w') := Lib.hid fun wx => by
    have h := R.under wx ⟨#[97]⟩ ⟨#[97, 47, 98]⟩ (by decide) (by decide)
    rw [under_a] at h
    exact h
  clear R
  go_enter Try.func9, Try.ntmps9
  go_wp2_with fail
  refine (C1.out w).mono ?_
  rintro e w1 ⟨rfl, hb1⟩
  have HB1 := Lib.hid hb1
  clear hb1
  go_wp2_with fail
  refine (C2.out w1).mono ?_
  rintro e w2 ⟨rfl, hb2⟩
  have HB2 := Lib.hid (HB1.out.trans (hb2.mono HB1.out.size))
  clear hb2
  go_wp2_with fail
  refine (C3.out w2).mono ?_
  rintro e w3 ⟨rfl, hb3⟩
  have HB3 := Lib.hid (HB2.out.trans (hb3.mono HB2.out.size))
  clear hb3
  go_wp2_with fail
  refine (C4.out w3).mono ?_
  rintro e w4 ⟨rfl, hb4⟩
  have HB4 := Lib.hid (HB3.out.trans (hb4.mono HB3.out.size))
  clear hb4
  go_wp2_with fail
  go_ret
  exact ⟨rfl, HB4.out⟩

set_option maxHeartbeats 3200000 in
set_option maxRecDepth 100000 in
theorem cleans_law (w : World) (s : ByteArray) (hs : s.size ≤ 9223372036854775807) : Calls Try.prog 3 #[.string s] w fun e w' => e = .returned (.bool true) ∧ Below w.heap.size w w' := by
  have HAW := Lib.hid (awake_paths R)
  by_cases hbig : 3000 < s.size
  · have d0 : decide ((3000 : Int) < (s.size : Int)) = true := decide_eq_true (by omega)
    clear R
    go_enter Try.func3, Try.ntmps3
    go_wp2_with fail
    refine (HAW.out _).mono ?_
    rintro e w7 ⟨rfl, hb7⟩
    have HB7 := Lib.hid hb7
    clear hb7
    go_wp2_with fail
    go_ret
    exact ⟨rfl, HB7.out⟩
  have d0 : decide ((3000 : Int) < (s.size : Int)) = false := decide_eq_false (by omega)
  have HC := Lib.hid (R.clean w s (by omega))
  have HRC := Lib.hid fun wx => rclean_any wx s (by omega)
  have HK := Lib.hid fun wx => R.check wx s (by omega)
  have HRK := Lib.hid fun wx => rcheck_any wx s (by omega)
  generalize checkL s.data.toList = ck at *
  generalize cleanL s.data.toList = ans at *
  obtain ⟨X, k⟩ := ans
  dsimp only at HC HRC
  generalize strP X = T at *
  have e2 : ((k : Int) == (k : Int)) = true := beq_self_eq_true _
  have e3 : ((ck : Int) == (ck : Int)) = true := beq_self_eq_true _
  clear R
  go_enter Try.func3, Try.ntmps3
  go_wp2_with fail
  refine HC.out.mono ?_
  rintro e w1 ⟨rfl, hb1⟩
  have HB1 := Lib.hid hb1
  clear hb1
  go_wp2_with fail
  refine (HRC.out w1).mono ?_
  rintro e w2 ⟨rfl, hb2⟩
  have HB2 := Lib.hid (HB1.out.trans (hb2.mono HB1.out.size))
  clear hb2
  go_wp2_with fail
  refine (HK.out w2).mono ?_
  rintro e w3 ⟨rfl, hb3⟩
  have HB3 := Lib.hid (HB2.out.trans (hb3.mono HB2.out.size))
  clear hb3
  go_wp2_with fail
  refine (HRK.out w3).mono ?_
  rintro e w4 ⟨rfl, hb4⟩
  have HB4 := Lib.hid (HB3.out.trans (hb4.mono HB3.out.size))
  clear hb4
  go_wp2_with fail
  refine (HAW.out _).mono ?_
  rintro e w5 ⟨rfl, hb5⟩
  have HB5 := Lib.hid (HB4.out.trans (hb5.mono HB4.out.size))
  clear hb5
  go_wp2_with fail
  go_ret
  exact ⟨rfl, HB5.out⟩
set_option maxHeartbeats 3200000 in
set_option maxRecDepth 100000 in
theorem parts_law (w : World) (s : ByteArray) (hs : s.size ≤ 9223372036854775807) : Calls Try.prog 4 #[.string s] w fun e w' => e = .returned (.bool true) ∧ Below w.heap.size w w' := by
  have HAW := Lib.hid (awake_paths R)
  by_cases hbig : 3000 < s.size
  · have d0 : decide ((3000 : Int) < (s.size : Int)) = true := decide_eq_true (by omega)
    clear R
    go_enter Try.func4, Try.ntmps4
    go_wp2_with fail
    refine (HAW.out _).mono ?_
    rintro e w7 ⟨rfl, hb7⟩
    have HB7 := Lib.hid hb7
    clear hb7
    go_wp2_with fail
    go_ret
    exact ⟨rfl, HB7.out⟩
  have d0 : decide ((3000 : Int) < (s.size : Int)) = false := decide_eq_false (by omega)
  have HC := Lib.hid (R.parts w s (by omega))
  have HRC := Lib.hid fun wx => rparts_any wx s (by omega)
  have hlen := partsF_len s.data.toList []
  have hll : s.data.toList.length = s.size := rfl
  have hlen2 : (partsL s.data.toList).length ≤ 3001 := by unfold partsL; omega
  generalize partsL s.data.toList = L at *
  clear R hlen hll
  go_enter Try.func4, Try.ntmps4
  go_wp2_with fail
  refine HC.out.mono ?_
  rintro e w1 ⟨A1, n1, c1, rfl, hnc1, hcm1, hs1, hb1⟩
  have HB1 := Lib.hid hb1
  have HS1 := Lib.hid hs1
  clear hb1 hs1
  go_wp2_with fail
  refine (HRC.out w1).mono ?_
  rintro e w2 ⟨A2, n2, c2, rfl, hnc2, hcm2, hs2, hb2⟩
  have HB2 := Lib.hid (HB1.out.trans (hb2.mono HB1.out.size))
  have HT := Lib.hid (ltexts_any w2 A1 A2 n1 c1 n2 c2 L (HS1.out.below hb2) hs2 (by rw [← HS1.out.1]; omega))
  clear hb2 hs2
  go_wp2_with fail
  refine HT.out.mono ?_
  rintro e w3 ⟨rfl, hb3⟩
  have HB3 := Lib.hid (HB2.out.trans (hb3.mono HB2.out.size))
  clear hb3
  go_wp2_with fail
  refine (HAW.out _).mono ?_
  rintro e w5 ⟨rfl, hb5⟩
  have HB5 := Lib.hid (HB3.out.trans (hb5.mono HB3.out.size))
  clear hb5
  go_wp2_with fail
  go_ret
  exact ⟨rfl, HB5.out⟩
set_option maxHeartbeats 3200000 in
set_option maxRecDepth 100000 in
theorem cmps_law (w : World) (a b : ByteArray) (ha : a.size ≤ 140737488355328) (hb : b.size ≤ 140737488355328) : Calls Try.prog 5 #[.string a, .string b] w fun e w' => e = .returned (.bool true) ∧ Below w.heap.size w w' := by
  have HAW := Lib.hid (awake_paths R)
  by_cases hbig : 3000 < a.size + b.size
  · have d0 : decide ((3000 : Int) < (a.size : Int) + (b.size : Int)) = true := decide_eq_true (by omega)
    clear R
    go_enter Try.func5, Try.ntmps5
    go_wp2_with fail
    refine (HAW.out _).mono ?_
    rintro e w7 ⟨rfl, hb7⟩
    have HB7 := Lib.hid hb7
    clear hb7
    go_wp2_with fail
    go_ret
    exact ⟨rfl, HB7.out⟩
  have d0 : decide ((3000 : Int) < (a.size : Int) + (b.size : Int)) = false := decide_eq_false (by omega)
  have HC := Lib.hid (R.cmp w a b (by omega) (by omega))
  have HRC := Lib.hid fun wx => rcmpp_any wx a b (by omega) (by omega)
  generalize cmpL a.data.toList b.data.toList = k at *
  have e2 : (k == k) = true := beq_self_eq_true _
  clear R
  go_enter Try.func5, Try.ntmps5
  go_wp2_with fail
  refine HC.out.mono ?_
  rintro e w1 ⟨rfl, hb1⟩
  have HB1 := Lib.hid hb1
  clear hb1
  go_wp2_with fail
  refine (HRC.out w1).mono ?_
  rintro e w2 ⟨rfl, hb2⟩
  have HB2 := Lib.hid (HB1.out.trans (hb2.mono HB1.out.size))
  clear hb2
  go_wp2_with fail
  refine (HAW.out _).mono ?_
  rintro e w5 ⟨rfl, hb5⟩
  have HB5 := Lib.hid (HB2.out.trans (hb5.mono HB2.out.size))
  clear hb5
  go_wp2_with fail
  go_ret
  exact ⟨rfl, HB5.out⟩
set_option maxHeartbeats 3200000 in
set_option maxRecDepth 100000 in
theorem splits_law (w : World) (p d : ByteArray) (hp : p.size ≤ 140737488355328) (hd : d.size ≤ 140737488355328) : Calls Try.prog 6 #[.string p, .string d] w fun e w' => e = .returned (.bool true) ∧ Below w.heap.size w w' := by
  have HAW := Lib.hid (awake_paths R)
  have HC := Lib.hid (R.split w p hp)
  have HRC := Lib.hid fun wx => rsplit_any wx p (by omega)
  have HU := Lib.hid fun wx => R.under wx d p hd hp
  have HRU := Lib.hid fun wx => runder_any wx d p hd (by omega)
  generalize underL d.data.toList p.data.toList = ub at *
  generalize splitL p.data.toList = ans at *
  obtain ⟨X, Y, b⟩ := ans
  dsimp only at HC HRC
  generalize strP X = T at *
  generalize strP Y = U at *
  have e2 : (b == b) = true := beq_self_eq_true _
  have e3 : (ub == ub) = true := beq_self_eq_true _
  clear R
  go_enter Try.func6, Try.ntmps6
  go_wp2_with fail
  refine HC.out.mono ?_
  rintro e w1 ⟨rfl, hb1⟩
  have HB1 := Lib.hid hb1
  clear hb1
  go_wp2_with fail
  refine (HRC.out w1).mono ?_
  rintro e w2 ⟨rfl, hb2⟩
  have HB2 := Lib.hid (HB1.out.trans (hb2.mono HB1.out.size))
  clear hb2
  go_wp2_with fail
  refine (HU.out w2).mono ?_
  rintro e w3 ⟨rfl, hb3⟩
  have HB3 := Lib.hid (HB2.out.trans (hb3.mono HB2.out.size))
  clear hb3
  go_wp2_with fail
  refine (HRU.out w3).mono ?_
  rintro e w4 ⟨rfl, rfl⟩
  go_wp2_with fail
  refine (HAW.out _).mono ?_
  rintro e w5 ⟨rfl, hb5⟩
  have HB5 := Lib.hid (HB3.out.trans (hb5.mono HB3.out.size))
  clear hb5
  go_wp2_with fail
  go_ret
  exact ⟨rfl, HB5.out⟩
end
end Go.Proofs.Ytlnopdlpdnengaa
