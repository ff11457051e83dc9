/- The sort, by a method value: a range turned round; a pivot chosen, whichever it is. -/
import Derived.Test.YtglcideecelemaaPe
namespace Go.Proofs.Ytglcideecelemaa
open Go.RowKit

set_option maxHeartbeats 2000000 in
set_option maxRecDepth 100000 in
theorem reverse_any (k : Nat) (fv : Value) (blk off cap a b : Nat) (d0 d : Array (Fin (k + 1))) (w0 w : World)
    (R : Row1 encF w0 blk off d0) (hs : d0.size = d.size) (S : SW encF w0 blk off d w) (hab : a < b) (hb : b ≤ d.size) (hsz : d.size ≤ 1000000000) :
    Calls Try.prog 43 #[.slice (some ⟨blk, off, none⟩) d.size cap, .int .i64 a, .int .i64 b, fv] w fun e w' => e = .returned (.tuple #[]) ∧ SW encF w0 blk off (Go.Sort.reverseRange d a b) w' := by
  have HR := Lib.hid R
  have HS := Lib.hid S
  clear R S
  go_enter Try.func43, Try.ntmps43
  go_wp2_with fail
  go_loopw [8, 9] (fun x y wr => ∃ (i j : Nat) (dk : Array (Fin (k + 1))), x = .int .i64 i ∧ y = .int .i64 j ∧ j < b ∧ i ≤ b ∧ dk.size = d.size ∧ SW encF w0 blk off dk wr ∧ Go.Sort.reverseLoop i j dk = Go.Sort.reverseLoop a (b - 1) d) (fun x y _ => (intOf y - intOf x).toNat)
  case atStart => exact ⟨a, b - 1, d, rfl, by go_num, by omega, by omega, rfl, HS.out, rfl⟩
  case round =>
    obtain ⟨i, j, dk, rfl, rfl, hj, hi, hsk, S1, HE0⟩ := hrel
    have HE := Lib.hid HE0
    clear HE0
    have hk0 : dk.size = d0.size := by omega
    by_cases hlt : i < j
    · have d1 : decide ((i : Int) < (j : Int)) = true := decide_eq_true (by omega)
      have hmi : i < dk.size := by omega
      have hmj : j < dk.size := by omega
      have hni : i < d.size := by omega
      obtain ⟨x1, vx1⟩ : ∃ x, x = dk[i]! := ⟨_, rfl⟩
      obtain ⟨x2, vx2⟩ : ∃ x, x = dk[j]! := ⟨_, rfl⟩
      have g1 := sw_cell S1 HR.out hk0 i hmi
      have g2 := sw_cell S1 HR.out hk0 j hmj
      have f1 := sw_frozen S1 HR.out hk0 i hmi
      have f2 := sw_frozen S1 HR.out hk0 j hmj
      obtain ⟨u, g3⟩ := sw_then S1 HR.out hk0 i j hmi hmj x2.val
      have HS3 := Lib.hid (sw_swap S1 HR.out i j hmi hmj)
      rw [← vx1] at g1
      rw [← vx2] at g2
      rw [← vx1, ← vx2] at HS3
      have HG : Hid (Go.Sort.reverseLoop (i + 1) (j - 1) (Go.Sort.swp dk i j) = Go.Sort.reverseLoop a (b - 1) d) := by
        show _ = _
        rw [← HE.out]
        conv => rhs; rw [Go.Sort.reverseLoop, if_pos hlt]
      clear S1 vx1 vx2
      go_wp2_with fail
      go_region
      go_wp2_with fail
      go_roundw
      case rel => exact ⟨i + 1, j - 1, Go.Sort.swp dk i j, by go_num, by go_num, by omega, by omega, by rw [Go.Sort.size_swp]; exact hsk, HS3.out, HG.out⟩
      case measure => (simp [intOf] <;> omega)
    · have d1 : decide ((i : Int) < (j : Int)) = false := decide_eq_false (by omega)
      have HX : Hid (Go.Sort.reverseRange d a b = dk) := by
        show _ = _
        unfold Go.Sort.reverseRange
        rw [← HE.out, Go.Sort.reverseLoop, if_neg hlt]
      have HS1 := Lib.hid S1
      clear S1
      go_wp2_with fail
      go_end0
      exact ⟨rfl, by rw [HX.out]; exact HS1.out⟩

section
variable {k : Nat} {r : Value} {cf : Fin (k + 1) → Fin (k + 1) → Int} {blk off cap : Nat} {d0 d : Array (Fin (k + 1))} {w0 w : World}

/-- Two places, in an order. -/
def Ord2Post (w0 : World) (blk off : Nat) (d : Array (Fin (k + 1))) (a b c s : Nat) (e : Ending) (w' : World) : Prop :=
  ∃ x y s' : Nat, e = .returned (.tuple #[.int .i64 x, .int .i64 y]) ∧ ((x = a ∧ y = b) ∨ (x = b ∧ y = a)) ∧ s' ≤ s + 1 ∧ Cnt1 encF w0 blk off d c s' w'

set_option maxHeartbeats 2000000 in
set_option maxRecDepth 100000 in
theorem order2_any (C : CmpMv r cf blk off d0.size w0) (R : Row1 encF w0 blk off d0) (hs : d0.size = d.size) (a b c s : Nat) (T : Cnt1 encF w0 blk off d c s w) (ha : a < d.size) (hb : b < d.size) (_ : d.size ≤ 1000000000) (hs9 : s ≤ 1000) :
    Calls Try.prog 55 #[.slice (some ⟨blk, off, none⟩) d.size cap, .int .i64 a, .int .i64 b, .pointer (some ⟨c, 0, none⟩), .func (.func 30) #[r] #[]] w (Ord2Post w0 blk off d a b c s) := by
  have hk0 : d.size = d0.size := by omega
  obtain ⟨x1, vx1⟩ : ∃ x, x = d[b]! := ⟨_, rfl⟩
  obtain ⟨x2, vx2⟩ : ∃ x, x = d[a]! := ⟨_, rfl⟩
  have g1 := sw_cell T.1 R hk0 b hb
  have g2 := sw_cell T.1 R hk0 a ha
  rw [← vx1] at g1
  rw [← vx2] at g2
  have HCC := Lib.hid fun m => cmp_at C T.1 hk0 x1 x2 m
  have HT := Lib.hid T
  clear C R T vx1 vx2 hk0 hs
  cases hl : ltOf cf x1 x2 with
  | true =>
    have d1 := lt_true hl
    clear hl
    generalize cf x1 x2 = v at *
    go_enter Try.func55, Try.ntmps55
    go_wp2_with fail
    go_quiet ((go_at_call 30; exact Calls.quiet_of (HCC.out _)))
    have T2 := HT.out.grown nq #[]
    rw [Go.Sort.grow_empty] at T2
    have c1 := T2.2.1
    have f1 := T2.2.2.1
    obtain ⟨sn, hsn⟩ : ∃ x, x = s + 1 := ⟨_, rfl⟩
    have z1 : (s : Int) + 1 = (sn : Int) := by omega
    have hsn2 : sn ≤ s + 1 := by omega
    have HB := Lib.hid (T2.bump sn)
    clear T2 g1 g2 hsn
    generalize w.drewN nq = w2 at *
    go_wp2_with fail
    go_ret2
    exact ⟨b, a, sn, rfl, .inr ⟨rfl, rfl⟩, hsn2, HB.out⟩
  | false =>
    have d1 := lt_false hl
    clear hl
    generalize cf x1 x2 = v at *
    go_enter Try.func55, Try.ntmps55
    go_wp2_with fail
    go_quiet ((go_at_call 30; exact Calls.quiet_of (HCC.out _)))
    have T2 := HT.out.grown nq #[]
    rw [Go.Sort.grow_empty] at T2
    have HB := Lib.hid T2
    clear T2 g1 g2
    generalize w.drewN nq = w2 at *
    go_wp2_with fail
    go_ret2
    exact ⟨a, b, s, rfl, .inl ⟨rfl, rfl⟩, by omega, HB.out⟩

def MedPost (w0 : World) (blk off : Nat) (d : Array (Fin (k + 1))) (a b c p s : Nat) (e : Ending) (w' : World) : Prop :=
  ∃ m s' : Nat, e = .returned (.int .i64 m) ∧ (m = a ∨ m = b ∨ m = c) ∧ s' ≤ s + 3 ∧ Cnt1 encF w0 blk off d p s' w'

set_option maxHeartbeats 2000000 in
theorem median_any (C : CmpMv r cf blk off d0.size w0) (R : Row1 encF w0 blk off d0) (hs : d0.size = d.size) (a b c p s : Nat) (T : Cnt1 encF w0 blk off d p s w) (ha : a < d.size) (hb : b < d.size) (hc : c < d.size) (hsz : d.size ≤ 1000000000) (hs9 : s ≤ 900) :
    Calls Try.prog 54 #[.slice (some ⟨blk, off, none⟩) d.size cap, .int .i64 a, .int .i64 b, .int .i64 c, .pointer (some ⟨p, 0, none⟩), .func (.func 30) #[r] #[]] w (MedPost w0 blk off d a b c p s) := by
  have HO := Lib.hid fun (a b s : Nat) (w1 : World) (T : Cnt1 encF w0 blk off d p s w1) (ha : a < d.size) (hb : b < d.size) (hs9 : s ≤ 1000) => order2_any (cap := cap) C R hs a b p s T ha hb hsz hs9
  have HT := Lib.hid T
  clear C R T
  go_enter Try.func54, Try.ntmps54
  go_wp2_with fail
  refine (HO.out a b s w HT.out ha hb (by omega)).mono ?_
  rintro e w1 ⟨x, y, s1, rfl, h1, hs1, T1⟩
  have HT1 := Lib.hid T1
  clear T1
  have hx : x < d.size := by omega
  have hy : y < d.size := by omega
  go_wp2_with fail
  refine (HO.out y c s1 w1 HT1.out hy hc (by omega)).mono ?_
  rintro e w2 ⟨x2, y2, s2, rfl, h2, hs2, T2⟩
  have HT2 := Lib.hid T2
  clear T2
  have hx2 : x2 < d.size := by omega
  go_wp2_with fail
  refine (HO.out x x2 s2 w2 HT2.out hx hx2 (by omega)).mono ?_
  rintro e w3 ⟨x3, y3, s3, rfl, h3, hs3, T3⟩
  have HT3 := Lib.hid T3
  clear T3
  go_wp2_with fail
  go_ret
  exact ⟨y3, s3, rfl, by omega, by omega, HT3.out⟩

set_option maxHeartbeats 2000000 in
theorem adjacent_any (C : CmpMv r cf blk off d0.size w0) (R : Row1 encF w0 blk off d0) (hs : d0.size = d.size) (a p s : Nat) (T : Cnt1 encF w0 blk off d p s w) (h1 : 1 ≤ a) (ha : a + 1 < d.size) (hsz : d.size ≤ 1000000000) (hs9 : s ≤ 900) :
    Calls Try.prog 53 #[.slice (some ⟨blk, off, none⟩) d.size cap, .int .i64 a, .pointer (some ⟨p, 0, none⟩), .func (.func 30) #[r] #[]] w (MedPost w0 blk off d (a - 1) a (a + 1) p s) := by
  have HO := Lib.hid (median_any (cap := cap) C R hs (a - 1) a (a + 1) p s T (by omega) (by omega) ha hsz hs9)
  have z1 : (a : Int) - 1 = ((a - 1 : Nat) : Int) := by omega
  have z2 : (a : Int) + 1 = ((a + 1 : Nat) : Int) := by omega
  obtain ⟨al, hal⟩ : ∃ x, x = a - 1 := ⟨_, rfl⟩
  obtain ⟨ar, har⟩ : ∃ x, x = a + 1 := ⟨_, rfl⟩
  rw [← hal] at z1 HO ⊢
  rw [← har] at z2 HO ⊢
  have q1 : al ≤ a := by omega
  have q2 : ar < d.size := by omega
  clear C R T hal har
  go_enter Try.func53, Try.ntmps53
  go_wp2_with fail
  refine HO.out.mono ?_
  rintro e w1 ⟨m, s1, rfl, h1, hs1, T1⟩
  have HT1 := Lib.hid T1
  clear T1
  go_wp2_with fail
  go_ret
  exact ⟨m, s1, rfl, h1, hs1, HT1.out⟩
end

end Go.Proofs.Ytglcideecelemaa
