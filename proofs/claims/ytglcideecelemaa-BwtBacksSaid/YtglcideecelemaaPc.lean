/- The sort, by a method value, of at most 12 numbers: it does what is asked of it. -/
import Derived.Test.YtglcideecelemaaPa
import Derived.Test.YtglcideecelemaaPx
namespace Go.Proofs.Ytglcideecelemaa
open Go.RowKit

theorem bitslen_any (n : Nat) (w : World) (h : n ≤ 1000000000) : Calls Try.prog 36 #[.int .u64 n] w fun e w' => e = .returned (.int .i64 (Lib.bitLen n : Nat)) ∧ w = w' := by
  have h1 := Any.bits_Len Try.laysBits (n : Int) w (by omega) (by omega)
  rw [Int.toNat_natCast] at h1
  exact Calls.mono h1 fun e w' hh => ⟨hh.1, hh.2.symm⟩

set_option maxHeartbeats 2000000 in
set_option maxRecDepth 100000 in
theorem pdq_small (k : Nat) (r : Value) (cf : Fin (k + 1) → Fin (k + 1) → Int) (blk off cap a b : Nat) (lim : Int) (d0 d : Array (Fin (k + 1))) (w0 w : World)
    (C : CmpMv r cf blk off d0.size w0) (R : Row1 encF w0 blk off d0) (hs : d0.size = d.size) (S : SW encF w0 blk off d w) (hab : a ≤ b) (hb : b ≤ d.size) (hsz : d.size ≤ 1000000000) (h12 : b - a ≤ 12) :
    Calls Try.prog 35 #[.slice (some ⟨blk, off, none⟩) d.size cap, .int .i64 a, .int .i64 b, .int .i64 lim, .func (.func 30) #[r] #[]] w fun e w' => e = .returned (.tuple #[]) ∧ SW encF w0 blk off (Go.Sort.insertionSort (ltOf cf) d a b) w' := by
  have HI := Lib.hid (insertion_any k r cf blk off cap a b d0 d w0 w C R hs S hab hb hsz)
  have d1 : decide ((b : Int) - (a : Int) ≤ 12) = true := decide_eq_true (by omega)
  clear C R S
  go_enter Try.func35, Try.ntmps35
  go_wp2_with fail
  refine wp_loop_rounds 1 ?_
  rw [rounds_succ]
  go_wp2_with fail
  refine HI.out.mono ?_
  rintro e w1 ⟨rfl, S1⟩
  have HS := Lib.hid S1
  clear S1
  go_wp2_with fail
  (try simp only [Exit.inBlock, Exit.then])
  refine bodyPost_ret (results_none rfl _ _ _) rfl ?_
  exact ⟨rfl, HS.out⟩

set_option maxHeartbeats 2000000 in
set_option maxRecDepth 100000 in
theorem sortfunc_small (k : Nat) (r : Value) (cf : Fin (k + 1) → Fin (k + 1) → Int) (blk off cap : Nat) (d : Array (Fin (k + 1))) (w : World)
    (C : CmpMv r cf blk off d.size w) (R : Row1 encF w blk off d) (h12 : d.size ≤ 12) :
    Calls Try.prog 29 #[.slice (some ⟨blk, off, none⟩) d.size cap, .func (.func 30) #[r] #[]] w fun e w' => e = .returned (.tuple #[]) ∧ SW encF w blk off (Go.Sort.insertionSort (ltOf cf) d 0 d.size) w' := by
  have HL := Lib.hid fun w1 : World => bitslen_any d.size w1 (by omega)
  have HP := Lib.hid fun lim : Int => pdq_small k r cf blk off cap 0 d.size lim d d w w C R rfl (SW.start R.hH) (Nat.zero_le _) (Nat.le_refl _) (by omega) (by omega)
  have wr : IntKind.u64.wrap (d.size : Int) = d.size := by simp [IntKind.wrap, IntKind.bits, IntKind.signed]; omega
  clear C R
  go_enter Try.func29, Try.ntmps29
  go_wp2_with fail
  refine (HL.out _).mono ?_
  rintro e w1 ⟨rfl, rfl⟩
  go_wp2_with fail
  refine (HP.out _).mono ?_
  rintro e w1 ⟨rfl, S1⟩
  have HS := Lib.hid S1
  clear S1
  go_wp2_with fail
  go_end0
  exact ⟨rfl, HS.out⟩

theorem sort_twelve : SortOk 12 := by
  intro k r cf blk off cap d w hO C hH hblk _ h12
  refine (sortfunc_small k r cf blk off cap d w C ⟨fun _ => rfl, hH, hblk⟩ h12).mono ?_
  rintro e w' ⟨rfl, S⟩
  have h := Go.Sort.insertionSort_holds (lt := ltOf cf) hO d 0 d.size (Nat.zero_le _) (Nat.le_refl _)
  exact ⟨rfl, _, h.1, h.2, S⟩
theorem SortOk.less {N M : Nat} (h : SortOk N) (hM : M ≤ N) : SortOk M := fun k r cf blk off cap d w hO C hH hb h0 hd => h k r cf blk off cap d w hO C hH hb h0 (Nat.le_trans hd hM)

end Go.Proofs.Ytglcideecelemaa
