/- inUse: which rows have a byte. No conditions. -/
import Derived.Test.YtcmhcfbmjceioaaVd
namespace Go.Proofs.Ytcmhcfbmjceioaa
open Go.RowKit

/-- What inUse answers. -/
def UsePost (w : World) (f : Nat → Nat) (e : Ending) (w' : World) : Prop := ∃ u : Nat, UseN f 16 u ∧ e = .returned (.int .u64 u) ∧ Below w.heap.size w w'

set_option maxHeartbeats 1600000 in
set_option maxRecDepth 100000 in
theorem inuse_any (w : World) (f : Nat → Nat) (hf : ∀ i, i < 16 → f i < 65536) : Calls Try.prog 33 #[.agg (arrG f)] w (UsePost w f) := by
  obtain ⟨i50, hi50, hz50⟩ := info_u64
  have HP : Hid (∀ (u : Nat) (w' : World), UseN f 16 u → Below w.heap.size w w' → UsePost w f (.returned (.int .u64 u)) w') := Lib.hid fun u w' h1 h2 => ⟨u, h1, rfl, h2⟩
  have HBIT := Lib.hid bit_any
  have HF := Lib.hid hf
  have HG := Lib.hid (arrG_get f)
  have hsz := arrG_size f
  have hone := arrG_one f
  generalize UsePost w f = PO at *
  generalize arrG f = T at *
  clear hf
  go_enter Try.func33, Try.ntmps33
  go_wp2_with fail
  go_loopw [3, 5] (fun v i wx => ∃ (q u : Nat), q ≤ 16 ∧ i = .int .i64 q ∧ v = .int .u64 u ∧ Hid (UseN f q u) ∧ Blk wx w.heap.size 52 T ∧ Below w.heap.size w wx) (fun _ i _ => 16 - (intOf i).toNat)
  case atStart => exact ⟨0, 0, Nat.zero_le _, rfl, rfl, use_zero f, arr_one _ _ _, (Below.refl _ w).alloc (Nat.le_refl _) _⟩
  case round =>
    obtain ⟨q, u, hq, rfl, rfl, hu, hb0, hb⟩ := hrel
    have H0 := Lib.hid hb0
    have HB := Lib.hid hb
    have hz9 := hb.size
    by_cases e : q < 16
    · have hqI : (0 : Int) ≤ (q : Int) := by omega
      have hqJ : (q : Int) < 16 := by omega
      have hc := blk_cell hb0 q
      rw [HG.out q e] at hc
      obtain ⟨c, hcc⟩ : ∃ c, c = f q := ⟨_, rfl⟩
      rw [← hcc] at hc
      have HCC := Lib.hid hcc
      clear hb0 hb hcc
      by_cases hc0 : c = 0
      · subst hc0
        have hu2 := use_no hu.out (show f q = 0 from HCC.out.symm)
        have HU := Lib.hid hu2
        clear hu2
        go_wp2_with fail
        go_roundw
        case rel => exact ⟨q + 1, u, by omega, by go_num, rfl, HU, H0.out, HB.out⟩
        case measure => simp [intOf]; omega
      · have hne := neq_zero hc0
        have hu2 := use_yes hu.out e (show f q ≠ 0 by rw [← HCC.out]; exact hc0)
        have hu6 := hu.out.1
        have hp6 : 2 ^ (15 - q) < 65536 := Nat.pow_lt_pow_right (by decide) (show 15 - q < 16 by omega)
        have hor := u64_or_nat u (2 ^ (15 - q)) (by omega) (by omega)
        obtain ⟨y, hy⟩ : ∃ y, y = u ||| 2 ^ (15 - q) := ⟨_, rfl⟩
        rw [← hy] at hor hu2
        have hbit := fun w1 : World => HBIT.out w1 q e
        obtain ⟨x, hx⟩ : ∃ x, x = 2 ^ (15 - q) := ⟨_, rfl⟩
        rw [← hx] at hor
        replace hbit : ∀ w1 : World, Calls Try.prog 40 #[.int .i64 q] w1 fun e w' => e = .returned (.int .u64 (x : Int)) ∧ w1 = w' := by
          intro w1
          rw [hx]
          exact hbit w1
        have HBIT2 := Lib.hid hbit
        have HU := Lib.hid hu2
        clear hu2 hbit hy hx hp6
        go_wp2_with (first | (go_at_call 40; refine (HBIT2.out _).mono ?_; rintro e w' ⟨rfl, rfl⟩))
        go_roundw
        case rel => exact ⟨q + 1, y, by omega, by go_num, rfl, HU, H0.out, HB.out⟩
        case measure => simp [intOf]; omega
    · obtain rfl : q = 16 := by omega
      have HB1 := Lib.hid hb
      clear hb hb0 H0 HB
      go_wp2_with fail
      exact HP.out u _ hu.out HB1.out

end Go.Proofs.Ytcmhcfbmjceioaa
