/- rising, inUse: what rows say. No conditions. -/
import Derived.Test.YtcmhcfbmjceioaaVc
import Derived.Test.YtcmhcfbmjceioaaWe
import Derived.Test.YtcmhcfbmjceioaaJe
import Derived.Test.YtcmhcfbmjceioaaWp
namespace Go.Proofs.Ytcmhcfbmjceioaa
open Go.RowKit

theorem neq_zero {y : Nat} (h : y ≠ 0) : ((y : Int) == 0) = false := by
  rw [beq_eq_false_iff_ne]
  omega
theorem arr_one (w : World) (a : Array Value) (t : TypeId) : Blk (w.alloc (.cells a t)) w.heap.size t a := blk_new w t a

set_option maxHeartbeats 1600000 in
set_option maxRecDepth 100000 in
theorem rising_any (w : World) (f : Nat → Nat) (hf : ∀ i, i < 16 → f i < 65536) : Calls Try.prog 24 #[.agg (arrG f)] w fun e w' => e = .returned (.string (strB (risingF f))) ∧ Below w.heap.size w w' := by
  obtain ⟨i50, hi50, hz50⟩ := info_u64
  obtain ⟨i5, h5, hz0, hz1, hz2⟩ := info_parts Try.info5
  have HBIT := Lib.hid bit_any
  have HF := Lib.hid hf
  have HG := Lib.hid (arrG_get f)
  have hsz := arrG_size f
  have hone := arrG_one f
  rw [← rise_all]
  have HN := Lib.hid (rise_next f)
  have HLE := Lib.hid (rise_length f)
  have h0 : riseN f 0 = [] := rfl
  have H00 := Lib.hid h0
  generalize arrG f = T at *
  generalize hgr : riseN f = R at *
  clear hgr hf h0
  go_enter Try.func24, Try.ntmps24
  go_wp2_with fail
  go_loopw [3, 5] (fun out i wx => ∃ (q : Nat), q ≤ 256 ∧ i = .int .i64 q ∧ wx.ownsRow w.heap.size 5 1 out (R q).length ((R q).map bv) ∧ Blk wx w.heap.size 52 T ∧ Below w.heap.size w wx) (fun _ i _ => 256 - (intOf i).toNat)
  case atStart =>
    refine ⟨0, Nat.zero_le _, rfl, ?_, arr_one _ _ _, (Below.refl _ w).alloc (Nat.le_refl _) _⟩
    rw [H00.out]
    exact World.ownsRow_nil _ _ _ _
  case round =>
    obtain ⟨q, hq, rfl, hown, hb0, hb⟩ := hrel
    have H0 := Lib.hid hb0
    have HB := Lib.hid hb
    have hz9 := hb.size
    have hle := HLE.out q
    obtain ⟨A0, c0, rfl, hn0, hm0, hA0⟩ := own_slice hown
    clear hA0
    unfold maxLen at hm0
    by_cases e : q < 256
    · obtain ⟨d, hd⟩ : ∃ d, d = q / 16 := ⟨_, rfl⟩
      obtain ⟨m, hm⟩ : ∃ m, m = q % 16 := ⟨_, rfl⟩
      have hd16 : d < 16 := by omega
      have hm16 : m < 16 := by omega
      have hdI : (0 : Int) ≤ (d : Int) := by omega
      have hdJ : (d : Int) < 16 := by omega
      have hwd : IntKind.i64.wrap (d : Int) = (d : Int) := by rw [IntKind.wrap_i64]; omega
      have hdz : (q : Int) / 16 = (d : Int) := by omega
      have hmz : (q : Int) % 16 = (m : Int) := by omega
      have hmt : (q : Int).tmod 16 = (m : Int) := by rw [Int.tmod_eq_emod_of_nonneg (by omega)]; exact hmz
      have hc := blk_cell hb0 d
      rw [HG.out d hd16] at hc
      have hnx := HN.out q
      rw [← hd, ← hm] at hnx
      have hc6 : f d < 65536 := HF.out d hd16
      obtain ⟨c, hcc⟩ : ∃ c, c = f d := ⟨_, rfl⟩
      rw [← hcc] at hc hc6 hnx
      have hp6 : 2 ^ (15 - m) < 65536 := Nat.pow_lt_pow_right (by decide) (show 15 - m < 16 by omega)
      have hand := u64_and_nat c (2 ^ (15 - m)) (by omega) (by omega)
      obtain ⟨y, hy⟩ : ∃ y, y = c &&& 2 ^ (15 - m) := ⟨_, rfl⟩
      have hiff := bit_and_pow c (15 - m)
      rw [← hy] at hand hiff
      have hbit := fun w1 : World => HBIT.out w1 m hm16
      obtain ⟨x, hx⟩ : ∃ x, x = 2 ^ (15 - m) := ⟨_, rfl⟩
      rw [← hx] at hand
      replace hbit : ∀ w1 : World, Calls Try.prog 40 #[.int .i64 m] w1 fun e w' => e = .returned (.int .u64 (x : Int)) ∧ w1 = w' := by
        intro w1
        rw [hx]
        exact hbit w1
      have HBIT2 := Lib.hid hbit
      have HO := Lib.hid hown
      have HNX := Lib.hid hnx
      have HIFF := Lib.hid hiff
      clear hb0 hb hd hm hcc hy hx hbit hp6 hown hnx hiff
      by_cases hyz : y = 0
      · subst hyz
        have htb : ¬ c.testBit (15 - m) = true := by
          rw [← HIFF.out]
          exact fun h => h rfl
        have hn2 : R (q + 1) = R q := by rw [HNX.out, if_neg htb]
        have HN2 := Lib.hid hn2
        clear hn2 htb
        go_upto_region 5 with fail
        go_region_with (first | (go_at_call 40; (try rw [hmt]); refine (HBIT2.out _).mono ?_; rintro e w' ⟨rfl, rfl⟩))
        all_goals (go_wp2_with fail; go_roundw)
        all_goals first
          | (refine ⟨q + 1, by omega, by go_num, by rw [HN2.out]; exact HO.out, H0.out, HB.out.drew⟩)
          | (simp [intOf]; omega)
      · have htb : c.testBit (15 - m) = true := by
          rw [← HIFF.out]
          exact hyz
        have hne := neq_zero hyz
        have hn2 : R (q + 1) = R q ++ [UInt8.ofNat q] := by rw [HNX.out, if_pos htb]
        have HN2 := Lib.hid hn2
        have hb8 : (UInt8.ofNat q).toNat = q := by rw [UInt8.toNat_ofNat', Nat.mod_eq_of_lt e]
        have HB8 := Lib.hid hb8
        clear hn2 htb hb8
        obtain ⟨k, hk⟩ : ∃ k, k = (R q).length := ⟨_, rfl⟩
        obtain ⟨X, hX⟩ : ∃ X, X = (R q).map bv := ⟨_, rfl⟩
        rw [← hk] at hn0 hle
        have HK := Lib.hid hk
        have HX := Lib.hid hX
        have HO2 : Hid (wr.drew.ownsRow w.heap.size 5 1 (.slice A0 k c0) k X) := Lib.hid (by rw [hX, hk]; exact HO.out)
        rw [← hk]
        clear hk hX HO
        have hwq : IntKind.u8.wrap (q : Int) = (q : Int) := by rw [IntKind.wrap_u8']; omega
        have h0d : Blk wr.drew w.heap.size 52 T := H0.out
        have H0D := Lib.hid h0d
        have HBD := Lib.hid HB.out.drew
        clear h0d
        go_upto_region 5 with fail
        go_region_with (first | (go_at_call 40; (try rw [hmt]); refine (HBIT2.out _).mono ?_; rintro e w' ⟨rfl, rfl⟩))
        all_goals (
          go_wp2_with (at_builtin; refine wpList_append_own _ rfl _ _ 56 rfl w.heap.size 5 i5 (.int .u8 0) 1 1 Try.underlying56 h5 hz0 hz1 hz2 rfl (by decide) _ _ _ rfl (HO2.out.alloc _) ⟨wr.heap.size, 0, none⟩ 1 1 [.int .u8 q] rfl rfl ?c1 ?c2 ?c3 ?c4 ?c5 ?_)
          case c1 => exact cell_one _ _ _
          case c2 => intro u hu; simp at hu; subst hu; rfl
          case c3 => unfold maxLen; omega
          case c4 => omega
          case c5 => simp; omega
          intro v4 w4 hown4 hgrow4 _
          have hb4 : Below w.heap.size w w4 := (HBD.out.alloc hz9 _).grown hgrow4 (by simp; omega) (fun k hk => (HO2.out.lt k hk).1)
          have h04 : Blk w4 w.heap.size 52 T := blk_grown H0D.out HO2.out (by decide) hgrow4
          have HO4 := Lib.hid hown4
          have HB4 := Lib.hid hb4
          have H04 := Lib.hid h04
          clear hown4 hgrow4 hb4 h04
          go_wp2_with fail
          go_roundw
          case rel =>
            refine ⟨q + 1, by omega, by go_num, ?_, H04.out, HB4.out⟩
            rw [HN2.out, List.length_append, ← HK.out, List.map_append, ← HX.out]
            have := HO4.out
            rw [show [Value.int .u8 q] = [UInt8.ofNat q].map bv by simp [bv, HB8.out]] at this
            exact this
          case measure => simp [intOf]; omega)
    · obtain rfl : q = 256 := by omega
      have hconv := conv_row hown
      have HB1 := Lib.hid hb
      clear hown hb hb0 H0 HB
      go_wp2_with fail
      go_ret
      exact ⟨rfl, HB1.out⟩

end Go.Proofs.Ytcmhcfbmjceioaa
