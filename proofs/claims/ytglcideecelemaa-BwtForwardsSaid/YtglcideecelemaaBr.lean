/- The reference of bwt, walked: Back, Forward. Conditions: none beyond a length that a text may have. -/
import Derived.Test.YtglcideecelemaaBq
import Derived.Test.YtglcideecelemaaBg
import Derived.Test.YtglcideecelemaaGi
import Derived.Laws.Concat
namespace Go.Proofs.Ytglcideecelemaa
open Go.RowKit

set_option maxRecDepth 100000 in
theorem rback_big (w : World) (s : ByteArray) (r : Int) (hs : 262144 < s.size) : Calls Try.prog 12 #[.string s, .int .i64 r] w fun e w' => e = .returned (.tuple #[.string ⟨#[]⟩, .int .i64 3]) ∧ w = w' := by
  have d0 : decide ((262144 : Int) < (s.size : Int)) = true := decide_eq_true (by omega)
  clear hs
  go_enter Try.func12, Try.ntmps12
  go_wp2_with fail
  go_ret2
  exact ⟨rfl, rfl⟩

set_option maxRecDepth 100000 in
theorem rback_out (w : World) (s : ByteArray) (r : Int) (hs : s.size ≤ 262144) (hr : r < 0 ∨ (s.size : Int) ≤ r) : Calls Try.prog 12 #[.string s, .int .i64 r] w fun e w' => e = .returned (.tuple #[.string ⟨#[]⟩, .int .i64 50]) ∧ w = w' := by
  have d0 : decide ((262144 : Int) < (s.size : Int)) = false := decide_eq_false (by omega)
  by_cases h1 : r < 0
  · have d1 : decide (r < 0) = true := decide_eq_true h1
    clear hs hr
    go_enter Try.func12, Try.ntmps12
    go_wp2_with fail
    go_ret2
    exact ⟨rfl, rfl⟩
  · have d1 : decide (r < 0) = false := decide_eq_false h1
    have d2 : decide ((s.size : Int) ≤ r) = true := decide_eq_true (by omega)
    clear hs hr
    go_enter Try.func12, Try.ntmps12
    go_wp2_with fail
    go_ret2
    exact ⟨rfl, rfl⟩

set_option maxHeartbeats 1600000 in
set_option maxRecDepth 100000 in
theorem rback_any (w : World) (s : ByteArray) (r : Nat) (hr : r < s.size) (hs : s.size ≤ 262144) : Calls Try.prog 12 #[.string s, .int .i64 r] w fun e w' => e = .returned (.tuple #[.string ⟨(backL s.data.toList r).toArray⟩, .int .i64 0]) ∧ Below w.heap.size w w' := by
  obtain ⟨i5, h5, hz0, hz1, hz2⟩ := info_parts Try.info5
  have d0 : decide ((262144 : Int) < (s.size : Int)) = false := decide_eq_false (by omega)
  have d1 : decide ((r : Int) < 0) = false := decide_eq_false (by omega)
  have d2 : decide ((s.size : Int) ≤ (r : Int)) = false := decide_eq_false (by omega)
  have HA := Lib.hid (rplaces_any w s (by omega))
  have HSL := Lib.hid (show s.data.toList.length = s.size from rfl)
  have hs6 : s.size ≤ 1000000 := by omega
  clear hs
  go_enter Try.func12, Try.ntmps12
  go_wp2_with fail
  refine HA.out.mono ?_
  rintro e w1 ⟨v1, rfl, hown1, hb1⟩
  obtain ⟨A1, c1, rfl, _, _, _⟩ := own_slice hown1
  have hin := ints_of_own hown1
  obtain ⟨g, o, rfl, hcell⟩ := hin.2 (by omega)
  have HC := Lib.hid hcell
  have HB1 := Lib.hid hb1
  have hz1' := hb1.size
  clear hown1 hin hcell hb1 d0 d1 d2
  go_wp2_with fail
  go_loopw [7, 8] (fun t x wx => ∃ q y : Nat, q ≤ s.size ∧ x = .int .i64 y ∧ y = itr (placesL s.data.toList) r q ∧ wx.ownsRow w1.heap.size 5 1 t q (((backL s.data.toList r).take q).map bv) ∧ Below w1.heap.size w1 wx) (fun t _ _ => s.size - sliceLen t)
  case atStart => exact ⟨0, r, Nat.zero_le _, rfl, rfl, World.ownsRow_nil _ _ _ _, Below.refl _ _⟩
  case round =>
    obtain ⟨q, y, hq, rfl, hy, hown, hb⟩ := hrel
    have hyl : y < s.size := by rw [hy]; exact itr_in s.data.toList r (by rw [HSL.out]; exact hr) q
    have HB := Lib.hid hb
    have hz9 := hb.size
    obtain ⟨A0, k0, rfl, hn0, hm0, hA0⟩ := own_slice hown
    clear hA0
    unfold maxLen at hm0
    have HO := Lib.hid hown
    have HY := Lib.hid hy
    by_cases e : q < s.size
    · have d3 : decide ((q : Int) < (s.size : Int)) = true := decide_eq_true (by omega)
      have hxl : (placesL s.data.toList).getD y 0 < s.size := by
        have := getD_lt s.data.toList y (by rw [HSL.out]; exact hyl)
        rwa [HSL.out] at this
      have hxi : (placesL s.data.toList).getD y 0 = itr (placesL s.data.toList) r (q + 1) := by rw [hy]; rfl
      have HBN := Lib.hid (back_next s.data.toList r q (by rw [HSL.out]; exact e))
      have hcy := (hb.cell (p := ⟨g, o + y, none⟩) (World.block_lt_of_cell? w1 _ (HC.out y hyl))).trans (HC.out y hyl)
      obtain ⟨x, hx⟩ : ∃ x, x = (placesL s.data.toList).getD y 0 := ⟨_, rfl⟩
      rw [← hx] at hxl hxi hcy
      have HXI := Lib.hid hxi
      have hby := getD_byte s x hxl
      have HBY := Lib.hid hby
      clear hown hb hy hx hxi hby
      go_wp2_with (at_builtin; refine wpList_append_own _ rfl _ _ 40 rfl w1.heap.size 5 i5 (.int .u8 0) 1 1 Try.underlying40 h5 hz0 hz1 hz2 rfl (by decide) _ _ _ rfl (HO.out.alloc _) ⟨wr.heap.size, 0, none⟩ 1 1 [.int .u8 (s[x]).toNat] rfl rfl ?c1 ?c2 ?c3 ?c4 ?c5 ?_)
      case c1 => exact cell_one _ _ _
      case c2 => intro u hu; simp at hu; subst hu; rfl
      case c3 => unfold maxLen; omega
      case c4 => omega
      case c5 => simp; omega
      intro v2 w2 hown2 hgrow2 _
      obtain ⟨A2, k2, rfl, _, _, _⟩ := own_slice hown2
      have hb2 : Below w1.heap.size w1 w2 := (HB.out.alloc hz9 _).grown hgrow2 (by simp; omega) (fun k hk => (HO.out.lt k hk).1)
      have HO2 := Lib.hid hown2
      have HB2 := Lib.hid hb2
      clear hown2 hgrow2 hb2
      go_wp2_with fail
      go_roundw
      case rel => exact ⟨q + 1, x, by omega, rfl, HXI.out, by rw [HBN.out, List.map_append, ← HXI.out, HBY.out, List.map_take]; exact HO2.out, HB2.out⟩
      case measure => show s.size - (q + 1) < s.size - q; omega
    · obtain rfl : q = s.size := by omega
      have d3 : decide ((s.size : Int) < (s.size : Int)) = false := decide_eq_false (by omega)
      have hT : (backL s.data.toList r).take s.size = backL s.data.toList r := List.take_of_length_le (by rw [backL_length, HSL.out]; exact Nat.le_refl _)
      have hcv : (convert 40 9 (.slice A0 s.size k0)).run Try.prog wr = .ok (.string ⟨(backL s.data.toList r).toArray⟩) wr := by
        refine conv_row (B := w1.heap.size) ?_
        rw [backL_length, HSL.out]
        rw [hT] at hown
        exact hown
      have HBF := Lib.hid (HB1.out.trans (hb.mono hz1'))
      clear hown hb hy hT
      go_wp2_with fail
      go_ret2
      exact ⟨rfl, HBF.out⟩

end Go.Proofs.Ytglcideecelemaa
