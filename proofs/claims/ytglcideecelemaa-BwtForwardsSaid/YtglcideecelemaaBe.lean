/- Out of a last column: the text that a way meets, from, and Back. Conditions: at most a million bytes. -/
import Derived.Test.YtglcideecelemaaBd
import Derived.Test.YtglcideecelemaaGh
import Derived.Laws.BytesArg
namespace Go.Proofs.Ytglcideecelemaa
open Go.RowKit

theorem getD_lt (l : List UInt8) (r : Nat) (hr : r < l.length) : (placesL l).getD r 0 < l.length := by
  have hk : r < (placesL l).length := by rw [places_length]; exact hr
  rw [List.getD_eq_getElem?_getD, List.getElem?_eq_getElem hk]
  exact (places_mem l _).1 (List.getElem_mem hk)
theorem itr_in (l : List UInt8) (r : Nat) (hr : r < l.length) : ∀ k, itr (placesL l) r k < l.length
  | 0 => hr
  | k + 1 => getD_lt l _ (itr_in l r hr k)
theorem backL_length (l : List UInt8) (r : Nat) : (backL l r).length = l.length := by simp [backL]
theorem back_next (l : List UInt8) (r k : Nat) (h : k < l.length) : (backL l r).take (k + 1) = (backL l r).take k ++ [l.getD (itr (placesL l) r (k + 1)) 0] := by
  rw [List.take_succ_eq_append_getElem (by rw [backL_length]; exact h)]
  congr 2
  simp [backL]
theorem conv_row {w : World} {B : Nat} {v : Value} {l : List UInt8} (h : w.ownsRow B 5 1 v l.length (l.map bv)) : (convert 40 9 v).run Try.prog w = .ok (.string ⟨l.toArray⟩) w := by
  rcases h.2 with ⟨rfl, h0⟩ | ⟨g, cap, cur, rfl, _⟩
  · have : l = [] := List.eq_nil_of_length_eq_zero h0
    subst this
    exact run_convert_bytes_nil w 40 5 Try.underlying40 Try.underlying5 0 0 9 Try.underlying9
  · have hn : ∀ j (hj : j < l.length), w.cell? ((⟨g, 0, none⟩ : Addr).add j) = some (.int .u8 (l[j].toNat : Int)) := by
      intro j hj
      have h1 := h.cells (g := g) rfl j (.int .u8 (l[j].toNat : Int))
      exact h1 (by rw [List.getElem?_map, List.getElem?_eq_getElem hj]; rfl)
    exact run_convert_bytes_back w 40 9 5 ⟨g, 0, none⟩ cap l Try.underlying40 Try.underlying5 Try.underlying9 hn

set_option maxHeartbeats 1600000 in
set_option maxRecDepth 100000 in
theorem from_any (w : World) (s : ByteArray) (pb r : Nat) (hr : r < s.size) (hs : s.size ≤ 1000000) (hw : Way w pb s.size (placesL s.data.toList)) :
    Calls Try.prog 19 #[.agg #[.string s, .func (.func 26) #[] #[.pointer (some ⟨pb, 0, none⟩)]], .int .i64 r] w fun e w' => e = .returned (.string ⟨(backL s.data.toList r).toArray⟩) ∧ Below w.heap.size w w' := by
  obtain ⟨i5, h5, hz0, hz1, hz2⟩ := info_parts Try.info5
  have hmk : ∀ w1 : World, (Instr.makeSlice 40 (.int .i64 0) (.int .i64 s.size)).run Try.prog w1 = .ok (.slice (some ⟨w1.heap.size, 0, none⟩) 0 s.size) (w1.alloc (.cells (madeCells #[.int .u8 0] s.size) 5)) := by
    intro w1
    have h := run_make (P := Try.prog) w1 40 5 i5 (.int .u8 0) Try.underlying40 h5 hz0 .i64 .i64 (0 : Int) (s.size : Int) (by omega) (by omega) (by rw [hz2]; omega) (by omega)
    rw [hz1, Int.toNat_natCast, Nat.mul_one] at h
    exact h
  have hsl : s.data.toList.length = s.size := rfl
  have HSL := Lib.hid hsl
  have hb0 := (Below.refl w.heap.size w).alloc (Nat.le_refl _) (.cells #[.string s, .func (.func 26) #[] #[.pointer (some ⟨pb, 0, none⟩)]] 44)
  have hw0 := hw.below hb0
  have hq0 := blk_new w 44 #[.string s, .func (.func 26) #[] #[.pointer (some ⟨pb, 0, none⟩)]]
  have HB0 := Lib.hid hb0
  have HW0 := Lib.hid hw0
  have HQ0 := Lib.hid hq0
  have c0 := blk_cell hq0 0
  have c1 := blk_cell hq0 1
  have HMK := Lib.hid hmk
  have hmk1 := hmk (w.alloc (.cells #[.string s, .func (.func 26) #[] #[.pointer (some ⟨pb, 0, none⟩)]] 44))
  clear hsl hb0 hw0 hw hq0 hmk
  go_enter Try.func19, Try.ntmps19
  go_wp2_with fail
  have e0 : (w.alloc (.cells #[.string s, .func (.func 26) #[] #[.pointer (some ⟨pb, 0, none⟩)]] 44)).heap.size = w.heap.size + 1 := by simp
  clear hmk1
  go_loopw [1, 5, 13] (fun x t k wx => ∃ q y : Nat, q ≤ s.size ∧ k = .int .i64 q ∧ x = .int .i64 y ∧ y = itr (placesL s.data.toList) r q ∧ wx.ownsRow (w.heap.size + 1) 5 1 t q (((backL s.data.toList r).take q).map bv) ∧ Below (w.heap.size + 1) (w.alloc (.cells #[.string s, .func (.func 26) #[] #[.pointer (some ⟨pb, 0, none⟩)]] 44)) wx) (fun _ _ k _ => s.size - (intOf k).toNat)
  case atStart =>
    have hm : (madeCells #[.int .u8 0] s.size).size = s.size * 1 := by simp [madeCells]
    have h1 := World.ownsRow_made (base := w.heap.size + 1) (e := 5) (size := 1) (w.alloc (.cells #[.string s, .func (.func 26) #[] #[.pointer (some ⟨pb, 0, none⟩)]] 44)) (madeCells #[.int .u8 0] s.size) s.size (Nat.le_of_eq e0.symm) (by unfold maxLen; omega) hm
    rw [e0] at h1
    exact ⟨0, r, Nat.zero_le _, rfl, rfl, rfl, h1, (Below.refl _ _).alloc (Nat.le_of_eq e0.symm) _⟩
  case round =>
    obtain ⟨q, y, hq, rfl, rfl, hy, hown, hb⟩ := hrel
    have hyl : y < s.size := by rw [hy]; exact itr_in s.data.toList r (by rw [HSL.out]; exact hr) q
    have HB := Lib.hid hb
    have hz9 := hb.size
    rw [e0] at hz9
    have hbw : Below (w.alloc (.cells #[.string s, .func (.func 26) #[] #[.pointer (some ⟨pb, 0, none⟩)]] 44)).heap.size (w.alloc (.cells #[.string s, .func (.func 26) #[] #[.pointer (some ⟨pb, 0, none⟩)]] 44)) wr := by rw [e0]; exact hb
    have hq1 : Blk wr w.heap.size 44 #[.string s, .func (.func 26) #[] #[.pointer (some ⟨pb, 0, none⟩)]] := (hb.block _ (by omega)).trans HQ0.out
    have d0 := blk_cell hq1 0
    have d1 := blk_cell hq1 1
    obtain ⟨A0, k0, rfl, hn0, hm0, hA0⟩ := own_slice hown
    clear hA0
    unfold maxLen at hm0
    have HO := Lib.hid hown
    have HY := Lib.hid hy
    by_cases e : q < s.size
    · have HNX := Lib.hid (next_any wr pb s.size y (placesL s.data.toList) (HW0.out.below hbw) hyl hs)
      have hxl : (placesL s.data.toList).getD y 0 < s.size := by
        have := getD_lt s.data.toList y (by rw [HSL.out]; exact hyl)
        rwa [HSL.out] at this
      have hxi : (placesL s.data.toList).getD y 0 = itr (placesL s.data.toList) r (q + 1) := by rw [hy]; rfl
      have HBN := Lib.hid (back_next s.data.toList r q (by rw [HSL.out]; exact e))
      obtain ⟨x, hx⟩ : ∃ x, x = (placesL s.data.toList).getD y 0 := ⟨_, rfl⟩
      rw [← hx] at hxl hxi HNX
      have HXI := Lib.hid hxi
      have hby := getD_byte s x hxl
      have HBY := Lib.hid hby
      clear hown hb hy hbw hq1 hx hxi hby e0 c0 c1
      go_wp2_with fail
      refine HNX.out.mono ?_
      rintro e w1 ⟨rfl, rfl⟩
      go_wp2_with (at_builtin; refine wpList_append_own _ rfl _ _ 40 rfl (w.heap.size + 1) 5 i5 (.int .u8 0) 1 1 Try.underlying40 h5 hz0 hz1 hz2 rfl (by decide) _ _ _ rfl (HO.out.alloc _) ⟨wr.heap.size, 0, none⟩ 1 1 [.int .u8 (s[x]).toNat] rfl rfl ?c1 ?c2 ?c3 ?c4 ?c5 ?_)
      case c1 => exact cell_one _ _ _
      case c2 => intro u hu; simp at hu; subst hu; rfl
      case c3 => unfold maxLen; omega
      case c4 => omega
      case c5 => simp; omega
      intro v2 w2 hown2 hgrow2 _
      have hb2 : Below (w.heap.size + 1) (w.alloc (.cells #[.string s, .func (.func 26) #[] #[.pointer (some ⟨pb, 0, none⟩)]] 44)) w2 := (HB.out.alloc hz9 _).grown hgrow2 (by simp; omega) (fun k hk => (HO.out.lt k hk).1)
      have HO2 := Lib.hid hown2
      have HB2 := Lib.hid hb2
      clear hown2 hgrow2 hb2
      go_wp2_with fail
      go_roundw
      case rel => exact ⟨q + 1, x, by omega, by go_num, rfl, HXI.out, by rw [HBN.out, List.map_append, ← HXI.out, HBY.out, List.map_take]; exact HO2.out, HB2.out⟩
      case measure => simp [intOf]; omega
    · obtain rfl : q = s.size := by omega
      have hT : (backL s.data.toList r).take s.size = backL s.data.toList r := List.take_of_length_le (by rw [backL_length, HSL.out]; exact Nat.le_refl _)
      have hcv : (convert 40 9 (.slice A0 s.size k0)).run Try.prog wr = .ok (.string ⟨(backL s.data.toList r).toArray⟩) wr := by
        refine conv_row (B := w.heap.size + 1) ?_
        rw [backL_length, HSL.out]
        rw [hT] at hown
        exact hown
      have hbf : Below w.heap.size w wr := HB0.out.trans (hb.mono (by omega))
      have HBF := Lib.hid hbf
      clear hown hb hy hbw hq1 e0 c0 c1 hT hbf
      go_wp2_with fail
      go_ret
      exact ⟨rfl, HBF.out⟩

end Go.Proofs.Ytglcideecelemaa
