/- The transform: Forward. Over what is asked of the sort. -/
import Derived.Test.YtglcideecelemaaBe
import Derived.Test.YtglcideecelemaaKl
namespace Go.Proofs.Ytglcideecelemaa
open Go.RowKit

/-- What Forward answers of a text that is not empty. -/
def FwdPost (w : World) (s : List UInt8) (e : Ending) (w' : World) : Prop := ∃ (L : List Nat) (k : Nat), e = .returned (.tuple #[.string ⟨(lastCol s L).toArray⟩, .int .i64 k, .int .i64 0]) ∧ IsOrd s L ∧ k < L.length ∧ L.getD k 0 = 0 ∧ Below w.heap.size w w'

theorem last_next (s : List UInt8) (L : List Nat) (q : Nat) (h : q < L.length) : (lastCol s L).take (q + 1) = (lastCol s L).take q ++ [rat s (L.getD q 0 + (s.length - 1))] := by
  rw [List.take_succ_eq_append_getElem (by rw [lastCol_length]; exact h)]
  congr 2
  simp [lastCol, List.getElem?_eq_getElem h]

theorem not_empty (s : ByteArray) (h : 0 < s.size) : s.toList.isEmpty = false := by
  rw [ByteArray.toList_eq]
  have hsl : s.data.toList.length = s.size := rfl
  cases hd : s.data.toList with
  | nil => rw [hd] at hsl; simp at hsl; omega
  | cons a l => rfl

set_option maxRecDepth 100000 in
theorem cfwd_none (w : World) : Calls Try.prog 9 #[.string ⟨#[]⟩] w fun e w' => e = .returned (.tuple #[.string ⟨#[]⟩, .int .i64 0, .int .i64 2]) ∧ w = w' := by
  go_enter Try.func9, Try.ntmps9
  go_wp2_with fail
  go_ret3
  exact ⟨rfl, rfl⟩

set_option maxRecDepth 100000 in
theorem cfwd_big (w : World) (s : ByteArray) (hs : 262144 < s.size) : Calls Try.prog 9 #[.string s] w fun e w' => e = .returned (.tuple #[.string ⟨#[]⟩, .int .i64 0, .int .i64 3]) ∧ w = w' := by
  have d0 : decide ((262144 : Int) < (s.size : Int)) = true := decide_eq_true (by omega)
  have hne := not_empty s (by omega)
  go_enter Try.func9, Try.ntmps9
  go_wp2_with fail
  go_ret3
  exact ⟨rfl, rfl⟩

set_option maxHeartbeats 1600000 in
set_option maxRecDepth 100000 in
theorem cfwd_any (N : Nat) (S : SortOk N) (w : World) (s : ByteArray) (h0 : 0 < s.size) (hN : s.size ≤ N) (hs : s.size ≤ 262144) : Calls Try.prog 9 #[.string s] w (FwdPost w s.data.toList) := by
  obtain ⟨i5, h5, hz0, hz1, hz2⟩ := info_parts Try.info5
  have hmk : ∀ w1 : World, (Instr.makeSlice 40 (.int .i64 0) (.int .i64 s.size)).run Try.prog w1 = .ok (.slice (some ⟨w1.heap.size, 0, none⟩) 0 s.size) (w1.alloc (.cells (madeCells #[.int .u8 0] s.size) 5)) := by
    intro w1
    have h := run_make (P := Try.prog) w1 40 5 i5 (.int .u8 0) Try.underlying40 h5 hz0 .i64 .i64 (0 : Int) (s.size : Int) (by omega) (by omega) (by rw [hz2]; omega) (by omega)
    rw [hz1, Int.toNat_natCast, Nat.mul_one] at h
    exact h
  have hsl : s.data.toList.length = s.size := rfl
  have HSL := Lib.hid hsl
  have hne := not_empty s h0
  have d0 : decide ((262144 : Int) < (s.size : Int)) = false := decide_eq_false (by omega)
  have HO := Lib.hid (order_any N S w s hN (by omega))
  have hs6 : s.size ≤ 1000000 := by omega
  have HMK := Lib.hid hmk
  clear hsl hmk hs hN
  go_enter Try.func9, Try.ntmps9
  go_wp2_with fail
  refine HO.out.mono ?_
  rintro e w2 ⟨g, L, rfl, hrow, hord, hg, hb⟩
  rw [HSL.out]
  have hmk2 := HMK.out w2
  have hz2' := hb.size
  go_wp2_with fail
  have hrn : L.length = s.size := (isOrd_length hord).trans HSL.out
  obtain ⟨k0, hk0, hkv, hklow⟩ := isRank_find hord 0 (by rw [HSL.out]; exact h0)
  have HROW := Lib.hid hrow
  have HORD := Lib.hid hord
  have HB := Lib.hid hb
  have HRN := Lib.hid hrn
  have HKV := Lib.hid hkv
  have HKLOW := Lib.hid hklow
  have HK0 := Lib.hid hk0
  have HLT := Lib.hid (isOrd_lt hord)
  have hgl := hrow.lt
  clear hmk2 hrow hord hb hrn hkv hklow hk0 d0 hne
  go_loopw [6, 23] (fun t k wx => ∃ q : Nat, q ≤ s.size ∧ k = .int .i64 q ∧ wx.ownsRow w2.heap.size 5 1 t q (((lastCol s.data.toList L).take q).map bv) ∧ Below w2.heap.size w2 wx) (fun _ k _ => s.size - (intOf k).toNat)
  case atStart =>
    have hm : (madeCells #[.int .u8 0] s.size).size = s.size * 1 := by simp [madeCells]
    exact ⟨0, Nat.zero_le _, rfl, World.ownsRow_made w2 (madeCells #[.int .u8 0] s.size) s.size (Nat.le_refl _) (by unfold maxLen; omega) hm, (Below.refl _ _).alloc (Nat.le_refl _) _⟩
  case round =>
    obtain ⟨q, hq, rfl, hown, hb⟩ := hrel
    have hz9 := hb.size
    obtain ⟨A0, c0, rfl, hn0, hm0, hA0⟩ := own_slice hown
    clear hA0
    unfold maxLen at hm0
    have HO := Lib.hid hown
    have HB2 := Lib.hid hb
    by_cases e : q < s.size
    · have hc := (hb.cell (p := ⟨g, q, none⟩) hgl).trans (HROW.out.cell (i := q) (by rw [HRN.out]; exact e))
      have hxl := HLT.out q (by rw [HSL.out]; exact e)
      rw [HSL.out] at hxl
      have hln := last_next s.data.toList L q (by rw [HRN.out]; exact e)
      rw [HSL.out] at hln
      obtain ⟨x, hx⟩ : ∃ x, x = L.getD q 0 := ⟨_, rfl⟩
      rw [← hx] at hc hxl hln
      obtain ⟨p, hp⟩ : ∃ p, p = (x + (s.size - 1)) % s.size := ⟨_, rfl⟩
      have hpl : p < s.size := by rw [hp]; exact Nat.mod_lt _ h0
      have hma : ((x : Int) + (s.size : Int) - 1) % (s.size : Int) = (p : Int) := by
        rw [hp, Int.natCast_emod, Int.natCast_add, show ((s.size - 1 : Nat) : Int) = (s.size : Int) - 1 by omega]
        congr 1
        omega
      have hra := rat_get s (x + (s.size - 1)) p hp hpl
      rw [← hra] at hln
      have HLN := Lib.hid hln
      clear hown hb hx hp hra hln
      go_wp2_with (at_builtin; refine wpList_append_own _ rfl _ _ 40 rfl w2.heap.size 5 i5 (.int .u8 0) 1 1 Try.underlying40 h5 hz0 hz1 hz2 rfl (by decide) _ _ _ rfl (HO.out.alloc _) ⟨wr.heap.size, 0, none⟩ 1 1 [.int .u8 (s[p]).toNat] rfl rfl ?c1 ?c2 ?c3 ?c4 ?c5 ?_)
      case c1 => exact cell_one _ _ _
      case c2 => intro u hu; simp at hu; subst hu; rfl
      case c3 => unfold maxLen; omega
      case c4 => omega
      case c5 => simp; omega
      intro v3 w3 hown3 hgrow3 _
      have hb3 : Below w2.heap.size w2 w3 := (HB2.out.alloc hz9 _).grown hgrow3 (by simp; omega) (fun k hk => (HO.out.lt k hk).1)
      have HO3 := Lib.hid hown3
      have HB3 := Lib.hid hb3
      clear hown3 hgrow3 hb3
      go_wp2_with fail
      go_roundw
      case rel => exact ⟨q + 1, by omega, by go_num, by rw [HLN.out, List.map_append, List.map_take]; exact HO3.out, HB3.out⟩
      case measure => simp [intOf]; omega
    · obtain rfl : q = s.size := by omega
      have hT : (lastCol s.data.toList L).take s.size = lastCol s.data.toList L := List.take_of_length_le (by rw [lastCol_length, HRN.out]; exact Nat.le_refl _)
      have hcv0 : (convert 40 9 (.slice A0 s.size c0)).run Try.prog wr = .ok (.string ⟨(lastCol s.data.toList L).toArray⟩) wr := by
        refine conv_row (B := w2.heap.size) ?_
        rw [lastCol_length, HRN.out]
        rw [hT] at hown
        exact hown
      have hcv : ∀ n, (convert 40 9 (.slice A0 s.size c0)).run Try.prog (wr.drewN n) = .ok (.string ⟨(lastCol s.data.toList L).toArray⟩) (wr.drewN n) := by
        intro n
        refine conv_row (B := w2.heap.size) ?_
        rw [lastCol_length, HRN.out]
        rw [hT] at hown
        exact hown
      have hrw : IRow wr g L := (step_of_below hb).irow HROW.out List.not_mem_nil List.not_mem_nil
      have HIX := Lib.hid fun (n : Nat) => (index_any (wr.drewN n) g s.size s.size k0 0 L (show IRow (wr.drewN n) g L from hrw) HRN.out (by rw [← HRN.out]; exact HK0.out) HKV.out HKLOW.out hs6).mono (R' := fun e w' => e = .returned (.int .i64 k0) ∧ ∃ m, w' = (wr.drewN n).drewN m) (by rintro e w' ⟨rfl, rfl⟩; exact ⟨rfl, 0, rfl⟩)
      have HBF := Lib.hid (HB.out.trans (hb.mono hz2'))
      clear hown hb hT hrw
      go_wp2_with fail
      go_quiet (first | (go_at_call 16; exact Calls.quiet_of (HIX.out _)))
      go_wp2_with fail
      go_ret3
      exact ⟨L, k0, rfl, HORD.out, HK0.out, HKV.out, below_drewN HBF.out _⟩

end Go.Proofs.Ytglcideecelemaa
