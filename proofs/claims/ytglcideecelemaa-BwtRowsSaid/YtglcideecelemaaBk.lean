/- The law BwtRows, walked. Over what is asked of the sort. -/
import Derived.Test.YtglcideecelemaaBh
import Derived.Laws.Concat
namespace Go.Proofs.Ytglcideecelemaa
open Go.RowKit

/-- Rotation i of a text, as a text. -/
def rotB (s : ByteArray) (i : Nat) : ByteArray := ⟨(rotL s.data.toList i).toArray⟩
theorem rotB_ext (s : ByteArray) (i : Nat) : s.extract i s.size ++ s.extract 0 i = rotB s i := by
  apply ByteArray.ext
  apply Array.ext'
  show (s.extract i s.size ++ s.extract 0 i).data.toList = rotL s.data.toList i
  rw [ByteArray.data_append, Array.toList_append, ByteArray.data_extract, ByteArray.data_extract, Array.toList_extract, Array.toList_extract, List.extract_eq_take_drop, List.extract_eq_take_drop, List.drop_zero, Nat.sub_zero, rotL]
  congr 1
  refine List.take_of_length_le ?_
  rw [List.length_drop]
  exact Nat.le_refl _

section
variable (S : SortOk 5000)
include S

set_option maxRecDepth 100000 in
theorem rows_out (w : World) (s : ByteArray) (r : Int) (ws : s.size ≤ maxLen) (h : 2000 < s.size ∨ r < 0 ∨ (s.size : Int) ≤ r) : Calls Try.prog 6 #[.string s, .int .i64 r] w fun e w' => e = .returned (.bool true) ∧ Below w.heap.size w w' := by
  unfold maxLen at ws
  have key : 2000 < s.size ∨ (s.size ≤ 2000 ∧ r < 0) ∨ (s.size ≤ 2000 ∧ ¬ r < 0 ∧ (s.size : Int) ≤ r) := by omega
  clear h
  rcases key with h1 | ⟨h1, h2⟩ | ⟨h1, h2, h3⟩
  · have d1 : decide ((2000 : Int) < (s.size : Int)) = true := decide_eq_true (by omega)
    go_enter Try.func6, Try.ntmps6
    go_wp2_with fail
    refine (awake_any (S.less (by omega)) w).mono ?_
    rintro e w1 ⟨rfl, hb⟩
    have HB := Lib.hid hb
    clear hb
    go_wp2_with fail
    go_ret
    exact ⟨rfl, HB.out⟩
  · have d1 : decide ((2000 : Int) < (s.size : Int)) = false := decide_eq_false (by omega)
    have d2 : decide (r < 0) = true := decide_eq_true h2
    go_enter Try.func6, Try.ntmps6
    go_wp2_with fail
    refine (awake_any (S.less (by omega)) w).mono ?_
    rintro e w1 ⟨rfl, hb⟩
    have HB := Lib.hid hb
    clear hb
    go_wp2_with fail
    go_ret
    exact ⟨rfl, HB.out⟩
  · have d1 : decide ((2000 : Int) < (s.size : Int)) = false := decide_eq_false (by omega)
    have d2 : decide (r < 0) = false := decide_eq_false h2
    have d3 : decide ((s.size : Int) ≤ r) = true := decide_eq_true h3
    go_enter Try.func6, Try.ntmps6
    go_wp2_with fail
    refine (awake_any (S.less (by omega)) w).mono ?_
    rintro e w1 ⟨rfl, hb⟩
    have HB := Lib.hid hb
    clear hb
    go_wp2_with fail
    go_ret
    exact ⟨rfl, HB.out⟩

set_option maxHeartbeats 1600000 in
set_option maxRecDepth 100000 in
theorem rows_walk (w : World) (s : ByteArray) (r : Nat) (hr : r < s.size) (hs : s.size ≤ 2000) : Calls Try.prog 6 #[.string s, .int .i64 r] w fun e w' => e = .returned (.bool true) ∧ Below w.heap.size w w' := by
  have d1 : decide ((2000 : Int) < (s.size : Int)) = false := decide_eq_false (by omega)
  have d2 : decide ((r : Int) < 0) = false := decide_eq_false (by omega)
  have d3 : decide ((s.size : Int) ≤ (r : Int)) = false := decide_eq_false (by omega)
  have hsl : s.data.toList.length = s.size := rfl
  have HSL := Lib.hid hsl
  have HF := Lib.hid (fwd_text S w s (by omega) (by omega))
  have HO := Lib.hid fun w1 : World => order_any 5000 S w1 s (by omega) (by omega)
  have HAW := Lib.hid (awake_any (S.less (show 6 ≤ 5000 by omega)))
  clear hsl
  go_enter Try.func6, Try.ntmps6
  go_wp2_with fail
  refine HF.out.mono ?_
  rintro e w1 ⟨u, L, k, rfl, hu, hus, hord, hk, hv, hb⟩
  have HU := Lib.hid hu
  have HUS := Lib.hid hus
  have HORD := Lib.hid hord
  have HB := Lib.hid hb
  have hz := hb.size
  clear hu hus hord hv hb
  go_wp2_with fail
  refine (HO.out w1).mono ?_
  rintro e w2 ⟨g, M, rfl, hrow, hord2, hg, hb2⟩
  have hML : M = L := isOrd_one hord2 HORD.out
  subst hML
  rw [HSL.out]
  have HBK := Lib.hid (back_text w2 s u M r HU.out HUS.out HORD.out hr (by omega))
  have HR := Lib.hid hrow
  have HB2 := Lib.hid (HB.out.trans (hb2.mono hz))
  have hgl := hrow.lt
  have hlen : M.length = s.size := (isOrd_length hord2).trans HSL.out
  have HLEN := Lib.hid hlen
  clear hrow hord2 hb2 hlen
  go_wp2_with fail
  refine HBK.out.mono ?_
  rintro e w3 ⟨rfl, hb3⟩
  have hc := (hb3.cell (p := ⟨g, r, none⟩) hgl).trans (HR.out.cell (i := r) (by rw [HLEN.out]; exact hr))
  have hxl := isOrd_lt HORD.out r (by rw [HSL.out]; exact hr)
  rw [HSL.out] at hxl
  obtain ⟨x, hx⟩ : ∃ x, x = M.getD r 0 := ⟨_, rfl⟩
  rw [← hx] at hc hxl ⊢
  have hgl3 : g < w3.heap.size := Nat.lt_of_lt_of_le hgl hb3.size
  have d4 : decide ((x : Int) < 0) = false := decide_eq_false (by omega)
  have d5 : decide ((s.size : Int) ≤ (x : Int)) = false := decide_eq_false (by omega)
  have hx1 : (0 : Int) ≤ (x : Int) := by omega
  have hx2 : (x : Int) ≤ (s.size : Int) := by omega
  have hex := rotB_ext s x
  have h1 : (s.extract x s.size).size = s.size - x := by rw [ByteArray.size_extract]; omega
  have h2 : (s.extract 0 x).size = x := by rw [ByteArray.size_extract]; omega
  have h3 : (s.extract x s.size).size + (s.extract 0 x).size = s.size := by omega
  obtain ⟨t, ht⟩ : ∃ t, t = rotB s x := ⟨_, rfl⟩
  rw [show (⟨(rotL s.data.toList x).toArray⟩ : ByteArray) = t from ht.symm]
  rw [← ht] at hex
  have HB3 := Lib.hid (HB2.out.trans (hb3.mono HB2.out.size))
  have hcat : ∀ w9 : World, (Op.stringOp .add (s.extract x s.size) (s.extract 0 x)).run Try.prog w9 = .ok (.string t) w9 := fun w9 => (run_string_add_sum w9 _ _ (by omega)).trans (by rw [hex])
  clear ht hx hb3 hex h1 h2 h3
  go_wp2_with fail
  have hc1 : w3.drew.cell? ⟨g, r, none⟩ = some (.int .i64 x) := hc
  go_region_held3 (fun w' => w'.cell? ⟨g, r, none⟩ = some (.int .i64 x)) (first | exact hc | exact hc1 | exact hd | go_keep)
    (first | (go_at_call 8; refine (HAW.out _).mono ?_; rintro e w5 ⟨rfl, hb5⟩; have hd := (hb5.cell (p := ⟨g, r, none⟩) (show g < _ from hgl3)).trans hc1))
  have HB5 := Lib.hid (HB3.out.trans (Below.mono ((Below.refl w3.heap.size w3).drew.trans hb5) HB3.out.size))
  clear hb5 hd
  go_wp2_with fail
  go_ret
  exact ⟨rfl, HB5.out⟩
end

end Go.Proofs.Ytglcideecelemaa
