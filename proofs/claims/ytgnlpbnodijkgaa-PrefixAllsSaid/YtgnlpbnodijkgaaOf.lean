/- The reference's Codes. Conditions: slices of whole cells. Written ahead of stage 9. -/
import Derived.Test.YtgnlpbnodijkgaaOe
import Derived.Test.YtgnlpbnodijkgaaRb
import Derived.Lib.AppendZeros
namespace Go.Proofs.Ytgnlpbnodijkgaa
open Go.RowKit

/-- Numbers in a slice of the call's own, and an error. -/
def ListPost (w : World) (ans : List Nat × Nat) (e : Ending) (w' : World) : Prop := ∃ v, e = .returned (.tuple #[v, .int .i64 ans.2]) ∧ w'.ownsRow w.heap.size 3 1 v ans.1.length (ans.1.map iv) ∧ Below w.heap.size w w'

theorem val_codeB {l : List Nat} (h : Fits l) {i : Nat} (hi : i < l.length) : val (codeB l i) = codeN l i := by
  rw [codeB, val_bitsN, Nat.mod_eq_of_lt (code_lt h hi)]
theorem code_small {l : List Nat} (h : Fits l) {i : Nat} (hi : i < l.length) : codeN l i < 1048576 := by
  have h1 := code_lt h hi
  have h2 := (h.one hi).2
  have h3 : 2 ^ l.getD i 0 ≤ 2 ^ 20 := Nat.pow_le_pow_right (by decide) h2
  have h4 : (2 : Nat) ^ 20 = 1048576 := by decide
  omega

set_option maxHeartbeats 1600000 in
set_option maxRecDepth 100000 in
theorem rcodes_any (w : World) (A : Option Addr) (n c : Nat) (L : List Int) (hL : ZIn w A n L) (hn : n ≤ maxLen) : Calls Try.prog 11 #[.slice A n c] w (ListPost w (codesAns L)) := by
  obtain ⟨i3, h3, hz0, hz1, hz2⟩ := info_parts Try.info3
  have HC := Lib.hid (check_any w A n c L hL hn)
  by_cases h : LenOk L
  · rw [if_pos h] at HC
    have hln := hL.1
    have hn2 : n ≤ 258 := by have := h.2.1; omega
    have HT := Lib.hid (table_any w A n c L hL h)
    have hfit := fits_of h
    have hll : (nl L).length = n := by rw [nl_length, hln]
    have HF := Lib.hid hfit
    have HLL := Lib.hid hll
    have HNUM := Lib.hid number_any
    have HP : Hid (∀ (v : Value) (w' : World), w'.ownsRow w.heap.size 3 1 v n (((List.range n).map (codeN (nl L))).map iv) → Below w.heap.size w w' → ListPost w (codesAns L) (.returned (.tuple #[v, .int .i64 0])) w') := Lib.hid fun v w' h1 h2 => by
      have e : codesAns L = ((List.range n).map (codeN (nl L)), 0) := by rw [codesAns, if_pos h, hln]
      rw [e]
      exact ⟨v, rfl, by rw [List.length_map, List.length_range]; exact h1, h2⟩
    generalize nl L = l at *
    generalize ListPost w (codesAns L) = PO at *
    clear hL h hln hfit hll
    go_enter Try.func11, Try.ntmps11
    go_wp2_with fail
    refine HC.out.mono ?_
    rintro e w1 ⟨rfl, rfl⟩
    go_wp2_with fail
    refine HT.out.mono ?_
    rintro e w2 ⟨g, rfl, hT, hb2⟩
    have HT2 := Lib.hid hT
    have HB2 := Lib.hid hb2
    have hz2' := hb2.size
    clear hT hb2
    go_wp2_with fail
    go_loopw [6, 7] (fun out iv' wx => ∃ i : Nat, i ≤ n ∧ iv' = .int .i64 i ∧ wx.ownsRow w2.heap.size 3 1 out i (((List.range i).map (codeN l)).map iv) ∧ Below w2.heap.size w2 wx) (fun _ iv' _ => n - (intOf iv').toNat)
    case atStart => exact ⟨0, Nat.zero_le _, rfl, World.ownsRow_nil _ _ _ _, Below.refl _ _⟩
    case round =>
      obtain ⟨i, hi, rfl, hown, hb⟩ := hrel
      have hz9 := hb.size
      obtain ⟨A0, c0, rfl, hn0, hm0, hA0⟩ := own_slice hown
      clear hA0
      unfold maxLen at hm0
      have HB := Lib.hid hb
      by_cases e : i < n
      · have d0 : decide ((i : Int) < (n : Int)) = true := decide_eq_true (by omega)
        obtain ⟨A5, k5, hc5, hi5, hk5⟩ := (HT2.out.below hb) i e
        have hlen : (codeB l i).length ≤ 64 := by
          rw [codeB_length]
          have := (HF.out.one (i := i) (by rw [HLL.out]; exact e)).2
          omega
        have HNU := Lib.hid (HNUM.out wr A5 (codeB l i).length k5 (codeB l i) hi5 (bit01_codeB l i) hlen)
        rw [val_codeB HF.out (by rw [HLL.out]; exact e)] at HNU
        have hsm := code_small HF.out (i := i) (by rw [HLL.out]; exact e)
        obtain ⟨X, hX⟩ : ∃ X, X = ((List.range i).map (codeN l)).map iv := ⟨_, rfl⟩
        rw [← hX] at hown
        have HO := Lib.hid hown
        have hsn : X ++ [iv (codeN l i)] = ((List.range (i + 1)).map (codeN l)).map iv := by
          rw [hX, List.range_succ, List.map_append, List.map_append]
          rfl
        have HSN := Lib.hid hsn
        obtain ⟨y, hy⟩ : ∃ y, y = codeN l i := ⟨_, rfl⟩
        rw [← hy] at HNU hsm
        rw [← hy] at HSN
        obtain ⟨m5, hm5⟩ : ∃ m5, m5 = (codeB l i).length := ⟨_, rfl⟩
        rw [← hm5] at hc5 HNU
        clear hown hb hX hsn hlen hi5 hk5 hy hm5
        go_wp2_with fail
        refine HNU.out.mono ?_
        rintro e w3 ⟨rfl, rfl⟩
        go_wp2_with (at_builtin; refine wpList_append_own _ rfl _ _ 22 rfl w2.heap.size 3 i3 (.int .i64 0) 1 8 Try.underlying22 h3 hz0 hz1 hz2 rfl (by decide) _ _ _ rfl (HO.out.alloc _) ⟨wr.heap.size, 0, none⟩ 1 1 [.int .i64 y] rfl rfl ?c1 ?c2 ?c3 ?c4 ?c5 ?_)
        case c1 => exact cell_one _ _ _
        case c2 => intro u hu; simp at hu; subst hu; rfl
        case c3 => unfold maxLen; omega
        case c4 => omega
        case c5 => simp; omega
        intro v4 w4 hown4 hgrow4 _
        have hb4 : Below w2.heap.size w2 w4 := (HB.out.alloc hz9 _).grown hgrow4 (by simp; omega) (fun k hk => (HO.out.lt k hk).1)
        have HO4 := Lib.hid hown4
        have HB4 := Lib.hid hb4
        clear hown4 hgrow4 hb4
        go_wp2_with fail
        go_roundw
        case rel =>
          refine ⟨i + 1, by omega, by go_num, ?_, HB4.out⟩
          rw [← HSN.out]
          exact HO4.out
        case measure => simp [intOf]; omega
      · obtain rfl : i = n := by omega
        have d0 : decide ((i : Int) < (i : Int)) = false := decide_eq_false (by omega)
        have HPE := Lib.hid (HP.out _ wr (World.ownsRow.mono hown hz2') (HB2.out.trans (hb.mono hz2')))
        clear hown hb
        go_wp2_with fail
        first | exact HPE.out | (go_ret2; exact HPE.out)
  · rw [if_neg h] at HC
    have HPE : Hid (ListPost w (codesAns L) (.returned (.tuple #[.slice none 0 0, .int .i64 80])) w) := Lib.hid (by
      rw [codesAns, if_neg h]
      exact ⟨_, rfl, World.ownsRow_nil _ _ _ _, Below.refl _ _⟩)
    generalize ListPost w (codesAns L) = PO at *
    clear hL h
    go_enter Try.func11, Try.ntmps11
    go_wp2_with fail
    refine HC.out.mono ?_
    rintro e w1 ⟨rfl, rfl⟩
    go_wp2_with fail
    first | exact HPE.out | (go_ret2; exact HPE.out)

end Go.Proofs.Ytgnlpbnodijkgaa
