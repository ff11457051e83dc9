/- The code's Run and Encode. Conditions: numbers of 64 bits; at most 1100000 places. -/
import Derived.Test.YtdlndcjiccfhgaaQa
import Derived.Test.YtdlndcjiccfhgaaQb
namespace Go.Proofs.Ytdlndcjiccfhgaa
open Go.RowKit

theorem crun_any (w : World) (k : Int) (_ : -9223372036854775808 ≤ k) (_ : k ≤ 9223372036854775807) : Calls Try.prog 8 #[.int .i64 k] w (ListPost w (runAns k)) := by
  by_cases h : k < 0 ∨ 2147483647 < k
  · have e : runAns k = ([], 2) := if_pos h
    rw [e]
    by_cases h1 : k < 0
    · have d0 : decide (k < 0) = true := decide_eq_true h1
      clear h
      go_enter Try.func8, Try.ntmps8
      go_wp2_with fail
      go_ret2
      exact ⟨_, rfl, World.ownsRow_nil _ _ _ _, Below.refl _ _⟩
    · have h2 : 2147483647 < k := h.resolve_left h1
      have d0 : decide (k < 0) = false := decide_eq_false h1
      have d1 : decide (2147483647 < k) = true := decide_eq_true h2
      clear h
      go_enter Try.func8, Try.ntmps8
      go_wp2_with fail
      go_ret2
      exact ⟨_, rfl, World.ownsRow_nil _ _ _ _, Below.refl _ _⟩
  · obtain ⟨n, rfl⟩ : ∃ n : Nat, k = n := ⟨k.toNat, by omega⟩
    have e : runAns (n : Int) = (dig n, 0) := by
      unfold runAns
      rw [if_neg h, Int.toNat_natCast]
    rw [e]
    have d0 : decide ((n : Int) < 0) = false := decide_eq_false (by omega)
    have d1 : decide ((2147483647 : Int) < (n : Int)) = false := decide_eq_false (by omega)
    have HT := Lib.hid (ctell_any w w.heap.size (.slice none 0 0) [] n (World.ownsRow_nil _ _ _ _) (by omega) (by simp) (Nat.le_refl _))
    clear h e
    go_enter Try.func8, Try.ntmps8
    go_wp2_with fail
    refine HT.out.mono ?_
    rintro e w1 ⟨v, rfl, ho, hb⟩
    rw [List.nil_append] at ho
    have HO := Lib.hid ho
    have HB := Lib.hid hb
    clear ho hb
    go_wp2_with fail
    go_ret2
    exact ⟨_, rfl, HO.out, HB.out⟩

theorem cenc_out (w : World) (A : Option Addr) (m c : Nat) (n : Int) (h : n < 1 ∨ 256 < n) : Calls Try.prog 12 #[.int .i64 n, .slice A m c] w (ListPost w ([], 2)) := by
  have HM := Lib.hid (cmay_no w n h)
  clear h
  go_enter Try.func12, Try.ntmps12
  go_wp2_with fail
  refine HM.out.mono ?_
  rintro e w1 ⟨rfl, rfl⟩
  go_wp2_with fail
  go_ret2
  exact ⟨_, rfl, World.ownsRow_nil _ _ _ _, Below.refl _ _⟩

theorem enc_step (n r x : Nat) (l : List Nat) (o : List Nat) (h : x ≠ 0) : o ++ encZ n r (x :: l) = (o ++ dig r ++ [x + 1]) ++ encZ n 0 l := by
  rw [enc_more n r x l h]
  simp

set_option maxHeartbeats 1600000 in
set_option maxRecDepth 100000 in
theorem cenc_any (w : World) (A : Option Addr) (m c : Nat) (L : List Int) (n : Nat) (hL : ZIn w A m L) (hmc : m ≤ c) (hm : m ≤ 1100000) (hn : 1 ≤ n) (hn2 : n ≤ 256) : Calls Try.prog 12 #[.int .i64 n, .slice A m c] w (ListPost w (encAns n L)) := by
  obtain ⟨i3, h3, hz0, hz1, hz2⟩ := info_parts Try.info3
  obtain ⟨m1, hm1⟩ : ∃ m1, m1 = m + 1 := ⟨_, rfl⟩
  have hmz : (m : Int) + 1 = (m1 : Int) := by omega
  have hm1b : m1 ≤ 1100001 := by omega
  have hmk : ∀ w1 : World, (Instr.makeSlice 22 (.int .i64 0) (.int .i64 m1)).run Try.prog w1 = .ok (.slice (some ⟨w1.heap.size, 0, none⟩) 0 m1) (w1.alloc (.cells (madeCells #[.int .i64 0] m1) 3)) := by
    intro w1
    have h := run_make (P := Try.prog) w1 22 3 i3 (.int .i64 0) Try.underlying22 h3 hz0 .i64 .i64 (0 : Int) (m1 : Int) (by omega) (by omega) (by rw [hz2]; omega) (by omega)
    rw [hz1, Int.toNat_natCast, Nat.mul_one] at h
    exact h
  have hmk2 := hmk w
  have HM := Lib.hid (cmay_yes w n (by omega) (by omega))
  have HEND := Lib.hid fun w' => cend_any w' n hn2
  have HANS := Lib.hid (show encAns (n : Int) L = if ∀ x ∈ L, 0 ≤ x ∧ x < (n : Int) then (encZ n 0 (L.map Int.toNat), 0) else ([], 60) by unfold encAns; rw [if_neg (by omega), Int.toNat_natCast])
  have HL := Lib.hid hL
  have HTELL := Lib.hid ctell_any
  have hlm := hL.1
  have HLM := Lib.hid hlm
  have HM1 := Lib.hid hm1
  clear hL hlm hmk hm1
  generalize encAns (n : Int) L = ans at *
  go_enter Try.func12, Try.ntmps12
  go_wp2_with fail
  refine HM.out.mono ?_
  rintro e w1 ⟨rfl, rfl⟩
  go_wp2_with fail
  clear hmk2
  go_loopw [6, 7, 19] (fun out r i wx => ∃ (q k : Nat) (o : List Nat), q ≤ m ∧ i = .int .i64 q ∧ r = .int .i64 k ∧ wx.ownsRow w.heap.size 3 1 out o.length (o.map iv) ∧ o.length + k ≤ q ∧ Hid (encZ n 0 (L.map Int.toNat) = o ++ encZ n k ((L.map Int.toNat).drop q)) ∧ Hid (∀ x ∈ L.take q, 0 ≤ x ∧ x < (n : Int)) ∧ Below w.heap.size w wx) (fun _ _ i _ => m - (intOf i).toNat)
  case atStart =>
    have hmm : (madeCells #[.int .i64 0] m1).size = m1 * 1 := by simp [madeCells]
    exact ⟨0, 0, [], Nat.zero_le _, rfl, rfl, World.ownsRow_made w (madeCells #[.int .i64 0] m1) m1 (Nat.le_refl _) (by unfold maxLen; omega) hmm, Nat.le_refl _, by simp [Hid], by simp [Hid], (Below.refl _ _).alloc (Nat.le_refl _) _⟩
  case round =>
    obtain ⟨q, k, o, hq, rfl, rfl, hown, hok, henc, hval, hb⟩ := hrel
    have hz9 := hb.size
    obtain ⟨A0, c0, rfl, hn0, hm0, hA0⟩ := own_slice hown
    clear hA0
    unfold maxLen at hm0
    have HB := Lib.hid hb
    by_cases e : q < m
    · have d2 : decide ((q : Int) < (m : Int)) = true := decide_eq_true (by omega)
      obtain ⟨b, off, rfl, hc⟩ := HL.out.2 (by omega)
      have hcw := hc q e
      have hlt := World.block_lt_of_cell? w _ hcw
      have htk := take_snoc_int L q (by rw [HLM.out]; exact e)
      have hdr := drop_cons_nat L q (by rw [HLM.out]; exact e)
      obtain ⟨x, hx⟩ : ∃ x, x = L.getD q 0 := ⟨_, rfl⟩
      rw [← hx] at hcw htk hdr
      have hcq := (hb.cell (p := ⟨b, off + q, none⟩) hlt).trans hcw
      have HTK := Lib.hid htk
      have HDR := Lib.hid hdr
      have HO := Lib.hid hown
      clear hc hx hcw htk hdr hb hown
      by_cases e1 : 0 ≤ x ∧ x < n
      · obtain ⟨y, rfl⟩ : ∃ y : Nat, x = y := ⟨x.toNat, by omega⟩
        have d3 : decide ((y : Int) < 0) = false := decide_eq_false (by omega)
        have hyn : y < n := by omega
        have hny : ¬ n ≤ y := by omega
        have d4 : decide ((n : Int) ≤ (y : Int)) = false := decide_eq_false (by omega)
        have hval2 : ∀ x ∈ L.take (q + 1), 0 ≤ x ∧ x < (n : Int) := by
          rw [HTK.out]
          intro x hx
          rcases List.mem_append.1 hx with hx | hx
          · exact hval.out x hx
          · rw [List.mem_singleton.1 hx]
            exact e1
        have HV2 := Lib.hid hval2
        clear hval2 e1
        by_cases h0 : y = 0
        · subst h0
          have henc2 : encZ n 0 (L.map Int.toNat) = o ++ encZ n (k + 1) ((L.map Int.toNat).drop (q + 1)) := by
            rw [henc.out, HDR.out, show ((0 : Nat) : Int).toNat = 0 from rfl, enc_zero]
          have HE2 := Lib.hid henc2
          clear henc2
          go_wp2_with fail
          go_roundw
          case rel => exact ⟨q + 1, k + 1, o, by omega, by go_num, by go_num, HO.out, by omega, HE2, HV2, HB.out⟩
          case measure => simp [intOf]; omega
        · have d5 : ((y : Int) == 0) = false := by
            rw [beq_eq_false_iff_ne]
            omega
          have henc2 : encZ n 0 (L.map Int.toNat) = (o ++ dig k ++ [y + 1]) ++ encZ n 0 ((L.map Int.toNat).drop (q + 1)) := by
            rw [henc.out, HDR.out, Int.toNat_natCast, enc_step n k y _ o h0]
          have HE2 := Lib.hid henc2
          have HT := Lib.hid (HTELL.out wr w.heap.size _ o k HO.out (by omega) (by omega) hz9)
          have hdl := dig_le k
          obtain ⟨y1, hy1⟩ : ∃ y1, y1 = y + 1 := ⟨_, rfl⟩
          have hyw : ((y : Int) + 1) = (y1 : Int) := by omega
          have hww : IntKind.i64.wrap (y1 : Int) = (y1 : Int) := by rw [IntKind.wrap_i64]; omega
          have HY1 := Lib.hid hy1
          obtain ⟨o2, ho2⟩ : ∃ o2, o2 = o ++ dig k := ⟨_, rfl⟩
          have hol2 : o2.length ≤ q := by rw [ho2, List.length_append]; omega
          rw [← ho2] at HT HE2
          clear henc2 hy1 ho2 hdl
          go_wp2_with fail
          refine HT.out.mono ?_
          rintro e w3 ⟨v3, rfl, ho3, hb3⟩
          obtain ⟨A3, c3, rfl, hc3, hm3, _⟩ := own_slice ho3
          unfold maxLen at hm3
          have hz3 : w.heap.size ≤ w3.heap.size := Nat.le_trans hz9 hb3.size
          have HB3 := Lib.hid (HB.out.trans hb3)
          obtain ⟨N, hN⟩ : ∃ N, N = o2.length := ⟨_, rfl⟩
          obtain ⟨X, hX⟩ : ∃ X, X = o2.map iv := ⟨_, rfl⟩
          rw [← hN, ← hX] at ho3
          have HO3 := Lib.hid ho3
          have HN := Lib.hid hN
          have HX := Lib.hid hX
          rw [← hN] at hol2 hc3 ⊢
          clear ho3 hb3 hN hX
          go_wp2_with (at_builtin; refine wpList_append_own _ rfl _ _ 22 rfl w.heap.size 3 i3 (.int .i64 0) 1 8 Try.underlying22 h3 hz0 hz1 hz2 rfl (by decide) _ _ _ rfl (HO3.out.alloc _) ⟨w3.heap.size, 0, none⟩ 1 1 [.int .i64 y1] rfl rfl ?c1 ?c2 ?c3 ?c4 ?c5 ?_)
          case c1 => exact cell_one _ _ _
          case c2 => intro u hu; simp at hu; subst hu; rfl
          case c3 => unfold maxLen; omega
          case c4 => omega
          case c5 => simp; omega
          intro v4 w4 hown4 hgrow4 _
          have hb4 : Below w.heap.size w w4 := (HB3.out.alloc hz3 _).grown hgrow4 (by simp; omega) (fun k hk => (HO3.out.lt k hk).1)
          have HO4 := Lib.hid hown4
          have HB4 := Lib.hid hb4
          clear hown4 hgrow4 hb4
          go_wp2_with fail
          go_roundw
          case rel =>
            refine ⟨q + 1, 0, o2 ++ [y + 1], by omega, by go_num, rfl, ?_, by rw [List.length_append, ← HN.out]; show N + 1 + 0 ≤ q + 1; omega, HE2, HV2, HB4.out⟩
            rw [List.length_append, ← HN.out, List.map_append, ← HX.out, ← HY1.out]
            exact HO4.out
          case measure => simp [intOf]; omega
      · have hno : ans = ([], 60) := by
          rw [HANS.out, if_neg]
          intro hall
          have : x ∈ L := by
            have h1 : x ∈ L.take (q + 1) := by rw [HTK.out]; exact List.mem_append_right _ (List.mem_singleton.2 rfl)
            exact List.mem_of_mem_take h1
          exact e1 (hall x this)
        subst hno
        by_cases e2 : x < 0
        · have d3 : decide (x < 0) = true := decide_eq_true e2
          clear e1
          go_wp2_with fail
          go_ret2
          exact ⟨_, rfl, World.ownsRow_nil _ _ _ _, HB.out⟩
        · have d3 : decide (x < 0) = false := decide_eq_false e2
          have e3 : (n : Int) ≤ x := by omega
          have d4 : decide ((n : Int) ≤ x) = true := decide_eq_true e3
          clear e1
          go_wp2_with fail
          go_ret2
          exact ⟨_, rfl, World.ownsRow_nil _ _ _ _, HB.out⟩
    · obtain rfl : q = m := by omega
      have d2 : decide ((q : Int) < (q : Int)) = false := decide_eq_false (by omega)
      have hans : ans = (o ++ dig k ++ [n + 1], 0) := by
        have hv := hval.out
        rw [List.take_of_length_le (Nat.le_of_eq HLM.out)] at hv
        rw [HANS.out, if_pos hv, henc.out, List.drop_of_length_le (by rw [List.length_map, HLM.out]; exact Nat.le_refl _), encZ, List.append_assoc]
      have HO := Lib.hid hown
      have HT := Lib.hid (HTELL.out wr w.heap.size _ o k HO.out (by omega) (by omega) hz9)
      have hdl := dig_le k
      obtain ⟨o2, ho2⟩ : ∃ o2, o2 = o ++ dig k := ⟨_, rfl⟩
      have hol2 : o2.length ≤ q := by rw [ho2, List.length_append]; omega
      rw [← ho2] at HT hans
      have HANS2 := Lib.hid hans
      clear hown hb hans ho2 hdl
      go_wp2_with fail
      refine HT.out.mono ?_
      rintro e w3 ⟨v3, rfl, ho3, hb3⟩
      obtain ⟨A3, c3, rfl, hc3, hm3, _⟩ := own_slice ho3
      unfold maxLen at hm3
      have hz3 : w.heap.size ≤ w3.heap.size := Nat.le_trans hz9 hb3.size
      have HB3 := Lib.hid (HB.out.trans hb3)
      obtain ⟨N, hN⟩ : ∃ N, N = o2.length := ⟨_, rfl⟩
      obtain ⟨X, hX⟩ : ∃ X, X = o2.map iv := ⟨_, rfl⟩
      rw [← hN, ← hX] at ho3
      have HO3 := Lib.hid ho3
      have HN := Lib.hid hN
      have HX := Lib.hid hX
      have HE3 := Lib.hid (HEND.out w3)
      obtain ⟨n1, hn1⟩ : ∃ n1, n1 = n + 1 := ⟨_, rfl⟩
      have hnw : ((n : Int) + 1) = (n1 : Int) := by omega
      rw [hnw] at HE3
      have HN1 := Lib.hid hn1
      rw [← hN] at hol2 hc3 ⊢
      clear ho3 hb3 hN hX hn1
      go_wp2_with fail
      refine HE3.out.mono ?_
      rintro e w3 ⟨rfl, rfl⟩
      go_wp2_with (at_builtin; refine wpList_append_own _ rfl _ _ 22 rfl w.heap.size 3 i3 (.int .i64 0) 1 8 Try.underlying22 h3 hz0 hz1 hz2 rfl (by decide) _ _ _ rfl (HO3.out.alloc _) ⟨_, 0, none⟩ 1 1 [.int .i64 n1] rfl rfl ?c1 ?c2 ?c3 ?c4 ?c5 ?_)
      case c1 => exact cell_one _ _ _
      case c2 => intro u hu; simp at hu; subst hu; rfl
      case c3 => unfold maxLen; omega
      case c4 => omega
      case c5 => simp; omega
      intro v4 w4 hown4 hgrow4 _
      have hb4 : Below w.heap.size w w4 := (HB3.out.alloc hz3 _).grown hgrow4 (by simp; omega) (fun k hk => (HO3.out.lt k hk).1)
      have HO4 := Lib.hid hown4
      have HB4 := Lib.hid hb4
      clear hown4 hgrow4 hb4
      go_wp2_with fail
      go_ret2
      refine ⟨v4, by rw [HANS2.out]; rfl, ?_, HB4.out⟩
      rw [HANS2.out]
      dsimp only
      rw [List.length_append, List.map_append, ← HN.out, ← HX.out, ← HN1.out]
      exact HO4.out

theorem cenc_all (w : World) (A : Option Addr) (m c : Nat) (L : List Int) (n : Int) (hL : ZIn w A m L) (hmc : m ≤ c) (hm : m ≤ 1100000) : Calls Try.prog 12 #[.int .i64 n, .slice A m c] w (ListPost w (encAns n L)) := by
  by_cases h : n < 1 ∨ 256 < n
  · rw [show encAns n L = ([], 2) from if_pos h]
    exact cenc_out w A m c n h
  · obtain ⟨k, rfl⟩ : ∃ k : Nat, n = k := ⟨n.toNat, by omega⟩
    exact cenc_any w A m c L k hL hmc hm (by omega) (by omega)

end Go.Proofs.Ytdlndcjiccfhgaa
