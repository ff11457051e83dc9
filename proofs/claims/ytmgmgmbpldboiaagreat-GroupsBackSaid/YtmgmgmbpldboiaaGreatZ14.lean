/- Tc Um Un: texts laid together, what is not used left out. -/
import Derived.Test.YtmgmgmbpldboiaaGreatZ13
import Derived.OwnWalk
import Derived.Test.YtmgmgmbpldboiaaGreatZ12
namespace Go.Proofs.YtmgmgmbpldboiaaGreat
open Go.RowKit

/-- Bits as a text and their number, and an error. -/
def BitsPost (w : World) (ans : List Nat × Nat) (e : Ending) (w' : World) : Prop := e = .returned (.tuple #[.agg #[.string ⟨(pack ans.1).toArray⟩, .int .i64 ans.1.length], .int .i64 ans.2]) ∧ Below w.heap.size w w'
theorem nl_in {L : List Int} (h : DOk L) : ∀ x ∈ nl L, 1 ≤ x ∧ x ≤ 20 := by
  intro x hx
  obtain ⟨y, hy, rfl⟩ := List.mem_map.1 hx
  have := h.2.2 y hy
  omega
theorem show_short (L : List Int) : (showAns L).1.length ≤ 11000 := by
  unfold showAns
  split
  · rename_i h
    have hn := nl_in h
    have h1 := showD_length (nl L)
    have h2 := first_in (l := nl L) (by rw [nl_length]; have := h.1; omega) hn
    have h3 := sizeD_le (nl L) ((nl L).getD 0 0) h2.2 fun x hx => (hn x hx).2
    rw [nl_length] at h1 h3
    have := h.2.1
    show (showD (nl L)).length ≤ 11000
    omega
  · exact Nat.zero_le _
/-- Lengths in a slice of the call's own, a place, and an error. -/
def AllPost (w : World) (ans : List Nat × Nat × Nat) (e : Ending) (w' : World) : Prop := ∃ v, e = .returned (.tuple #[v, .int .i64 ans.2.1, .int .i64 ans.2.2]) ∧ w'.ownsRow w.heap.size 3 1 v ans.1.length (ans.1.map iv) ∧ Below w.heap.size w w'
theorem drop_nat {L : List Nat} {p : Nat} (h : p < L.length) : L.drop p = L.getD p 0 :: L.drop (p + 1) := by
  rw [List.drop_eq_getElem_cons h, List.getD_eq_getElem?_getD, List.getElem?_eq_getElem h]
  rfl
set_option maxRecDepth 100000 in
theorem ints_piece {w : World} {b off m k a : Nat} {L : List Nat} (h : IntsIn w (some ⟨b, off, none⟩) m L) (hak : a + k ≤ m) (n : Nat) (hn : n = k) : IntsIn w (some ⟨b, off + a, none⟩) n ((L.drop a).take k) := by
  subst hn
  have := h.cut (a := a) (k := n) hak
  simp only [Option.map_some, Addr.add_lit] at this
  exact this

set_option maxHeartbeats 3200000 in
set_option maxRecDepth 100000 in
theorem rtake_any (w : World) (A : Option Addr) (m c : Nat) (bits : List Nat) (a0 k : Nat) (hb : IntsIn w A m bits) (hmc : m ≤ c) (hm : m ≤ 1000000) (h01 : Bit01 bits) (ha : a0 ≤ m) (hk2 : 2 ≤ k) (hk : k ≤ 258) :
    Calls Tryz.prog 56 #[.slice A m c, .int .i64 a0, .int .i64 k] w (AllPost w (takeAns bits a0 k)) := by
  obtain ⟨i3, h3, hz0, hz1, hz2⟩ := info_parts Tryz.info3
  have hbl := hb.1
  have HP : Hid (∀ (v : Value) (a : List Nat × Nat × Nat) (w' : World), takeAns bits a0 k = a → w'.ownsRow w.heap.size 3 1 v a.1.length (a.1.map iv) → Below w.heap.size w w' → AllPost w (takeAns bits a0 k) (.returned (.tuple #[v, .int .i64 a.2.1, .int .i64 a.2.2])) w') := Lib.hid fun v a w' h1 h2 h3 => ⟨v, by rw [h1], by rw [h1]; exact h2, h3⟩
  have hans : takeAns bits a0 k = if m < a0 + 5 then ([], 0, 10) else takeF (bits.drop (a0 + 5)) (val ((bits.drop a0).take 5)) k (a0 + 5) [] := by
    rw [takeAns, if_neg (by omega), Int.toNat_natCast, Int.toNat_natCast, hbl]
  have d0 : decide ((a0 : Int) < 0) = false := decide_eq_false (by omega)
  have d1 : decide ((m : Int) < (a0 : Int)) = false := decide_eq_false (by omega)
  have d2 : decide ((k : Int) < 2) = false := decide_eq_false (by omega)
  have d3 : decide ((258 : Int) < (k : Int)) = false := decide_eq_false (by omega)
  generalize AllPost w (takeAns bits a0 k) = PO at *
  generalize takeAns bits a0 k = ans at *
  have HBI := Lib.hid hb
  have HBL := Lib.hid hbl
  have H01 := Lib.hid h01
  have HNUM := Lib.hid number_any
  clear hb hbl h01
  by_cases h5 : m < a0 + 5
  · rw [if_pos h5] at hans
    have d4 : decide ((m : Int) - (a0 : Int) < 5) = true := decide_eq_true (by omega)
    have HPE := Lib.hid (HP.out (.slice none 0 0) _ w hans (World.ownsRow_nil _ _ _ _) (Below.refl _ _))
    clear hans
    go_enter Tryz.func56, Tryz.ntmps56
    go_wp2_with fail
    first | exact HPE.out | (go_ret3; exact HPE.out)
  · rw [if_neg h5] at hans
    have d4 : decide ((m : Int) - (a0 : Int) < 5) = false := decide_eq_false (by omega)
    obtain ⟨b, off, rfl, hcells⟩ := HBI.out.2 (by omega)
    obtain ⟨p5, hp5⟩ : ∃ p5, p5 = a0 + 5 := ⟨_, rfl⟩
    have hp5z : (a0 : Int) + 5 = (p5 : Int) := by omega
    have hca : ¬ c = a0 := by omega
    have hap : (a0 : Int) ≤ (p5 : Int) := by omega
    have hpc : (p5 : Int) ≤ (c : Int) := by omega
    have hp5m : p5 ≤ m := by omega
    rw [← hp5] at hans
    have hvl : val ((bits.drop a0).take 5) < 32 := by
      have h := val_lt _ ((H01.out.drop a0).take 5)
      have h6 : ((bits.drop a0).take 5).length = 5 := by rw [List.length_take, List.length_drop, HBL.out]; omega
      rw [h6] at h
      exact h
    have HNU := Lib.hid fun (w1 : World) (h : w1 = w) (q c' : Nat) (hq : q = 5) => HNUM.out w1 (some ⟨b, off + a0, none⟩) q c' ((bits.drop a0).take 5) (h ▸ ints_piece HBI.out (by omega) q hq) ((H01.out.drop a0).take 5) (by omega)
    obtain ⟨now0, hnow⟩ : ∃ now0, now0 = val ((bits.drop a0).take 5) := ⟨_, rfl⟩
    rw [← hnow] at HNU hans hvl
    have HANS := Lib.hid hans
    have HCELL := Lib.hid hcells
    have HP5 := Lib.hid hp5
    clear hans hcells hnow h5 hp5
    go_enter Tryz.func56, Tryz.ntmps56
    go_wp2_with fail
    refine (HNU.out _ rfl _ _ (by have := HP5.out; omega)).mono ?_
    rintro e w ⟨rfl, rfl⟩
    go_wp2_with fail
    go_loopw [1, 9, 10] (fun av nv out wx => ∃ (p now : Nat) (o : List Nat), av = .int .i64 p ∧ p ≤ m ∧ nv = .int .i64 now ∧ now ≤ 40 ∧ o.length ≤ k ∧ Hid (ans = takeF (bits.drop p) now (k - o.length) p o) ∧ wx.ownsRow w.heap.size 3 1 out o.length (o.map iv) ∧ Below w.heap.size w wx) (fun av _ _ _ => m - (intOf av).toNat)
    case atStart => exact ⟨p5, now0, [], rfl, hp5m, rfl, by omega, Nat.zero_le _, HANS, World.ownsRow_nil _ _ _ _, Below.refl _ _⟩
    case round =>
      obtain ⟨p, now, o, rfl, hp, rfl, hnow, hol, hrel2, hown, hb⟩ := hrel
      have hz9 := hb.size
      obtain ⟨A0, c5, rfl, hn0, hm0, _⟩ := own_slice hown
      unfold maxLen at hm0
      have HB := Lib.hid hb
      have HO := Lib.hid hown
      obtain ⟨N, hN⟩ : ∃ N, N = o.length := ⟨_, rfl⟩
      have HN := Lib.hid hN
      have hstep := hrel2.out
      rw [← hN] at hol hn0 hstep ⊢
      by_cases e : N < k
      · have d5 : decide ((N : Int) < (k : Int)) = true := decide_eq_true (by omega)
        rw [show k - N = (k - N - 1) + 1 by omega] at hstep
        by_cases ebad : now < 1 ∨ 20 < now
        · rw [takeF_bad _ _ _ _ _ ebad] at hstep
          have HPE := Lib.hid (HP.out (.slice none 0 0) _ wr hstep (World.ownsRow_nil _ _ _ _) HB.out)
          clear hstep hrel2 hown hb hN HP HANS
          by_cases e1 : now < 1
          · have d6 : decide ((now : Int) < 1) = true := decide_eq_true (by omega)
            clear ebad
            go_wp2_with fail
            first | exact HPE.out | (go_ret3; exact HPE.out)
          · have d6 : decide ((now : Int) < 1) = false := decide_eq_false (by omega)
            have d7 : decide ((20 : Int) < (now : Int)) = true := decide_eq_true (by omega)
            clear ebad
            go_wp2_with fail
            first | exact HPE.out | (go_ret3; exact HPE.out)
        · have d6 : decide ((now : Int) < 1) = false := decide_eq_false (by omega)
          have d7 : decide ((20 : Int) < (now : Int)) = false := decide_eq_false (by omega)
          by_cases epm : p = m
          · have d8 : ((p : Int) == (m : Int)) = true := by rw [epm]; exact beq_self_eq_true _
            rw [epm, List.drop_of_length_le (Nat.le_of_eq HBL.out), takeF_nil _ _ _ _ ebad] at hstep
            have HPE := Lib.hid (HP.out (.slice none 0 0) _ wr hstep (World.ownsRow_nil _ _ _ _) HB.out)
            clear hstep hrel2 hown hb hN HP HANS ebad epm
            go_wp2_with fail
            first | exact HPE.out | (go_ret3; exact HPE.out)
          · have d8 : ((p : Int) == (m : Int)) = false := by
              rw [beq_eq_false_iff_ne]
              omega
            have hpm : p < m := by omega
            have hlt0 : b < w.heap.size := World.block_lt_of_cell? w _ (HCELL.out p hpm)
            have q1 : wr.cell? ⟨b, off + p, none⟩ = some (.int .i64 (bits.getD p 0 : Nat)) := (HB.out.cell (p := ⟨b, off + p, none⟩) hlt0).trans (HCELL.out p hpm)
            rw [drop_nat (by rw [HBL.out]; exact hpm)] at hstep
            obtain ⟨x, hx⟩ : ∃ x, x = bits.getD p 0 := ⟨_, rfl⟩
            rw [← hx] at q1 hstep
            clear hx epm
            by_cases ex : x = 0
            · subst ex
              rw [takeF_zero _ _ _ _ _ ebad] at hstep
              have HST := Lib.hid hstep
              obtain ⟨X, hX⟩ : ∃ X, X = o.map iv := ⟨_, rfl⟩
              rw [← hX, ← hN] at HO
              have HX := Lib.hid hX
              have hnow1 : 1 ≤ now := by omega
              clear hstep hrel2 hown hb hN hX ebad
              go_wp2_with (at_builtin; refine wpList_append_own _ rfl _ _ 22 rfl w.heap.size 3 i3 (.int .i64 0) 1 8 Tryz.underlying22 h3 hz0 hz1 hz2 rfl (by decide) _ _ _ rfl (HO.out.alloc _) ⟨wr.heap.size, 0, none⟩ 1 1 [.int .i64 now] rfl rfl ?c1 ?c2 ?c3 ?c4 ?c5 ?_)
              case c1 => exact cell_one _ _ _
              case c2 => intro u hu; simp at hu; subst hu; rfl
              case c3 => unfold maxLen; omega
              case c4 => omega
              case c5 => simp; omega
              intro v6 w6 hown6 hgrow6 _
              have hb6 : Below w.heap.size w w6 := (HB.out.alloc hz9 _).grown hgrow6 (by simp; omega) (fun k hk => (HO.out.lt k hk).1)
              have HO6 := Lib.hid hown6
              have HB6 := Lib.hid hb6
              clear hown6 hgrow6 hb6
              go_wp2_with fail
              go_roundw
              case rel =>
                refine ⟨p + 1, now, o ++ [now], by go_num, by omega, rfl, hnow, by rw [List.length_append, ← HN.out]; show N + 1 ≤ k; omega, Lib.hid ?_, ?_, HB6.out⟩
                · rw [List.length_append, ← HN.out, show k - (N + [now].length) = k - N - 1 by simp; omega]
                  exact HST.out
                · rw [List.length_append, ← HN.out, List.map_append, ← HX.out]
                  exact HO6.out
              case measure => simp [intOf]; omega
            · have d9 : ((x : Int) == 0) = false := by
                rw [beq_eq_false_iff_ne]
                omega
              obtain ⟨p1, hp1⟩ : ∃ p1, p1 = p + 1 := ⟨_, rfl⟩
              have hp1z : (p : Int) + 1 = (p1 : Int) := by omega
              by_cases ep1 : p1 = m
              · have d10 : ((p1 : Int) == (m : Int)) = true := by rw [ep1]; exact beq_self_eq_true _
                rw [← hp1, ep1, List.drop_of_length_le (Nat.le_of_eq HBL.out), takeF_one _ _ _ _ _ ebad ex] at hstep
                have HPE := Lib.hid (HP.out (.slice none 0 0) _ wr hstep (World.ownsRow_nil _ _ _ _) HB.out)
                clear hstep hrel2 hown hb hN HP HANS ebad ep1 hp1 ex
                go_wp2_with fail
                first | exact HPE.out | (go_ret3; exact HPE.out)
              · have d10 : ((p1 : Int) == (m : Int)) = false := by
                  rw [beq_eq_false_iff_ne]
                  omega
                have hp1m : p1 < m := by omega
                have q2 : wr.cell? ⟨b, off + p1, none⟩ = some (.int .i64 (bits.getD p1 0 : Nat)) := (HB.out.cell (p := ⟨b, off + p1, none⟩) hlt0).trans (HCELL.out p1 hp1m)
                rw [← hp1, drop_nat (by rw [HBL.out]; exact hp1m)] at hstep
                obtain ⟨y, hy⟩ : ∃ y, y = bits.getD p1 0 := ⟨_, rfl⟩
                rw [← hy] at q2 hstep
                rw [takeF_step _ _ _ _ _ _ _ ebad ex, show p + 2 = p1 + 1 by omega] at hstep
                have hp1b : p1 = p + 1 := hp1
                have HP1 := Lib.hid hp1
                have hnow1 : 1 ≤ now := by omega
                have hnow20 : now ≤ 20 := by omega
                by_cases ey : y = 0
                · subst ey
                  rw [if_pos rfl] at hstep
                  have HST := Lib.hid hstep
                  have hp2z : (p : Int) + 2 = ((p1 + 1 : Nat) : Int) := by omega
                  clear hstep hrel2 hown hb hN ebad ep1 hp1 hp1b ex hy
                  go_wp2_with fail
                  go_roundw
                  case rel => exact ⟨p1 + 1, now + 1, o, by first | go_num | (have := HP1.out; simp; omega), by omega, by go_num, by omega, by rw [← HN.out]; exact hol, Lib.hid (by rw [← HN.out, show k - N = k - N - 1 + 1 by omega]; exact HST.out), by rw [HN.out]; exact HO.out, HB.out⟩
                  case measure => have := HP1.out; simp [intOf]; omega
                · have d11 : ((y : Int) == 0) = false := by
                    rw [beq_eq_false_iff_ne]
                    omega
                  rw [if_neg ey] at hstep
                  obtain ⟨now1, hnw1⟩ : ∃ now1, now1 = now - 1 := ⟨_, rfl⟩
                  have hnwz : (now : Int) - 1 = (now1 : Int) := by omega
                  rw [← hnw1] at hstep
                  have hnw40 : now1 ≤ 40 := by omega
                  have HST := Lib.hid hstep
                  clear hstep hrel2 hown hb hN ebad ep1 hp1 hp1b ex hy ey hnw1 hnow1
                  go_wp2_with fail
                  go_roundw
                  case rel => exact ⟨p1 + 1, now1, o, by first | go_num | (have := HP1.out; simp; omega), by omega, by go_num, hnw40, by rw [← HN.out]; exact hol, Lib.hid (by rw [← HN.out, show k - N = k - N - 1 + 1 by omega]; exact HST.out), by rw [HN.out]; exact HO.out, HB.out⟩
                  case measure => have := HP1.out; simp [intOf]; omega
      · have d5 : decide ((N : Int) < (k : Int)) = false := decide_eq_false (by omega)
        rw [show k - N = 0 by omega, takeF_done] at hstep
        have hpe := HP.out (.slice A0 o.length c5) (o, p, 0) wr hstep HO.out HB.out
        rw [← hN] at hpe
        have HPE := Lib.hid hpe
        clear hstep hpe hrel2 hown hb hN HP HANS
        go_wp2_with fail
        first | exact HPE.out | (go_ret3; exact HPE.out)

end Go.Proofs.YtmgmgmbpldboiaaGreat
namespace Go.Proofs.YtmgmgmbpldboiaaGreat
open Go.RowKit

/-- What Bits answers. -/
def bitsG (T : List (List Int)) (P : List Int) : List Nat × Nat := if MayPlan T P then (planB (T.map nl) (nl P), 0) else ([], 110)
theorem lenOk_dOk {L : List Int} (h : LenOk L) : DOk L := ⟨h.1, h.2.1, h.2.2.1⟩
theorem order_row (w : World) (B : Nat) (hB : B ≤ w.heap.size) : (w.alloc (.cells #[.int .i64 0, .int .i64 1, .int .i64 2, .int .i64 3, .int .i64 4, .int .i64 5] 3)).ownsRow B 3 1 (.slice (some ⟨w.heap.size, 0, none⟩) 6 6) 6 (([0, 1, 2, 3, 4, 5] : List Nat).map iv) :=
  ⟨rfl, .inr ⟨w.heap.size, 6, _, rfl, hB, heap_alloc_new w _, Nat.le_refl _, by unfold maxLen; omega, rfl, rfl⟩⟩

set_option maxHeartbeats 3200000 in
set_option maxRecDepth 100000 in
theorem rbitsg_no (w : World) (v : Value) (T : List (List Int)) (P : List Int) (h : PlanIn w v T P) (hM : ¬ MayPlan T P) :
    Calls Tryz.prog 64 #[v] w (ListPost w (bitsG T P)) := by
  obtain ⟨A, n, c, B, m, d, rfl, hT, hnc, hn, hP, hmd, hm⟩ := h
  have hb1 : Below w.heap.size w (w.alloc (.cells #[.slice A n c, .slice B m d] 26)) := (Below.refl _ _).alloc (Nat.le_refl _) _
  have hr1 := blk_new w 26 #[.slice A n c, .slice B m d]
  have q0 : (w.alloc (.cells #[.slice A n c, .slice B m d] 26)).cell? ⟨w.heap.size, 0, none⟩ = some (.slice A n c) := (blk_cell hr1 0).trans rfl
  have q1 : (w.alloc (.cells #[.slice A n c, .slice B m d] 26)).cell? ⟨w.heap.size, 1, none⟩ = some (.slice B m d) := (blk_cell hr1 1).trans rfl
  have HMAY := Lib.hid (rmay_any _ _ T P (PlanIn.below ⟨A, n, c, B, m, d, rfl, hT, hnc, hn, hP, hmd, hm⟩ hb1))
  rw [show decide (MayPlan T P) = false from decide_eq_false hM] at HMAY
  have HPE : Hid (∀ w', Below w.heap.size w w' → ListPost w (bitsG T P) (.returned (.tuple #[.slice none 0 0, .int .i64 110])) w') := Lib.hid fun w' hb => by
    rw [show bitsG T P = ([], 110) from if_neg hM]
    exact ⟨_, rfl, World.ownsRow_nil _ _ _ _, hb⟩
  have HB1 := Lib.hid hb1
  generalize ListPost w (bitsG T P) = PO at *
  clear hb1 hr1 hT hnc hn hP hmd hm hM
  go_enter Tryz.func64, Tryz.ntmps64
  go_wp2_with fail
  refine HMAY.out.mono ?_
  rintro e w2 ⟨rfl, hb2⟩
  have HB2 := Lib.hid (HB1.out.trans (hb2.mono HB1.out.size))
  clear hb2 HB1
  go_wp2_with fail
  first | exact HPE.out _ HB2.out | (go_ret2; exact HPE.out _ HB2.out)

set_option maxHeartbeats 3200000 in
set_option maxRecDepth 100000 in
theorem rbitsg_yes (w : World) (v : Value) (T : List (List Int)) (P : List Int) (h : PlanIn w v T P) (hM : MayPlan T P) :
    Calls Tryz.prog 64 #[v] w (ListPost w (bitsG T P)) := by
  obtain ⟨A, n, c, B, m, d, rfl, hT, hnc, hn, hP, hmd, hm⟩ := h
  have hTn := hT.1
  have hPn := hP.1
  obtain ⟨w1, hw1⟩ : ∃ w1, w1 = w.alloc (.cells #[.slice A n c, .slice B m d] 26) := ⟨_, rfl⟩
  have hr1 : Blk w1 w.heap.size 26 #[.slice A n c, .slice B m d] := by rw [hw1]; exact blk_new w _ _
  have hb1 : Below w.heap.size w w1 := by rw [hw1]; exact (Below.refl _ _).alloc (Nat.le_refl _) _
  have hz1 : w.heap.size < w1.heap.size := blk_lt hr1
  have q0 : w1.cell? ⟨w.heap.size, 0, none⟩ = some (.slice A n c) := (blk_cell hr1 0).trans rfl
  have q1 : w1.cell? ⟨w.heap.size, 1, none⟩ = some (.slice B m d) := (blk_cell hr1 1).trans rfl
  have HQ : Hid (∀ wx, Below w1.heap.size w1 wx → wx.cell? ⟨w.heap.size, 0, none⟩ = some (.slice A n c) ∧ wx.cell? ⟨w.heap.size, 1, none⟩ = some (.slice B m d)) := Lib.hid fun wx h =>
    ⟨(h.cell (p := ⟨w.heap.size, 0, none⟩) hz1).trans q0, (h.cell (p := ⟨w.heap.size, 1, none⟩) hz1).trans q1⟩
  have HMAY := Lib.hid (rmay_any w1 _ T P (PlanIn.below ⟨A, n, c, B, m, d, rfl, hT, hnc, hn, hP, hmd, hm⟩ hb1))
  rw [show decide (MayPlan T P) = true from decide_eq_true hM] at HMAY
  obtain ⟨pn, hpn⟩ : ∃ pn, pn = nl P := ⟨_, rfl⟩
  obtain ⟨H, hH⟩ : ∃ H, H = bitsN n 3 ++ bitsN m 15 ++ putPicks [0, 1, 2, 3, 4, 5] pn := ⟨_, rfl⟩
  have hans : bitsG T P = (H ++ (T.map nl).flatMap showD, 0) := by
    unfold bitsG
    rw [if_pos hM, hH, hpn]
    unfold planB
    rw [List.length_map, hTn, nl_length, hPn]
  have hmn := hM
  obtain ⟨hn2, hn6, hm1, hm2, hTs, hPs, _⟩ := hmn
  rw [hTn] at hn2 hn6 hPs
  rw [hPn] at hm1 hm2
  have hin : IntsIn w1 B m pn := by rw [hpn]; exact ints_of_zin (hP.below hb1) fun x hx => (hPs x hx).1
  have hpl : ∀ x ∈ pn, x < n := by
    intro x hx
    rw [hpn] at hx
    obtain ⟨y, hy, rfl⟩ := List.mem_map.1 hx
    have := hPs y hy
    omega
  have HPO : Hid (∀ (v : Value) (R : List Nat) w', R = H ++ (T.map nl).flatMap showD → w'.ownsRow w1.heap.size 3 1 v R.length (R.map iv) → Below w1.heap.size w1 w' → ListPost w (bitsG T P) (.returned (.tuple #[v, .int .i64 0])) w') := Lib.hid fun v R w' h1 h2 h3 => by
    rw [hans, ← h1]
    exact ⟨v, rfl, World.ownsRow.mono h2 (Nat.le_of_lt hz1), hb1.trans (h3.mono (Nat.le_of_lt hz1))⟩
  have HT := Lib.hid (hT.below hb1)
  have HIN := Lib.hid hin
  have HPL := Lib.hid hpl
  have HTS := Lib.hid hTs
  have HTN := Lib.hid hTn
  have HPN : Hid (pn.length = m) := Lib.hid hin.1
  have HH := Lib.hid hH
  have HLOW : Hid (Low n [0, 1, 2, 3, 4, 5]) := Lib.hid (low_six hn6)
  have HBI3 := Lib.hid fun (wx : World) => rbits_any wx n 3 (by omega) (by omega)
  have HBI15 := Lib.hid fun (wx : World) => rbits_any wx m 15 (by omega) (by omega)
  generalize ListPost w (bitsG T P) = PO at *
  rw [hw1] at q0 q1
  clear hT hP hTn hPn hin hpl hTs hPs hH hpn hans hM hnc hn hmd hm hr1 hb1 hn2
  go_enter Tryz.func64, Tryz.ntmps64
  go_wp2_with fail
  rw [← hw1]
  clear q0 q1 hw1
  refine HMAY.out.mono ?_
  rintro e w2 ⟨rfl, hb2⟩
  have hp2 := HQ.out _ hb2
  obtain ⟨p0, p1⟩ := hp2
  have HB2 := Lib.hid hb2
  clear hb2 HMAY
  go_wp2_with fail
  refine (HBI3.out _).mono ?_
  rintro e w3 ⟨g3, c3, rfl, ho3, hb3⟩
  have hb13 := HB2.out.trans (hb3.mono HB2.out.size)
  have hp3 := HQ.out _ hb13
  clear p0 p1
  obtain ⟨p0, p1⟩ := hp3
  have HB3 := Lib.hid hb13
  have HO3 := Lib.hid ho3
  clear hb3 hb13 ho3 HBI3
  go_wp2_with fail
  refine (HBI15.out _).mono ?_
  rintro e w4 ⟨g4, c4, rfl, ho4, hb4⟩
  have hb14 := HB3.out.trans (hb4.mono HB3.out.size)
  have hp4 := HQ.out _ hb14
  clear p0 p1
  obtain ⟨p0, p1⟩ := hp4
  have hi4 := ints_of_own ho4
  have hz4 := hb14.size
  obtain ⟨v5, w5, hr5, ho5, hg5⟩ := append_ints w4 w1.heap.size _ 3 _ (World.ownsRow.mono (row_low HO3.out hb4) HB2.out.size) (some ⟨g4, 0, none⟩) 15 c4 _ hi4 (by omega) hz4
  have hb15 : Below w1.heap.size w1 w5 := hb14.grown hg5 hz4 (fun k hk => (World.ownsRow.lt (World.ownsRow.mono (row_low HO3.out hb4) HB2.out.size) k hk).1)
  obtain ⟨A5, c5, rfl, hc5, hm5, _⟩ := own_slice ho5
  have HB5 := Lib.hid hb15
  have HO5 := Lib.hid ho5
  have HR5 := Lib.hid hr5
  clear hb4 hb14 ho4 hi4 hg5 hb15 ho5 HBI15 HO3 hr5
  go_wp2_with (at_builtin; refine Lib.wpList_append_run _ rfl (.tmp 33) (.tmp 34) 22 22 rfl (.slice (some ⟨g3, 0, none⟩) 3 c3) (.slice (some ⟨g4, 0, none⟩) 15 c4) rfl rfl _ _ HR5.out ?_)
  clear HR5 p0 p1
  have hoo : OutOrd w1 (w5.alloc (.cells #[.int .i64 0, .int .i64 1, .int .i64 2, .int .i64 3, .int .i64 4, .int .i64 5] 3)) (.slice A5 18 c5) (bitsN n 3 ++ bitsN m 15) w5.heap.size 6 [0, 1, 2, 3, 4, 5] := by
    refine ⟨?_, order_row w5 _ HB5.out.size, fun e => ?_, HB5.out.alloc HB5.out.size _⟩
    · have h2 := HO5.out.alloc (.cells #[.int .i64 0, .int .i64 1, .int .i64 2, .int .i64 3, .int .i64 4, .int .i64 5] 3)
      rw [← List.map_append] at h2
      rw [List.length_append, bitsN_length, bitsN_length]
      exact h2
    · have := (World.ownsRow.lt HO5.out _ e).2
      omega
  generalize w5.alloc (.cells #[.int .i64 0, .int .i64 1, .int .i64 2, .int .i64 3, .int .i64 4, .int .i64 5] 3) = w6 at *
  have HOO := Lib.hid hoo
  clear hoo HO5 HB2 HB3
  go_loopw [4, 8, 9, 10] (fun ov rv iv' s10 wx => ∃ (q : Nat) (X o : List Nat) (g c : Nat), q ≤ m ∧ iv' = .int .i64 q ∧ rv = .slice (some ⟨g, 0, none⟩) 6 c ∧ OutOrd w1 wx ov X g c o ∧ Hid (X ++ putPicks o (pn.drop q) = H) ∧ X.length ≤ 18 + 6 * q ∧ Hid (Low n o)) (fun _ _ iv' _ _ => m - (intOf iv').toNat)
  case atStart => exact ⟨0, _, _, _, _, Nat.zero_le _, rfl, rfl, HOO.out, Lib.hid HH.out.symm, by rw [List.length_append, bitsN_length, bitsN_length]; omega, HLOW⟩
  case round =>
    clear HOO
    obtain ⟨q, X, o, g, c2, hq, rfl, rfl, hoo, hX, hXl, hlow⟩ := hrel
    have HOO := Lib.hid hoo
    obtain ⟨p0, p1⟩ := HQ.out _ hoo.below
    obtain ⟨A7, c7, rfl, _, _, _⟩ := own_slice hoo.out
    by_cases e : q < m
    · have d0 : decide ((q : Int) < (m : Int)) = true := decide_eq_true (by omega)
      have hqI : (0 : Int) ≤ (q : Int) := by omega
      have hqm : (q : Int) < (m : Int) := by omega
      obtain ⟨b, off, rfl, hc⟩ := HIN.out.2 (by omega)
      have hcx := hc q e
      have hltx := World.block_lt_of_cell? w1 _ hcx
      have hmem := HPL.out _ (nat_mem (L := pn) (j := q) (by rw [HPN.out]; exact e))
      have hdr := drop_nat (L := pn) (p := q) (by rw [HPN.out]; exact e)
      obtain ⟨x, hx⟩ : ∃ x, x = pn.getD q 0 := ⟨_, rfl⟩
      rw [← hx] at hcx hmem hdr
      have hkk := hlow.out.2 x hmem
      have hgk := (place_lt o x hkk.2).2
      have hoth := place_other o x
      have hlow2 := hlow.out.move hmem
      have hX2 := hX.out
      rw [hdr, place_head] at hX2
      obtain ⟨k, hk⟩ : ∃ k, k = placeOf o x := ⟨_, rfl⟩
      rw [← hk] at hkk hgk hoth hlow2 hX2
      have hk6 : k < 6 := by omega
      have HX2 : Hid ((X ++ List.replicate k 1 ++ [0]) ++ putPicks (moveF o k) (pn.drop (q + 1)) = H) := Lib.hid (by rw [← hX2]; simp)
      have HOTH := Lib.hid hoth
      have HGK := Lib.hid hgk
      have HLOW2 := Lib.hid hlow2
      have HCX := Lib.hid fun (wx : World) (h : Below w1.heap.size w1 wx) => (h.cell (p := ⟨b, off + q, none⟩) hltx).trans hcx
      clear hc hcx hltx hx hdr hkk hgk hoth hlow2 hX2 hk hX hlow hoo HH
      go_wp2_with fail
      go_loopw [4, 10] (fun ov jv wx => ∃ j : Nat, j ≤ k ∧ jv = .int .i64 j ∧ OutOrd w1 wx ov (X ++ List.replicate j 1) g c2 o) (fun _ jv _ => k - (intOf jv).toNat)
      case atStart => exact ⟨0, Nat.zero_le _, rfl, by simpa using HOO.out⟩
      case round =>
        clear HOO p0 p1
        obtain ⟨j, hj, rfl, hoo⟩ := hrel
        obtain ⟨p0, p1⟩ := HQ.out _ hoo.below
        have qx := HCX.out _ hoo.below
        have qo := hoo.cell j (by omega)
        obtain ⟨A8, c8, rfl, _, _, _⟩ := own_slice hoo.out
        obtain ⟨X8, hX8⟩ : ∃ X8, X8 = X ++ List.replicate j 1 := ⟨_, rfl⟩
        rw [← hX8] at hoo ⊢
        obtain ⟨N, hN⟩ : ∃ N, N = X8.length := ⟨_, rfl⟩
        have hN2 : N ≤ 18 + 6 * q + j := by rw [hN, hX8, List.length_append, List.length_replicate]; omega
        have HN := Lib.hid hN
        have HX8 := Lib.hid hX8
        rw [← hN] at hoo ⊢
        obtain ⟨y, hy⟩ : ∃ y, y = o.getD j 0 := ⟨_, rfl⟩
        rw [← hy] at qo
        have HOO := Lib.hid hoo
        have hjI : (0 : Int) ≤ (j : Int) := by omega
        have hj6 : (j : Int) < 6 := by omega
        by_cases ej : j < k
        · have d1 : ((y : Int) != (x : Int)) = true := by
            rw [bne_iff_ne]
            have := HOTH.out j ej
            rw [← hy] at this
            omega
          clear hN hX8 hy hoo
          go_wp2_with fail
          go_quiet (fail)
          obtain ⟨A9, c9, w9, hr9, hoo9⟩ := (HOO.out.drewN nq).push 1 HN.out.symm (by omega)
          have HOO9 := Lib.hid hoo9
          have HR9 := Lib.hid hr9
          clear hoo9 hr9
          go_wp2_with (at_builtin; refine Lib.wpList_append_run _ rfl (.tmp 54) (.tmp 55) 22 22 rfl (.slice A8 N c8) (.slice (some ⟨wr.heap.size, 0, none⟩) 1 1) rfl rfl _ _ HR9.out ?_)
          go_roundw
          case rel =>
            refine ⟨j + 1, by omega, by go_num, ?_⟩
            rw [List.replicate_succ', ← List.append_assoc, ← HX8.out]
            exact HOO9.out
          case measure => simp [intOf]; omega
        · obtain rfl : j = k := by omega
          have d1 : ((y : Int) != (x : Int)) = false := by
            rw [hy, HGK.out]
            simp
          have HTU := Lib.hid fun (wx : World) (h : IntsIn wx (some ⟨g, 0, none⟩) 6 o) => rturned_any wx (some ⟨g, 0, none⟩) 6 c2 o j h (by omega) hk6
          clear hN hX8 hy hoo
          go_wp2_with fail
          go_quiet (fail)
          obtain ⟨A9, c9, w9, hr9, hoo9⟩ := (HOO.out.drewN nq).push 0 HN.out.symm (by omega)
          have HOO9 := Lib.hid hoo9
          have HI9 := Lib.hid (ints_of_own hoo9.ord)
          have HR9 := Lib.hid hr9
          clear hoo9 hr9
          go_wp2_with (at_builtin; refine Lib.wpList_append_run _ rfl (.tmp 59) (.tmp 60) 22 22 rfl (.slice A8 N c8) (.slice (some ⟨wr.heap.size, 0, none⟩) 1 1) rfl rfl _ _ HR9.out ?_)
          clear HR9
          refine (HTU.out _ HI9.out).mono ?_
          rintro e w10 ⟨v10, rfl, ho10, hb10⟩
          obtain ⟨g10, c10, rfl, hoo10⟩ := HOO9.out.turn hb10 ho10
          have HOO10 := Lib.hid hoo10
          clear ho10 hb10 hoo10
          go_wp2_with fail
          go_roundw
          case rel =>
            refine ⟨q + 1, X8 ++ [0], moveF o j, g10, c10, by omega, by go_num, rfl, HOO10.out, ?_, ?_, HLOW2⟩
            · rw [HX8.out]
              exact HX2
            · rw [List.length_append, ← HN.out]
              show N + 1 ≤ _
              omega
          case measure => simp [intOf]; omega
    · obtain rfl : q = m := by omega
      have d0 : decide ((q : Int) < (q : Int)) = false := decide_eq_false (by omega)
      have hXH : X = H := by
        have := hX.out
        rw [List.drop_of_length_le (Nat.le_of_eq HPN.out)] at this
        simpa [putPicks] using this
      subst hXH
      have hrow := hoo.out
      have hbx := hoo.below
      obtain ⟨N0, hN0⟩ : ∃ N0, N0 = X.length := ⟨_, rfl⟩
      rw [← hN0] at hrow ⊢
      have HROW := Lib.hid hrow
      have HBX := Lib.hid hbx
      have HN0 := Lib.hid hN0
      have hxl : N0 ≤ 200000 := by omega
      clear hrow hbx HOO hoo hX hlow hN0 hXl HIN HPL HH HLOW
      go_wp2_with fail
      go_loopw [4, 11, 12, 13] (fun ov tv s12 s13 wx => ∃ (t : Nat) (Y : List Nat), t ≤ n ∧ tv = .int .i64 t ∧ Hid (Y = X ++ ((T.map nl).take t).flatMap showD) ∧ Y.length ≤ 200000 + 11000 * t ∧ wx.ownsRow w1.heap.size 3 1 ov Y.length (Y.map iv) ∧ Below w1.heap.size w1 wx) (fun _ tv _ _ _ => n - (intOf tv).toNat)
      case atStart => exact ⟨0, X, Nat.zero_le _, rfl, Lib.hid (by simp), by rw [← HN0.out]; omega, by rw [← HN0.out]; exact HROW.out, HBX.out⟩
      case round =>
        clear HROW HBX HN0 p0 p1
        rename World => wy
        obtain ⟨t, Y, ht, rfl, hY, hYl, hrow, hbx⟩ := hrel
        obtain ⟨p0, p1⟩ := HQ.out _ hbx
        obtain ⟨A8, c8, rfl, _, _, _⟩ := own_slice hrow
        obtain ⟨N, hN⟩ : ∃ N, N = Y.length := ⟨_, rfl⟩
        rw [← hN] at hrow hYl ⊢
        have HROW := Lib.hid hrow
        have HBX := Lib.hid hbx
        have HN := Lib.hid hN
        have hzy := hbx.size
        by_cases et : t < n
        · have d1 : decide ((t : Int) < (n : Int)) = true := decide_eq_true (by omega)
          have htI : (0 : Int) ≤ (t : Int) := by omega
          have htn : (t : Int) < (n : Int) := by omega
          obtain ⟨b, off, rfl, hc⟩ := (HT.out.below hbx).2 (by omega)
          obtain ⟨A2, c2, h1, h2, h3, h4⟩ := hc t et
          have hmem := list_at (T := T) (q := t) (by rw [HTN.out]; exact et)
          have hok := lenOk_dOk (HTS.out _ hmem).2
          have htk : (T.map nl).take (t + 1) = (T.map nl).take t ++ [nl (T.getD t [])] := by
            have hlt : t < T.length := by rw [HTN.out]; exact et
            rw [List.take_succ_eq_append_getElem (by rw [List.length_map]; exact hlt), List.getElem_map, List.getD_eq_getElem?_getD, List.getElem?_eq_getElem hlt]
            rfl
          obtain ⟨L, hL⟩ : ∃ L, L = T.getD t [] := ⟨_, rfl⟩
          rw [← hL] at h1 h2 h3 h4 hok htk
          obtain ⟨kk, hkk⟩ : ∃ kk, kk = L.length := ⟨_, rfl⟩
          rw [← hkk] at h1 h2 h3 h4
          have hput := rput_any wy A2 kk c2 L h2 h4
          have hshort := show_short L
          rw [show showAns L = (showD (nl L), 0) from if_pos hok] at hput hshort
          obtain ⟨S, hS⟩ : ∃ S, S = showD (nl L) := ⟨_, rfl⟩
          rw [← hS] at hput hshort
          have hsh2 : S.length ≤ 11000 := hshort
          have HPUT := Lib.hid hput
          have HY2 : Hid (Y ++ S = X ++ ((T.map nl).take (t + 1)).flatMap showD) := Lib.hid (by rw [htk, List.flatMap_append, ← List.append_assoc, ← hY.out, hS]; simp)
          clear hrow hbx hN hc hmem hok htk hL hkk h2 h3 h4 hput hshort hS hY
          go_wp2_with fail
          refine HPUT.out.mono ?_
          rintro e w8 ⟨v8, rfl, ho8, hb8⟩
          dsimp only at ho8 ⊢
          obtain ⟨K, hK⟩ : ∃ K, K = S.length := ⟨_, rfl⟩
          rw [← hK] at ho8 hsh2
          obtain ⟨A9, c9, rfl, _, _, _⟩ := own_slice ho8
          have hb18 := HBX.out.trans (hb8.mono hzy)
          obtain ⟨p2, p3⟩ := HQ.out _ hb18
          have hrow8 := row_low HROW.out hb8
          obtain ⟨v10, w10, hr10, ho10, hg10⟩ := append_ints w8 w1.heap.size _ N _ hrow8 A9 K c9 S (ints_of_own ho8) (by omega) hb18.size
          have hb10 : Below w1.heap.size w1 w10 := hb18.grown hg10 hb18.size (fun k hk => (World.ownsRow.lt hrow8 k hk).1)
          rw [← List.map_append] at ho10
          have HO10 := Lib.hid ho10
          have HB10 := Lib.hid hb10
          have HR10 := Lib.hid hr10
          have HK := Lib.hid hK
          clear ho8 hb8 hb18 hrow8 ho10 hg10 hb10 hr10 hK p0 p1 h1
          go_wp2_with (at_builtin; refine Lib.wpList_append_run _ rfl (.tmp 81) (.tmp 82) 22 22 rfl (.slice A8 N c8) (.slice A9 K c9) rfl rfl _ _ HR10.out ?_)
          go_roundw
          case rel =>
            refine ⟨t + 1, Y ++ S, by omega, by go_num, HY2, ?_, ?_, HB10.out⟩
            · rw [List.length_append, ← HN.out, ← HK.out]
              omega
            · rw [List.length_append, ← HN.out, ← HK.out]
              exact HO10.out
          case measure => simp [intOf]; omega
        · obtain rfl : t = n := by omega
          have d1 : decide ((t : Int) < (t : Int)) = false := decide_eq_false (by omega)
          have hY2 := hY.out
          rw [List.take_of_length_le (by rw [List.length_map]; exact Nat.le_of_eq HTN.out)] at hY2
          have HPE := Lib.hid (HPO.out (.slice A8 N c8) Y _ hY2 (by rw [← HN.out]; exact HROW.out) HBX.out)
          clear hrow hbx hN hY hY2
          go_wp2_with fail
          first | exact HPE.out | (go_ret2; exact HPE.out)

theorem rbitsg_any (w : World) (v : Value) (T : List (List Int)) (P : List Int) (h : PlanIn w v T P) : Calls Tryz.prog 64 #[v] w (ListPost w (bitsG T P)) := by
  by_cases hM : MayPlan T P
  · exact rbitsg_yes w v T P h hM
  · exact rbitsg_no w v T P h hM
end Go.Proofs.YtmgmgmbpldboiaaGreat
namespace Go.Proofs.YtmgmgmbpldboiaaGreat
open Go.RowKit

set_option maxRecDepth 100000 in
theorem bit_putPicks : ∀ (P o : List Nat), Bit01 (putPicks o P)
  | [], o => fun b hb => by simp [putPicks] at hb
  | x :: P, o => fun b hb => by
    rw [place_head] at hb
    rcases List.mem_append.1 hb with h | h
    · rw [List.eq_of_mem_replicate h]
      omega
    · rcases List.mem_cons.1 h with h | h
      · omega
      · exact bit_putPicks P _ b h
set_option maxRecDepth 100000 in
theorem short_putPicks (T : Nat) (hT : T ≤ 6) : ∀ (P o : List Nat), Low T o → (∀ x ∈ P, x < T) → (putPicks o P).length ≤ 6 * P.length
  | [], o, _, _ => by simp [putPicks]
  | x :: P, o, h, hx => by
    have h1 := (h.2 x (hx x (List.mem_cons_self ..))).1
    have h2 := short_putPicks T hT P _ (h.move (hx x (List.mem_cons_self ..))) fun y hy => hx y (List.mem_cons_of_mem _ hy)
    rw [place_head, List.length_append, List.length_replicate, List.length_cons, List.length_cons]
    omega
set_option maxRecDepth 100000 in
theorem short_shows : ∀ (T : List (List Int)), (∀ t ∈ T, DOk t) → ((T.map nl).flatMap showD).length ≤ 11000 * T.length
  | [], _ => by simp
  | t :: T, h => by
    have h1 := short_shows T fun x hx => h x (List.mem_cons_of_mem _ hx)
    have h2 := show_short t
    rw [show showAns t = (showD (nl t), 0) from if_pos (h t (List.mem_cons_self ..))] at h2
    dsimp only at h2
    rw [List.map_cons, List.flatMap_cons, List.length_append, List.length_cons]
    omega
theorem bitsG_bits (T : List (List Int)) (P : List Int) : Bit01 (bitsG T P).1 := by
  unfold bitsG
  split
  · refine Bit01.append (Bit01.append (Bit01.append (bit01_bitsN _ _) (bit01_bitsN _ _)) (bit_putPicks _ _)) fun b hb => ?_
    obtain ⟨l, _, hl⟩ := List.mem_flatMap.1 hb
    exact bit_showD l b hl
  · intro b hb
    cases hb
theorem bitsG_short (T : List (List Int)) (P : List Int) : (bitsG T P).1.length ≤ 300000 := by
  unfold bitsG
  split
  · rename_i hM
    have h1 := short_shows T fun t ht => lenOk_dOk (hM.2.2.2.2.1 t ht).2
    have h2 := short_putPicks T.length hM.2.1 (nl P) _ (low_six hM.2.1) fun x hx => by
      obtain ⟨y, hy, rfl⟩ := List.mem_map.1 hx
      have := hM.2.2.2.2.2.1 y hy
      omega
    have h3 := hM.2.1
    have h4 := hM.2.2.2.1
    rw [nl_length] at h2
    show (planB (T.map nl) (nl P)).length ≤ 300000
    unfold planB
    rw [List.length_append, List.length_append, List.length_append, bitsN_length, bitsN_length]
    omega
  · exact Nat.zero_le _
end Go.Proofs.YtmgmgmbpldboiaaGreat
