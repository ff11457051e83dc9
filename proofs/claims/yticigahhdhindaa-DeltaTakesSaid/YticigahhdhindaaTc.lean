/- The reference's Show and Take. Conditions: slices of whole cells; at most a million bits. Written ahead of stage 10. -/
import Derived.Test.YticigahhdhindaaTb
import Derived.Test.YticigahhdhindaaRn
import Derived.OwnWalk
namespace Go.Proofs.Yticigahhdhindaa
open Go.RowKit

/-- Bits as a text and their number, and an error. -/
def BitsPost (w : World) (ans : List Nat × Nat) (e : Ending) (w' : World) : Prop := e = .returned (.tuple #[.agg #[.string ⟨(pack ans.1).toArray⟩, .int .i64 ans.1.length], .int .i64 ans.2]) ∧ Below w.heap.size w w'
theorem nl_in {L : List Int} (h : DOk L) : ∀ x ∈ nl L, 1 ≤ x ∧ x ≤ 20 := by
  intro x hx
  obtain ⟨y, hy, rfl⟩ := List.mem_map.1 hx
  have := h.2.2 y hy
  omega
theorem show_bits (L : List Int) : Bit01 (showAns L).1 := by
  unfold showAns
  split
  · exact bit_showD _
  · intro b hb; cases hb
theorem show_short (L : List Int) : (showAns L).1.length ≤ 11000 := by
  unfold showAns
  split
  · rename_i h
    have hn := nl_in h
    have h1 := showD_length (nl L)
    have h2 := first_in (l := nl L) (by rw [nl_length]; have := h.1; omega) hn
    have h3 := sizeD_le (nl L) ((nl L).getD 0 0) h2.2 fun x hx => (hn x hx).2
    rw [nl_length] at h1 h3
    have := h.2.1
    show (showD (nl L)).length ≤ 11000
    omega
  · exact Nat.zero_le _
theorem show_wrong (L : List Int) (h : (showAns L).2 ≠ 0) : (showAns L).1 = [] := by
  unfold showAns at h ⊢
  split
  · rename_i h1
    rw [if_pos h1] at h
    exact absurd rfl h
  · rfl
theorem show_code (L : List Int) : (showAns L).2 ≤ 80 := by
  unfold showAns
  split
  · exact Nat.zero_le _
  · exact Nat.le_refl _

set_option maxHeartbeats 1600000 in
set_option maxRecDepth 100000 in
theorem rshow_any (w : World) (A : Option Addr) (n c : Nat) (L : List Int) (hL : ZIn w A n L) (hn : n ≤ maxLen) : Calls Try.prog 9 #[.slice A n c] w (BitsPost w (showAns L)) := by
  have hb1 : Below w.heap.size w (w.alloc (.cells #[.string ⟨#[]⟩, .int .i64 0] 24)) := (Below.refl _ _).alloc (Nat.le_refl _) _
  have HPUT := Lib.hid (rput_any (w.alloc (.cells #[.string ⟨#[]⟩, .int .i64 0] 24)) A n c L (hL.below hb1) hn)
  have hbits := show_bits L
  have hshort := show_short L
  have hwrong := show_wrong L
  have hcode := show_code L
  have hk1 : Blk (w.alloc (.cells #[.string ⟨#[]⟩, .int .i64 0] 24)) w.heap.size 24 #[.string ⟨#[]⟩, .int .i64 0] := blk_new w 24 _
  have HK1 := Lib.hid hk1
  have HB1 := Lib.hid hb1
  clear hL hk1 hb1
  generalize showAns L = ans at *
  obtain ⟨bs, k⟩ := ans
  have HBITS := Lib.hid hbits
  have HWRONG := Lib.hid hwrong
  have hshort2 : bs.length ≤ 11000 := hshort
  have hcode2 : k ≤ 80 := hcode
  clear hbits hwrong hshort hcode
  go_enter Try.func9, Try.ntmps9
  go_wp2_with fail
  refine HPUT.out.mono ?_
  rintro e w1 ⟨v, rfl, hown, hb⟩
  have hk := (step_of_below hb).blk HK1.out List.not_mem_nil List.not_mem_nil
  have hbl : Below w.heap.size w w1 := HB1.out.trans (hb.mono (by simp))
  have HK := Lib.hid hk
  have HBL := Lib.hid hbl
  obtain ⟨A1, c1, rfl, _, _, _⟩ := own_slice hown
  have hi1 := ints_of_own hown
  dsimp only at hi1
  have HI1 := Lib.hid hi1
  clear hb hk hbl hown hi1
  dsimp only
  by_cases h0 : k = 0
  · subst h0
    have HTX := Lib.hid (text_any w1 A1 bs.length c1 bs HI1.out HBITS.out (by omega))
    obtain ⟨N, hN⟩ : ∃ N, N = bs.length := ⟨_, rfl⟩
    rw [← hN] at HTX ⊢
    have HN := Lib.hid hN
    clear hN
    go_wp2_with fail
    refine HTX.out.mono ?_
    rintro e w2 ⟨rfl, hb2⟩
    have hk2 := (step_of_below hb2).blk HK.out List.not_mem_nil List.not_mem_nil
    have hbl2 : Below w.heap.size w w2 := HBL.out.trans (hb2.mono HBL.out.size)
    have q0 : w2.cell? ⟨w.heap.size, 0, none⟩ = some (.string ⟨#[]⟩) := blk_cell hk2 0
    have q1 : w2.cell? ⟨w.heap.size, 1, none⟩ = some (.int .i64 0) := blk_cell hk2 1
    have f0 := blk_frozen hk2 0
    have f1 := blk_frozen hk2 1
    have HB2 := Lib.hid hbl2
    clear hb2 hk2 hbl2
    go_wp2_with fail
    refine bodyPost_ret (v := .tuple #[.agg #[.string ⟨(pack bs).toArray⟩, .int .i64 N], .int .i64 0]) ?_ rfl ?_
    · simp [results, Try.results9, go_sem, q0, q1]
    · rw [HN.out]
      exact ⟨rfl, (HB2.out.setCell (p := ⟨w.heap.size, 0, none⟩) (Nat.le_refl _) _).setCell (p := ⟨w.heap.size, 1, none⟩) (Nat.le_refl _) _⟩
  · have hnil : bs = [] := HWRONG.out h0
    subst hnil
    have d0 : ((k : Int) != 0) = true := by
      rw [bne_iff_ne]
      omega
    have q0 : w1.cell? ⟨w.heap.size, 0, none⟩ = some (.string ⟨#[]⟩) := blk_cell HK.out 0
    have q1 : w1.cell? ⟨w.heap.size, 1, none⟩ = some (.int .i64 0) := blk_cell HK.out 1
    have f0 := blk_frozen HK.out 0
    have f1 := blk_frozen HK.out 1
    go_wp2_with fail
    refine bodyPost_ret (v := .tuple #[.agg #[.string ⟨#[]⟩, .int .i64 0], .int .i64 k]) ?_ rfl ?_
    · simp [results, Try.results9, go_sem, q0, q1]
    · exact ⟨rfl, (HBL.out.setCell (p := ⟨w.heap.size, 0, none⟩) (Nat.le_refl _) _).setCell (p := ⟨w.heap.size, 1, none⟩) (Nat.le_refl _) _⟩

/-- Lengths in a slice of the call's own, a place, and an error. -/
def AllPost (w : World) (ans : List Nat × Nat × Nat) (e : Ending) (w' : World) : Prop := ∃ v, e = .returned (.tuple #[v, .int .i64 ans.2.1, .int .i64 ans.2.2]) ∧ w'.ownsRow w.heap.size 3 1 v ans.1.length (ans.1.map iv) ∧ Below w.heap.size w w'
theorem drop_nat {L : List Nat} {p : Nat} (h : p < L.length) : L.drop p = L.getD p 0 :: L.drop (p + 1) := by
  rw [List.drop_eq_getElem_cons h, List.getD_eq_getElem?_getD, List.getElem?_eq_getElem h]
  rfl
set_option maxRecDepth 100000 in
theorem ints_piece {w : World} {b off m k a : Nat} {L : List Nat} (h : IntsIn w (some ⟨b, off, none⟩) m L) (hak : a + k ≤ m) (n : Nat) (hn : n = k) : IntsIn w (some ⟨b, off + a, none⟩) n ((L.drop a).take k) := by
  subst hn
  have := h.cut (a := a) (k := n) hak
  simp only [Option.map_some, Addr.add_lit] at this
  exact this

set_option maxRecDepth 100000 in
theorem rtake_out (w : World) (A : Option Addr) (m c : Nat) (at' n : Int) (_hm : m ≤ 1000000) (h : at' < 0 ∨ (m : Int) < at' ∨ n < 2 ∨ 258 < n) : Calls Try.prog 12 #[.slice A m c, .int .i64 at', .int .i64 n] w (AllPost w ([], 0, 2)) := by
  have fin : AllPost w ([], 0, 2) (.returned (.tuple #[.slice none 0 0, .int .i64 0, .int .i64 2])) w := ⟨_, rfl, World.ownsRow_nil _ _ _ _, Below.refl _ _⟩
  have F := Lib.hid fin
  generalize AllPost w ([], 0, 2) = PO at *
  clear fin
  by_cases h1 : at' < 0
  · have d0 : decide (at' < 0) = true := decide_eq_true h1
    clear h
    go_enter Try.func12, Try.ntmps12
    go_wp2_with fail
    first | exact F.out | (go_ret3; exact F.out)
  · have d0 : decide (at' < 0) = false := decide_eq_false h1
    by_cases h2 : (m : Int) < at'
    · have d1 : decide ((m : Int) < at') = true := decide_eq_true h2
      clear h
      go_enter Try.func12, Try.ntmps12
      go_wp2_with fail
      first | exact F.out | (go_ret3; exact F.out)
    · have d1 : decide ((m : Int) < at') = false := decide_eq_false h2
      by_cases h3 : n < 2
      · have d2 : decide (n < 2) = true := decide_eq_true h3
        clear h
        go_enter Try.func12, Try.ntmps12
        go_wp2_with fail
        first | exact F.out | (go_ret3; exact F.out)
      · have d2 : decide (n < 2) = false := decide_eq_false h3
        have d3 : decide (258 < n) = true := decide_eq_true (by omega)
        clear h
        go_enter Try.func12, Try.ntmps12
        go_wp2_with fail
        first | exact F.out | (go_ret3; exact F.out)

set_option maxHeartbeats 3200000 in
set_option maxRecDepth 100000 in
theorem rtake_any (w : World) (A : Option Addr) (m c : Nat) (bits : List Nat) (a0 k : Nat) (hb : IntsIn w A m bits) (hmc : m ≤ c) (hm : m ≤ 1000000) (h01 : Bit01 bits) (ha : a0 ≤ m) (hk2 : 2 ≤ k) (hk : k ≤ 258) :
    Calls Try.prog 12 #[.slice A m c, .int .i64 a0, .int .i64 k] w (AllPost w (takeAns bits a0 k)) := by
  obtain ⟨i3, h3, hz0, hz1, hz2⟩ := info_parts Try.info3
  have hbl := hb.1
  have HP : Hid (∀ (v : Value) (a : List Nat × Nat × Nat) (w' : World), takeAns bits a0 k = a → w'.ownsRow w.heap.size 3 1 v a.1.length (a.1.map iv) → Below w.heap.size w w' → AllPost w (takeAns bits a0 k) (.returned (.tuple #[v, .int .i64 a.2.1, .int .i64 a.2.2])) w') := Lib.hid fun v a w' h1 h2 h3 => ⟨v, by rw [h1], by rw [h1]; exact h2, h3⟩
  have hans : takeAns bits a0 k = if m < a0 + 5 then ([], 0, 10) else takeF (bits.drop (a0 + 5)) (val ((bits.drop a0).take 5)) k (a0 + 5) [] := by
    rw [takeAns, if_neg (by omega), Int.toNat_natCast, Int.toNat_natCast, hbl]
  have d0 : decide ((a0 : Int) < 0) = false := decide_eq_false (by omega)
  have d1 : decide ((m : Int) < (a0 : Int)) = false := decide_eq_false (by omega)
  have d2 : decide ((k : Int) < 2) = false := decide_eq_false (by omega)
  have d3 : decide ((258 : Int) < (k : Int)) = false := decide_eq_false (by omega)
  generalize AllPost w (takeAns bits a0 k) = PO at *
  generalize takeAns bits a0 k = ans at *
  have HBI := Lib.hid hb
  have HBL := Lib.hid hbl
  have H01 := Lib.hid h01
  have HNUM := Lib.hid number_any
  clear hb hbl h01
  by_cases h5 : m < a0 + 5
  · rw [if_pos h5] at hans
    have d4 : decide ((m : Int) - (a0 : Int) < 5) = true := decide_eq_true (by omega)
    have HPE := Lib.hid (HP.out (.slice none 0 0) _ w hans (World.ownsRow_nil _ _ _ _) (Below.refl _ _))
    clear hans
    go_enter Try.func12, Try.ntmps12
    go_wp2_with fail
    first | exact HPE.out | (go_ret3; exact HPE.out)
  · rw [if_neg h5] at hans
    have d4 : decide ((m : Int) - (a0 : Int) < 5) = false := decide_eq_false (by omega)
    obtain ⟨b, off, rfl, hcells⟩ := HBI.out.2 (by omega)
    obtain ⟨p5, hp5⟩ : ∃ p5, p5 = a0 + 5 := ⟨_, rfl⟩
    have hp5z : (a0 : Int) + 5 = (p5 : Int) := by omega
    have hca : ¬ c = a0 := by omega
    have hap : (a0 : Int) ≤ (p5 : Int) := by omega
    have hpc : (p5 : Int) ≤ (c : Int) := by omega
    have hp5m : p5 ≤ m := by omega
    rw [← hp5] at hans
    have hvl : val ((bits.drop a0).take 5) < 32 := by
      have h := val_lt _ ((H01.out.drop a0).take 5)
      have h6 : ((bits.drop a0).take 5).length = 5 := by rw [List.length_take, List.length_drop, HBL.out]; omega
      rw [h6] at h
      exact h
    have HNU := Lib.hid fun (w1 : World) (h : w1 = w) (q c' : Nat) (hq : q = 5) => HNUM.out w1 (some ⟨b, off + a0, none⟩) q c' ((bits.drop a0).take 5) (h ▸ ints_piece HBI.out (by omega) q hq) ((H01.out.drop a0).take 5) (by omega)
    obtain ⟨now0, hnow⟩ : ∃ now0, now0 = val ((bits.drop a0).take 5) := ⟨_, rfl⟩
    rw [← hnow] at HNU hans hvl
    have HANS := Lib.hid hans
    have HCELL := Lib.hid hcells
    have HP5 := Lib.hid hp5
    clear hans hcells hnow h5 hp5
    go_enter Try.func12, Try.ntmps12
    go_wp2_with fail
    refine (HNU.out _ rfl _ _ (by have := HP5.out; omega)).mono ?_
    rintro e w ⟨rfl, rfl⟩
    go_wp2_with fail
    go_loopw [1, 9, 10] (fun av nv out wx => ∃ (p now : Nat) (o : List Nat), av = .int .i64 p ∧ p ≤ m ∧ nv = .int .i64 now ∧ now ≤ 40 ∧ o.length ≤ k ∧ Hid (ans = takeF (bits.drop p) now (k - o.length) p o) ∧ wx.ownsRow w.heap.size 3 1 out o.length (o.map iv) ∧ Below w.heap.size w wx) (fun av _ _ _ => m - (intOf av).toNat)
    case atStart => exact ⟨p5, now0, [], rfl, hp5m, rfl, by omega, Nat.zero_le _, HANS, World.ownsRow_nil _ _ _ _, Below.refl _ _⟩
    case round =>
      obtain ⟨p, now, o, rfl, hp, rfl, hnow, hol, hrel2, hown, hb⟩ := hrel
      have hz9 := hb.size
      obtain ⟨A0, c5, rfl, hn0, hm0, _⟩ := own_slice hown
      unfold maxLen at hm0
      have HB := Lib.hid hb
      have HO := Lib.hid hown
      obtain ⟨N, hN⟩ : ∃ N, N = o.length := ⟨_, rfl⟩
      have HN := Lib.hid hN
      have hstep := hrel2.out
      rw [← hN] at hol hn0 hstep ⊢
      by_cases e : N < k
      · have d5 : decide ((N : Int) < (k : Int)) = true := decide_eq_true (by omega)
        rw [show k - N = (k - N - 1) + 1 by omega] at hstep
        by_cases ebad : now < 1 ∨ 20 < now
        · rw [takeF_bad _ _ _ _ _ ebad] at hstep
          have HPE := Lib.hid (HP.out (.slice none 0 0) _ wr hstep (World.ownsRow_nil _ _ _ _) HB.out)
          clear hstep hrel2 hown hb hN HP HANS
          by_cases e1 : now < 1
          · have d6 : decide ((now : Int) < 1) = true := decide_eq_true (by omega)
            clear ebad
            go_wp2_with fail
            first | exact HPE.out | (go_ret3; exact HPE.out)
          · have d6 : decide ((now : Int) < 1) = false := decide_eq_false (by omega)
            have d7 : decide ((20 : Int) < (now : Int)) = true := decide_eq_true (by omega)
            clear ebad
            go_wp2_with fail
            first | exact HPE.out | (go_ret3; exact HPE.out)
        · have d6 : decide ((now : Int) < 1) = false := decide_eq_false (by omega)
          have d7 : decide ((20 : Int) < (now : Int)) = false := decide_eq_false (by omega)
          by_cases epm : p = m
          · have d8 : ((p : Int) == (m : Int)) = true := by rw [epm]; exact beq_self_eq_true _
            rw [epm, List.drop_of_length_le (Nat.le_of_eq HBL.out), takeF_nil _ _ _ _ ebad] at hstep
            have HPE := Lib.hid (HP.out (.slice none 0 0) _ wr hstep (World.ownsRow_nil _ _ _ _) HB.out)
            clear hstep hrel2 hown hb hN HP HANS ebad epm
            go_wp2_with fail
            first | exact HPE.out | (go_ret3; exact HPE.out)
          · have d8 : ((p : Int) == (m : Int)) = false := by
              rw [beq_eq_false_iff_ne]
              omega
            have hpm : p < m := by omega
            have hlt0 : b < w.heap.size := World.block_lt_of_cell? w _ (HCELL.out p hpm)
            have q1 : wr.cell? ⟨b, off + p, none⟩ = some (.int .i64 (bits.getD p 0 : Nat)) := (HB.out.cell (p := ⟨b, off + p, none⟩) hlt0).trans (HCELL.out p hpm)
            rw [drop_nat (by rw [HBL.out]; exact hpm)] at hstep
            obtain ⟨x, hx⟩ : ∃ x, x = bits.getD p 0 := ⟨_, rfl⟩
            rw [← hx] at q1 hstep
            clear hx epm
            by_cases ex : x = 0
            · subst ex
              rw [takeF_zero _ _ _ _ _ ebad] at hstep
              have HST := Lib.hid hstep
              obtain ⟨X, hX⟩ : ∃ X, X = o.map iv := ⟨_, rfl⟩
              rw [← hX, ← hN] at HO
              have HX := Lib.hid hX
              have hnow1 : 1 ≤ now := by omega
              clear hstep hrel2 hown hb hN hX ebad
              go_wp2_with (at_builtin; refine wpList_append_own _ rfl _ _ 22 rfl w.heap.size 3 i3 (.int .i64 0) 1 8 Try.underlying22 h3 hz0 hz1 hz2 rfl (by decide) _ _ _ rfl (HO.out.alloc _) ⟨wr.heap.size, 0, none⟩ 1 1 [.int .i64 now] rfl rfl ?c1 ?c2 ?c3 ?c4 ?c5 ?_)
              case c1 => exact cell_one _ _ _
              case c2 => intro u hu; simp at hu; subst hu; rfl
              case c3 => unfold maxLen; omega
              case c4 => omega
              case c5 => simp; omega
              intro v6 w6 hown6 hgrow6 _
              have hb6 : Below w.heap.size w w6 := (HB.out.alloc hz9 _).grown hgrow6 (by simp; omega) (fun k hk => (HO.out.lt k hk).1)
              have HO6 := Lib.hid hown6
              have HB6 := Lib.hid hb6
              clear hown6 hgrow6 hb6
              go_wp2_with fail
              go_roundw
              case rel =>
                refine ⟨p + 1, now, o ++ [now], by go_num, by omega, rfl, hnow, by rw [List.length_append, ← HN.out]; show N + 1 ≤ k; omega, Lib.hid ?_, ?_, HB6.out⟩
                · rw [List.length_append, ← HN.out, show k - (N + [now].length) = k - N - 1 by simp; omega]
                  exact HST.out
                · rw [List.length_append, ← HN.out, List.map_append, ← HX.out]
                  exact HO6.out
              case measure => simp [intOf]; omega
            · have d9 : ((x : Int) == 0) = false := by
                rw [beq_eq_false_iff_ne]
                omega
              obtain ⟨p1, hp1⟩ : ∃ p1, p1 = p + 1 := ⟨_, rfl⟩
              have hp1z : (p : Int) + 1 = (p1 : Int) := by omega
              by_cases ep1 : p1 = m
              · have d10 : ((p1 : Int) == (m : Int)) = true := by rw [ep1]; exact beq_self_eq_true _
                rw [← hp1, ep1, List.drop_of_length_le (Nat.le_of_eq HBL.out), takeF_one _ _ _ _ _ ebad ex] at hstep
                have HPE := Lib.hid (HP.out (.slice none 0 0) _ wr hstep (World.ownsRow_nil _ _ _ _) HB.out)
                clear hstep hrel2 hown hb hN HP HANS ebad ep1 hp1 ex
                go_wp2_with fail
                first | exact HPE.out | (go_ret3; exact HPE.out)
              · have d10 : ((p1 : Int) == (m : Int)) = false := by
                  rw [beq_eq_false_iff_ne]
                  omega
                have hp1m : p1 < m := by omega
                have q2 : wr.cell? ⟨b, off + p1, none⟩ = some (.int .i64 (bits.getD p1 0 : Nat)) := (HB.out.cell (p := ⟨b, off + p1, none⟩) hlt0).trans (HCELL.out p1 hp1m)
                rw [← hp1, drop_nat (by rw [HBL.out]; exact hp1m)] at hstep
                obtain ⟨y, hy⟩ : ∃ y, y = bits.getD p1 0 := ⟨_, rfl⟩
                rw [← hy] at q2 hstep
                rw [takeF_step _ _ _ _ _ _ _ ebad ex, show p + 2 = p1 + 1 by omega] at hstep
                have hp1b : p1 = p + 1 := hp1
                have HP1 := Lib.hid hp1
                have hnow1 : 1 ≤ now := by omega
                have hnow20 : now ≤ 20 := by omega
                by_cases ey : y = 0
                · subst ey
                  rw [if_pos rfl] at hstep
                  have HST := Lib.hid hstep
                  have hp2z : (p : Int) + 2 = ((p1 + 1 : Nat) : Int) := by omega
                  clear hstep hrel2 hown hb hN ebad ep1 hp1 hp1b ex hy
                  go_wp2_with fail
                  go_roundw
                  case rel => exact ⟨p1 + 1, now + 1, o, by first | go_num | (have := HP1.out; simp; omega), by omega, by go_num, by omega, by rw [← HN.out]; exact hol, Lib.hid (by rw [← HN.out, show k - N = k - N - 1 + 1 by omega]; exact HST.out), by rw [HN.out]; exact HO.out, HB.out⟩
                  case measure => have := HP1.out; simp [intOf]; omega
                · have d11 : ((y : Int) == 0) = false := by
                    rw [beq_eq_false_iff_ne]
                    omega
                  rw [if_neg ey] at hstep
                  obtain ⟨now1, hnw1⟩ : ∃ now1, now1 = now - 1 := ⟨_, rfl⟩
                  have hnwz : (now : Int) - 1 = (now1 : Int) := by omega
                  rw [← hnw1] at hstep
                  have hnw40 : now1 ≤ 40 := by omega
                  have HST := Lib.hid hstep
                  clear hstep hrel2 hown hb hN ebad ep1 hp1 hp1b ex hy ey hnw1 hnow1
                  go_wp2_with fail
                  go_roundw
                  case rel => exact ⟨p1 + 1, now1, o, by first | go_num | (have := HP1.out; simp; omega), by omega, by go_num, hnw40, by rw [← HN.out]; exact hol, Lib.hid (by rw [← HN.out, show k - N = k - N - 1 + 1 by omega]; exact HST.out), by rw [HN.out]; exact HO.out, HB.out⟩
                  case measure => have := HP1.out; simp [intOf]; omega
      · have d5 : decide ((N : Int) < (k : Int)) = false := decide_eq_false (by omega)
        rw [show k - N = 0 by omega, takeF_done] at hstep
        have hpe := HP.out (.slice A0 o.length c5) (o, p, 0) wr hstep HO.out HB.out
        rw [← hN] at hpe
        have HPE := Lib.hid hpe
        clear hstep hpe hrel2 hown hb hN HP HANS
        go_wp2_with fail
        first | exact HPE.out | (go_ret3; exact HPE.out)

end Go.Proofs.Yticigahhdhindaa
