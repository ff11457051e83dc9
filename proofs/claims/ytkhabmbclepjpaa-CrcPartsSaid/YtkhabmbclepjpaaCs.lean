/- The reference's rest of a division. Conditions: at least 32 bits, at most 10^8. -/
import Derived.Test.YtkhabmbclepjpaaCr
namespace Go.Proofs.Ytkhabmbclepjpaa
open Go.RowKit

theorem setK_next (D : List Nat) (i m : Nat) : ((setK D i m).map iv).set (i + m) (.int .i64 (((setK D i m).getD (i + m) 0 + pL.getD m 0) % 2 : Nat)) = (setK D i (m + 1)).map iv := by
  rw [setK, List.map_set]
  rfl

theorem rest_any (w : World) (A : Option Addr) (n c : Nat) (L : List Nat) (hi : IntsIn w A n L) (hb : Bit01 L) (hn : n ≤ 100000000) (h32 : 32 ≤ n) :
    Calls Try.prog 24 #[.slice A n c] w fun e w' => ∃ A' c', e = .returned (.slice A' 32 c') ∧ IntsIn w' A' 32 (restL L) ∧ Below w.heap.size w w' := by
  have hl := hi.1
  have HI := Lib.hid hi
  have HL := Lib.hid hl
  clear hi hl
  go_enter Try.func24, Try.ntmps24
  go_wp2_with fail
  refine (poly_any w).mono ?_
  rintro e w1 ⟨gp, cp, rfl, hop, hb1⟩
  have hs1 := step_of_below hb1
  obtain ⟨b, off, rfl, hc⟩ := HI.out.2 (by omega)
  have hcell : ∀ j u, (L.map iv)[j]? = some u → (w1.alloc (.cells #[] 3)).cell? ((⟨b, off, none⟩ : Addr).add j) = some u := by
    intro j u hu
    have hjk : j < n := by
      have := (List.getElem?_eq_some_iff.1 hu).1
      rw [List.length_map, HL.out] at this
      exact this
    have hlt := World.block_lt_of_cell? w ⟨b, off + j, none⟩ (hc j hjk)
    have hlt' : b < w.heap.size := hlt
    have hz := hb1.size
    rw [Addr.add_lit]
    have h1 := (((hb1.alloc hz (.cells #[] 3)).cell (p := ⟨b, off + j, none⟩) hlt')).trans (hc j hjk)
    rw [h1, ← hu, List.getElem?_map, List.getD_eq_getElem?_getD, List.getElem?_eq_getElem (by rw [HL.out]; exact hjk)]
    rfl
  have hz1 := hb1.size
  have hown0 : (w1.alloc (.cells #[] 3)).ownsRow w.heap.size 3 1 (.slice (some ⟨w1.heap.size, 0, none⟩) 0 0) 0 [] := by
    have := World.ownsRow_lit (base := w.heap.size) (e := 3) (size := 1) w1 #[] 0 hz1 (by unfold maxLen; omega) (by simp)
    simpa using this
  have hop0 : (w1.alloc (.cells #[] 3)).ownsRow w.heap.size 3 1 (.slice (some ⟨gp, 0, none⟩) 33 cp) 33 (pL.map iv) := hop.alloc _
  have hb1a : Below w.heap.size w (w1.alloc (.cells #[] 3)) := hb1.alloc hz1 _
  have hgp : gp ≠ w1.heap.size := by have := (hop.lt gp rfl).2; omega
  obtain ⟨i3, h3, hz0, hzz1, hz2⟩ := info_parts Try.info3
  have HC := Lib.hid hcell
  clear hcell hc
  go_wp2_with (at_builtin; refine wpList_append_lies _ rfl _ _ 40 rfl w.heap.size 3 i3 (.int .i64 0) 1 8 Try.underlying40 h3 hz0 hzz1 hz2 rfl (by decide) _ _ _ rfl hown0 ⟨b, off, none⟩ n c (L.map iv) rfl ?c1 HC.out ?c2 ?c6 ?c3 ?c4 ?c5 (w1.heap.size + 1) ?c7 ?_)
  case c1 => rw [List.length_map, HL.out, Nat.mul_one]
  case c2 => intro u hu; obtain ⟨q, _, rfl⟩ := List.mem_map.1 hu; rfl
  case c6 => omega
  case c3 => unfold maxLen; omega
  case c4 => omega
  case c5 => simp; omega
  case c7 => simp
  intro gd cd w2 hown2 hgrow2 hat _
  have hown2' : w2.ownsRow w.heap.size 3 1 (.slice (some ⟨gd, 0, none⟩) n cd) n ((runD L 0).map iv) := by
    rw [runD]
    simpa using hown2
  have hop2 : w2.ownsRow w.heap.size 3 1 (.slice (some ⟨gp, 0, none⟩) 33 cp) 33 (pL.map iv) := hop0.kept hgrow2 (.inr (by simpa [Value.ownBlock] using hgp))
  have hb2 : Below w.heap.size w w2 := hb1a.grown hgrow2 (by simp; omega) (fun k hk => (hown0.lt k hk).1)
  have hne : gd ≠ gp := by
    have h1 := (hop.lt gp rfl).2
    have hat' : w1.heap.size = gd ∨ gd = w1.heap.size + 1 := by simpa [Value.ownBlock] using hat
    omega
  obtain ⟨_, _, hvv, _, hcm2, _⟩ := own_slice hown2'
  have hncd : n ≤ cd := by
    obtain ⟨_, _, hvv, h, _, _⟩ := own_slice hown2'
    simp only [Value.slice.injEq] at hvv
    omega
  have hcdm : cd ≤ maxLen := by
    obtain ⟨_, _, hvv, _, h, _⟩ := own_slice hown2'
    simp only [Value.slice.injEq] at hvv
    omega
  unfold maxLen at hcdm
  clear hgrow2 hown2 hat hvv hcm2
  go_wp2_with fail
  go_loopw [5] (fun i wr => ∃ j : Nat, j ≤ n - 32 ∧ i = .int .i64 j ∧ wr.ownsRow w.heap.size 3 1 (.slice (some ⟨gd, 0, none⟩) n cd) n ((runD L j).map iv) ∧ wr.ownsRow w.heap.size 3 1 (.slice (some ⟨gp, 0, none⟩) 33 cp) 33 (pL.map iv) ∧ Below w.heap.size w wr) (fun i _ => n - 32 - (intOf i).toNat)
  case atStart => exact ⟨0, Nat.zero_le _, rfl, hown2', hop2, hb2⟩
  case round =>
    obtain ⟨j, hj, rfl, hown, hpo, hbl⟩ := hrel
    by_cases h : j < n - 32
    · have c1 := hown.cellAt j (by omega)
      rw [List.getElem?_map, List.getElem?_eq_getElem (by rw [runD_length, HL.out]; omega)] at c1
      have hbt := bit_lt (runD L j) j (runD_bits L j hb)
      have hgd : (runD L j)[j]'(by rw [runD_length, HL.out]; omega) = (runD L j).getD j 0 := by
        rw [List.getD_eq_getElem?_getD, List.getElem?_eq_getElem (by rw [runD_length, HL.out]; omega)]; rfl
      have c2 : wr.cell? ⟨gd, j, none⟩ = some (.int .i64 ((runD L j).getD j 0 : Nat)) := by rw [c1, ← hgd]; rfl
      by_cases h1 : (runD L j).getD j 0 = 1
      · rw [h1] at c2
        have H1 := Lib.hid h1
        clear h1 c1 hgd
        go_wp2_with fail
        go_loopw [6] (fun x wx => ∃ m : Nat, m ≤ 33 ∧ x = .int .i64 m ∧ wx.ownsRow w.heap.size 3 1 (.slice (some ⟨gd, 0, none⟩) n cd) n ((setK (runD L j) j m).map iv) ∧ wx.ownsRow w.heap.size 3 1 (.slice (some ⟨gp, 0, none⟩) 33 cp) 33 (pL.map iv) ∧ Below w.heap.size w wx) (fun x _ => 33 - (intOf x).toNat)
        case atStart => exact ⟨0, by omega, rfl, hown, hpo, hbl⟩
        case round =>
          obtain ⟨m, hm, rfl, hown1, hpo1, hbl1⟩ := hrel
          have hEl : (setK (runD L j) j m).length = n := by rw [setK_length, runD_length, HL.out]
          have hEb := setK_bits (runD L j) j m (runD_bits L j hb)
          by_cases hm33 : m < 33
          · have k1 : wr.cell? ⟨gd, j + m, none⟩ = some (.int .i64 ((setK (runD L j) j m).getD (j + m) 0 : Nat)) := by
              rw [hown1.cellAt (j + m) (by omega), List.getElem?_map, List.getD_eq_getElem?_getD, List.getElem?_eq_getElem (by rw [hEl]; omega)]
              rfl
            have k2 : wr.cell? ⟨gp, m, none⟩ = some (.int .i64 (pL.getD m 0 : Nat)) := by
              rw [hpo1.cellAt m (by omega), List.getElem?_map, List.getD_eq_getElem?_getD, List.getElem?_eq_getElem (by rw [pL_length]; omega)]
              rfl
            have k3 := hown1.frozenAt (j + m)
            have b1 := bit_lt (setK (runD L j) j m) (j + m) hEb
            have b2 := bit_lt pL m pL_bits
            have hst := hown1.stored (j + m) (.int .i64 (((setK (runD L j) j m).getD (j + m) 0 + pL.getD m 0) % 2 : Nat))
            rw [setK_next] at hst
            generalize (setK (runD L j) j m).getD (j + m) 0 = x at *
            generalize pL.getD m 0 = y at *
            have hcast : (((x + y) % 2 : Nat) : Int) = ((x : Int) + y) % 2 := by omega
            rw [hcast] at hst
            have HCA := Lib.hid hcast
            have HEL := Lib.hid hEl
            clear hcast hEl c2
            go_upto_region 10 with fail
            go_region
            go_wp2_with fail
            go_roundw
            case rel =>
              have hlo : w.heap.size ≤ gd := (hown1.lt gd rfl).1
              have hpk : (wr.setCell ⟨gd, j + m, none⟩ (.int .i64 (((x : Int) + y) % 2))).ownsRow w.heap.size 3 1 (.slice (some ⟨gp, 0, none⟩) 33 cp) 33 (pL.map iv) :=
                hpo1.kept hst.2 (.inr (by simpa [Value.ownBlock] using fun e => hne e.symm))
              exact ⟨m + 1, by omega, by go_num, hst.1, hpk, (hbl1.setCell (p := ⟨gd, j + m, none⟩) hlo _).drew⟩
            case measure => simp [intOf]; omega
          · obtain rfl : m = 33 := by omega
            have hsd : runD L (j + 1) = setK (runD L j) j 33 := by rw [runD, stepD, if_pos H1.out]
            rw [← hsd] at hown1
            have HSD := Lib.hid hsd
            clear hsd hEl c2
            go_wp2_with fail
            go_roundw
            case rel => exact ⟨j + 1, by omega, by go_num, hown1, hpo1, hbl1⟩
            case measure => simp [intOf]; omega
      · have h0 : (runD L j).getD j 0 = 0 := by omega
        rw [h0] at c2
        have H1 := Lib.hid h1
        have H0 := Lib.hid h0
        clear h1 h0 c1 hgd
        have hsd : runD L (j + 1) = runD L j := by rw [runD, stepD, if_neg H1.out]
        have HSD := Lib.hid hsd
        clear hsd
        go_wp2_with fail
        go_roundw
        case rel => exact ⟨j + 1, by omega, by go_num, by rw [HSD.out]; exact hown, hpo, hbl⟩
        case measure => simp [intOf]; omega
    · obtain rfl : j = n - 32 := by omega
      have hI := (ints_of_own hown).cut (a := n - 32) (k := 32) (by omega)
      have HII := Lib.hid hI
      clear hI
      have e32 : n - (n - 32) = 32 := by omega
      have E32 := Lib.hid e32
      clear e32
      go_wp2_with fail
      go_ret
      refine ⟨some ⟨gd, n - 32, none⟩, cd - (n - 32), ?_, ?_, hbl⟩
      · show Ending.returned (Value.slice (some ⟨gd, n - 32, none⟩) (n - (n - 32)) (cd - (n - 32))) = _
        rw [E32.out]
      · have h1 := HII.out
        rw [Option.map_some, Addr.add_lit, Nat.zero_add, List.take_of_length_le (by rw [List.length_drop, runD_length, HL.out]; omega)] at h1
        unfold restL
        rw [HL.out]
        exact h1

end Go.Proofs.Ytkhabmbclepjpaa
