/- The document's own May tells whether bits may be. Conditions: a text of at most a million bytes. -/
import Derived.Test.YtelgmihemnidkaaZ
namespace Go.Proofs.Ytelgmihemnidkaa
open Go.RowKit

theorem rmay_walk (w : World) (s : ByteArray) (n : Int) (hs : s.size ≤ 1000000) (hn : -9223372036854775808 ≤ n ∧ n ≤ 9223372036854775807) :
    Calls Try.prog 35 #[.agg #[.string s, .int .i64 n]] w (MayPost w (mayB s n)) := by
  have hlen : (bitsB s.data.toList).length = 8 * s.size := by rw [bitsB_length]; rfl
  by_cases hbad : n < 0 ∨ (0 ≤ n ∧ 8 * (s.size : Int) < n) ∨ (0 ≤ n ∧ n ≤ 8 * (s.size : Int) ∧ 8 ≤ 8 * (s.size : Int) - n)
  · have hm : mayB s n = false := by
      by_cases h0 : n < 0
      · exact may_neg s n h0
      · obtain ⟨k, rfl⟩ := Int.eq_ofNat_of_zero_le (show 0 ≤ n by omega)
        exact may_far s k (by omega)
    rw [hm]
    have HM := Lib.hid hm
    clear hm hlen
    rcases hbad with h | ⟨h1, h2⟩ | ⟨h1, h2, h3⟩
    all_goals
      go_enter Try.func35, Try.ntmps35
      go_wp2_with fail
      refine (of_any _ s hs).mono ?_
      rintro e w1 ⟨v, rfl, ho, hb1⟩
      obtain ⟨Al, cl, hv, hcl, hcm, _⟩ := own_slice ho
      rw [hv] at ho ⊢
      have HV := Lib.hid hv
      clear hv
      have hk : Blk w1 w.heap.size 54 #[.string s, .int .i64 n] := (step_of_below hb1).blk (blk_new w 54 _) (by simp) (by simp)
      have hbl : Below w.heap.size w w1 := ((Below.refl _ _).alloc (Nat.le_refl _) _).trans (hb1.mono (by simp))
      have q0 : w1.cell? ⟨w.heap.size, 0, none⟩ = some (.string s) := blk_cell hk 0
      have q1 : w1.cell? ⟨w.heap.size, 1, none⟩ = some (.int .i64 n) := blk_cell hk 1
      go_wp2_with fail
      go_ret
      exact ⟨rfl, hbl⟩
  obtain ⟨k, rfl⟩ := Int.eq_ofNat_of_zero_le (show 0 ≤ n by omega)
  have hk1 : k ≤ 8 * s.size := by omega
  have hk2 : 8 * s.size < k + 8 := by omega
  have HLEN := Lib.hid hlen
  clear hbad hlen
  go_enter Try.func35, Try.ntmps35
  go_wp2_with fail
  refine (of_any _ s hs).mono ?_
  rintro e w1 ⟨v, rfl, ho, hb1⟩
  obtain ⟨Al, cl, hv, hcl, hcm, hAl⟩ := own_slice ho
  rw [hv] at ho ⊢
  have HV := Lib.hid hv
  clear hv
  have hk : Blk w1 w.heap.size 54 #[.string s, .int .i64 k] := (step_of_below hb1).blk (blk_new w 54 _) (by simp) (by simp)
  have hbl : Below w.heap.size w w1 := ((Below.refl _ _).alloc (Nat.le_refl _) _).trans (hb1.mono (by simp))
  have q0 : w1.cell? ⟨w.heap.size, 0, none⟩ = some (.string s) := blk_cell hk 0
  have q1 : w1.cell? ⟨w.heap.size, 1, none⟩ = some (.int .i64 k) := blk_cell hk 1
  have HI := Lib.hid (ints_of_own ho)
  go_wp2_with fail
  go_loop [4] (fun i => ∃ j : Nat, k ≤ j ∧ j ≤ 8 * s.size ∧ i = .int .i64 j ∧ (((bitsB s.data.toList).drop k).take (j - k)).all (· == 0) = true) (fun i => 8 * s.size - (intOf i).toNat)
  case atStart => exact ⟨k, Nat.le_refl _, hk1, rfl, by rw [Nat.sub_self]; rfl⟩
  case round =>
    obtain ⟨j, hj1, hj2, rfl, hz⟩ := hrel
    have HZ := Lib.hid hz
    clear hz
    by_cases h : j < 8 * s.size
    · obtain ⟨b, off, hA, hc⟩ := HI.out.2 (by omega)
      obtain rfl := hA
      have hc1 := hc j h
      have hy2 := bit_lt (bitsB s.data.toList) j (bit01_bitsB _)
      have hget : (bitsB s.data.toList)[j]? = some ((bitsB s.data.toList).getD j 0) := by
        rw [List.getD_eq_getElem?_getD, List.getElem?_eq_getElem (by rw [HLEN.out]; exact h)]
        rfl
      generalize (bitsB s.data.toList).getD j 0 = y at *
      have HG := Lib.hid hget
      clear hget hc
      by_cases hy : y = 0
      · obtain rfl : y = 0 := hy
        go_wp2
        go_round
        case rel =>
          refine ⟨j + 1, by omega, h, by go_num, ?_⟩
          rw [show j + 1 - k = (j - k) + 1 by omega, List.take_add_one, List.getElem?_drop, show k + (j - k) = j by omega, HG.out, List.all_append, HZ.out]
          rfl
        case measure => simp [intOf]; omega
      · have hyd : ((y : Int) != 0) = true := by rw [bne_iff_ne]; omega
        have hm : mayB s k = false := by
          rw [Bool.eq_false_iff]
          intro hm
          have h3 := (may_parts.1 hm).2.2
          have hmem : y ∈ (bitsB s.data.toList).drop k := by
            refine List.mem_of_getElem? (i := j - k) ?_
            rw [List.getElem?_drop, show k + (j - k) = j by omega]
            exact HG.out
          have := List.all_eq_true.1 h3 y hmem
          simp at this
          exact hy this
        rw [hm]
        have HM := Lib.hid hm
        have HY := Lib.hid hy
        clear hm hy
        go_wp2
        go_ret
        exact ⟨rfl, hbl⟩
    · obtain rfl : j = 8 * s.size := by omega
      have hm : mayB s k = true := by
        refine may_parts.2 ⟨hk1, hk2, ?_⟩
        have := HZ.out
        rwa [List.take_of_length_le (by rw [List.length_drop, HLEN.out]; exact Nat.le_refl _)] at this
      have HM := Lib.hid hm
      clear hm
      go_wp2
      go_ret
      exact ⟨by rw [HM.out]; rfl, hbl⟩

end Go.Proofs.Ytelgmihemnidkaa
