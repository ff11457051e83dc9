/- The reference's sum behind a register, walked. Conditions: a text of at most a million bytes. -/
import Derived.Test.YtkhabmbclepjpaaCt
import Derived.Deep.Onto
namespace Go.Proofs.Ytkhabmbclepjpaa
open Go.RowKit

/-- The first m bits of R added to the first ones of D. -/
def addF (D R : List Nat) : Nat → List Nat
  | 0 => D
  | m + 1 => (addF D R m).set m (((addF D R m).getD m 0 + R.getD m 0) % 2)
theorem addF_length (D R : List Nat) (m : Nat) : (addF D R m).length = D.length := by
  induction m with
  | zero => rfl
  | succ m ih => rw [addF, List.length_set, ih]
theorem addF_bits (D R : List Nat) (m : Nat) (h : Bit01 D) : Bit01 (addF D R m) := by
  induction m with
  | zero => exact h
  | succ m ih =>
    intro b hb
    rw [addF] at hb
    rcases List.mem_or_eq_of_mem_set hb with h1 | h1
    · exact ih b h1
    · rw [h1]; exact Nat.mod_lt _ (by omega)
theorem addF_next (D R : List Nat) (m : Nat) : ((addF D R m).map iv).set m (.int .i64 (((addF D R m).getD m 0 + R.getD m 0) % 2 : Nat)) = (addF D R (m + 1)).map iv := by
  rw [addF, List.map_set]
  rfl
/-- The bits that the register is, behind the text. -/
def moreL (r : Nat) (l : List UInt8) : List Nat := restL (addF (bitsB l ++ List.replicate 32 0) (bitsN r 32) 32)
theorem bit01_zeros (n : Nat) : Bit01 (List.replicate n 0) := by
  intro b hb
  rw [List.eq_of_mem_replicate hb]
  omega
theorem moreL_arg (r : Nat) (l : List UInt8) : Bit01 (addF (bitsB l ++ List.replicate 32 0) (bitsN r 32) 32) := addF_bits _ _ _ ((bit01_bitsB l).append (bit01_zeros 32))
theorem moreL_len (r : Nat) (l : List UInt8) : (addF (bitsB l ++ List.replicate 32 0) (bitsN r 32) 32).length = 8 * l.length + 32 := by
  rw [addF_length, List.length_append, bitsB_length, List.length_replicate]
theorem moreL_length (r : Nat) (l : List UInt8) : (moreL r l).length = 32 := restL_length _ (by rw [moreL_len]; omega)
theorem moreL_bits (r : Nat) (l : List UInt8) : Bit01 (moreL r l) := restL_bits _ (moreL_arg r l)
def moreN (r : Nat) (l : List UInt8) : Nat := val (moreL r l)
theorem moreN_lt (r : Nat) (l : List UInt8) : moreN r l < 4294967296 := by
  have h := val_lt (moreL r l) (moreL_bits r l)
  rw [moreL_length] at h
  exact h

set_option maxHeartbeats 1600000 in
theorem more_any (w : World) (r : Nat) (s : ByteArray) (hr : r < 4294967296) (hs : s.size ≤ 1000000) :
    Calls Try.prog 13 #[.int .u32 r, .string s] w fun e w' => e = .returned (.int .u32 (moreN r s.data.toList)) ∧ Below w.heap.size w w' := by
  obtain ⟨i3, h3, hz0, hzz1, hz2⟩ := info_parts Try.info3
  have HR := Lib.hid hr
  go_enter Try.func13, Try.ntmps13
  go_wp2_with fail
  refine (of_any w s hs).mono ?_
  rintro e w1 ⟨v, rfl, hop, hb1⟩
  have hz1 := hb1.size
  obtain ⟨v2, w2, hrun, hown2, hgrow2, hat⟩ := run_own_noughts (P := Try.prog) w1 w.heap.size 40 3 40 3 i3 .i64 .i64 Try.underlying40 Try.underlying3 h3 hz0 hzz1 hz2 v (8 * s.size) _ hop 32 (by omega) (by omega) (by omega) hz1
  have hb2 : Below w.heap.size w w2 := hb1.grown hgrow2 hz1 (fun k hk => (hop.lt k hk).1)
  have hown2' : w2.ownsRow w.heap.size 3 1 v2 (8 * s.size + 32) ((bitsB s.data.toList ++ List.replicate 32 0).map iv) := by
    rw [List.map_append, List.map_replicate]
    exact hown2
  have HRUN := Lib.hid hrun
  clear hrun
  go_wp2_with (at_builtin; refine Lib.wpList_append_run _ rfl _ _ 40 3 rfl v (.int .i64 32) rfl rfl v2 w2 HRUN.out ?_)
  obtain ⟨A2, c2, rfl, hnc2, hcm2, hA2⟩ := own_slice hown2'
  obtain ⟨g, rfl⟩ := hA2 (by omega)
  clear hown2 hat hgrow2 hop
  have hc : Calls Try.prog 22 #[.int .u64 r, .int .i64 32] w2 (RBitsPost w2 r 32) := rbits_any w2 r 32 (by omega) (by decide)
  have HC := Lib.hid hc
  clear hc
  go_wp2_with fail
  refine HC.out.mono ?_
  rintro e w3 ⟨gr, cr, rfl, hor, hb3⟩
  have hz2' := hb2.size
  have hb3' : Below w.heap.size w w3 := hb2.trans (hb3.mono hz2')
  have hown3 : w3.ownsRow w.heap.size 3 1 (.slice (some ⟨g, 0, none⟩) (8 * s.size + 32) c2) (8 * s.size + 32) ((addF (bitsB s.data.toList ++ List.replicate 32 0) (bitsN r 32) 0).map iv) :=
    (step_of_below hb3).row hown2' (fun _ _ => List.not_mem_nil) List.not_mem_nil
  have hor3 := hor.mono hz2'
  have hne : g ≠ gr := by
    have h1 := (hown2'.lt g rfl).2
    have h2 := (hor.lt gr rfl).1
    omega
  have hcr : 32 ≤ cr ∧ cr ≤ maxLen := by
    obtain ⟨_, _, hvv, h, h', _⟩ := own_slice hor
    simp only [Value.slice.injEq] at hvv
    omega
  unfold maxLen at hcr hcm2
  clear hown2' hor
  have HL := Lib.hid (moreL_len r s.data.toList)
  have HB := Lib.hid (moreL_arg r s.data.toList)
  have hDl : ∀ m, (addF (bitsB s.data.toList ++ List.replicate 32 0) (bitsN r 32) m).length = 8 * s.size + 32 := by
    intro m
    rw [addF_length, List.length_append, bitsB_length, List.length_replicate]
    rfl
  have hDb : ∀ m, Bit01 (addF (bitsB s.data.toList ++ List.replicate 32 0) (bitsN r 32) m) := fun m => addF_bits _ _ _ ((bit01_bitsB _).append (bit01_zeros 32))
  obtain ⟨D, hD⟩ : ∃ D, D = bitsB s.data.toList ++ List.replicate 32 0 := ⟨_, rfl⟩
  rw [← hD] at hown3 HL HB hDl hDb
  have HD := Lib.hid hD
  have HDL := Lib.hid hDl
  have HDB := Lib.hid hDb
  clear hD hDl hDb
  obtain ⟨n, hn⟩ : ∃ n, n = 8 * s.size + 32 := ⟨_, rfl⟩
  have hnb : 32 ≤ n ∧ n ≤ 8000032 := by omega
  rw [← hn] at hown3 HDL hnc2 ⊢
  have HN := Lib.hid hn
  clear hn HL HB
  go_wp2_with fail
  go_loopw [8] (fun i wr => ∃ j : Nat, j ≤ 32 ∧ i = .int .i64 j ∧ wr.ownsRow w.heap.size 3 1 (.slice (some ⟨g, 0, none⟩) n c2) n ((addF D (bitsN r 32) j).map iv) ∧ wr.ownsRow w.heap.size 3 1 (.slice (some ⟨gr, 0, none⟩) 32 cr) 32 ((bitsN r 32).map iv) ∧ Below w.heap.size w wr) (fun i _ => 32 - (intOf i).toNat)
  case atStart => exact ⟨0, Nat.zero_le _, rfl, hown3, hor3, hb3'⟩
  case round =>
    obtain ⟨j, hj, rfl, hown, hpo, hbl⟩ := hrel
    have hEl := HDL.out j
    have hEb := HDB.out j
    by_cases h : j < 32
    · have k1 : wr.cell? ⟨g, j, none⟩ = some (.int .i64 ((addF D (bitsN r 32) j).getD j 0 : Nat)) := by
        rw [hown.cellAt j (by omega), List.getElem?_map, List.getD_eq_getElem?_getD, List.getElem?_eq_getElem (by rw [hEl]; omega)]
        rfl
      have k2 : wr.cell? ⟨gr, j, none⟩ = some (.int .i64 ((bitsN r 32).getD j 0 : Nat)) := by
        rw [hpo.cellAt j (by omega), List.getElem?_map, List.getD_eq_getElem?_getD, List.getElem?_eq_getElem (by rw [bitsN_length]; omega)]
        rfl
      have k3 := hown.frozenAt j
      have b1 := bit_lt (addF D (bitsN r 32) j) j hEb
      have b2 := bit_lt (bitsN r 32) j (bit01_bitsN 32 r)
      have hst := hown.stored j (.int .i64 (((addF D (bitsN r 32) j).getD j 0 + (bitsN r 32).getD j 0) % 2 : Nat))
      rw [addF_next] at hst
      generalize (addF D (bitsN r 32) j).getD j 0 = x at *
      generalize (bitsN r 32).getD j 0 = y at *
      have hcast : (((x + y) % 2 : Nat) : Int) = ((x : Int) + y) % 2 := by omega
      rw [hcast] at hst
      have HCA := Lib.hid hcast
      have HEL := Lib.hid hEl
      clear hcast hEl
      go_upto_region 6 with fail
      go_region
      go_wp2_with fail
      go_roundw
      case rel =>
        have hlo : w.heap.size ≤ g := (hown.lt g rfl).1
        have hpk : (wr.setCell ⟨g, j, none⟩ (.int .i64 (((x : Int) + y) % 2))).ownsRow w.heap.size 3 1 (.slice (some ⟨gr, 0, none⟩) 32 cr) 32 ((bitsN r 32).map iv) :=
          hpo.kept hst.2 (.inr (by simpa [Value.ownBlock] using fun e => hne e.symm))
        exact ⟨j + 1, by omega, by go_num, hst.1, hpk, (hbl.setCell (p := ⟨g, j, none⟩) hlo _).drew⟩
      case measure => simp [intOf]; omega
    · obtain rfl : j = 32 := by omega
      have hI := ints_of_own hown
      have HII := Lib.hid hI
      clear hI hEl
      have hzr := hbl.size
      go_wp2_with fail
      refine (rest_any _ _ _ _ _ HII.out hEb (by omega) (by omega)).mono ?_
      rintro e w5 ⟨A5, c5, rfl, hI5, hb5⟩
      go_wp2_with fail
      refine (number_any _ _ _ _ _ hI5 (restL_bits _ hEb) (by omega)).mono ?_
      rintro e w6 ⟨rfl, rfl⟩
      have hlt := moreN_lt r s.data.toList
      have hmN : val (restL (addF D (bitsN r 32) 32)) = moreN r s.data.toList := by rw [HD.out]; rfl
      rw [hmN]
      have HMN := Lib.hid hmN
      clear hmN
      go_wp2_with fail
      go_ret
      exact ⟨rfl, hbl.trans (hb5.mono hzr)⟩

end Go.Proofs.Ytkhabmbclepjpaa
