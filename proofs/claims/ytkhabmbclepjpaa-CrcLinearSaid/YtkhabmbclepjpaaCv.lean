/- The reference's sums of bzip2, of IEEE and of a stream, walked. Conditions: texts of at most a hundred thousand bytes. -/
import Derived.Test.YtkhabmbclepjpaaCu
namespace Go.Proofs.Ytkhabmbclepjpaa
open Go.RowKit

def bzipN (l : List UInt8) : Nat := 4294967295 - moreN 4294967295 l
theorem bzipN_lt (l : List UInt8) : bzipN l < 4294967296 := by unfold bzipN; omega

theorem bzip_any (w : World) (s : ByteArray) (hs : s.size ≤ 1000000) :
    Calls Try.prog 10 #[.string s] w fun e w' => e = .returned (.int .u32 (bzipN s.data.toList)) ∧ Below w.heap.size w w' := by
  go_enter Try.func10, Try.ntmps10
  go_wp2_with fail
  refine (more_any w 4294967295 s (by decide) hs).mono ?_
  rintro e w1 ⟨rfl, hb⟩
  have hlt := moreN_lt 4294967295 s.data.toList
  have hsub : ((bzipN s.data.toList : Nat) : Int) = 4294967295 - (moreN 4294967295 s.data.toList : Int) := by unfold bzipN; omega
  have HS := Lib.hid hsub
  clear hsub
  generalize moreN 4294967295 s.data.toList = x at *
  go_wp2_with fail
  go_ret
  refine ⟨?_, hb⟩
  show Ending.returned (Value.int .u32 (4294967295 - (x : Int))) = _
  rw [HS.out]

/-- The bits of a text, each byte's turned. -/
def turnB (l : List UInt8) : List Nat := l.flatMap fun c => (bitsN c.toNat 8).reverse
theorem turnB_append (a b : List UInt8) : turnB (a ++ b) = turnB a ++ turnB b := by simp [turnB]
theorem turnB_one (c : UInt8) : turnB [c] = (bitsN c.toNat 8).reverse := by simp [turnB]
theorem turnB_length (l : List UInt8) : (turnB l).length = 8 * l.length := by
  induction l with
  | nil => rfl
  | cons c l ih =>
    have h : c :: l = [c] ++ l := rfl
    rw [h, turnB_append, turnB_one, List.length_append, List.length_append, ih, List.length_reverse, bitsN_length]
    simp
    omega
theorem Bit01.reverse {l : List Nat} (h : Bit01 l) : Bit01 l.reverse := fun b hb => h b (List.mem_reverse.1 hb)
theorem turnB_bits (l : List UInt8) : Bit01 (turnB l) := by
  induction l with
  | nil => intro b hb; cases hb
  | cons c l ih =>
    have h : c :: l = [c] ++ l := rfl
    rw [h, turnB_append, turnB_one]
    exact Bit01.append (bit01_bitsN 8 c.toNat).reverse ih
def ieeeN (l : List UInt8) : Nat := val (bitsN (bzipN (pack (turnB l))) 32).reverse
theorem ieeeN_lt (l : List UInt8) : ieeeN l < 4294967296 := by
  have h := val_lt _ (bit01_bitsN 32 (bzipN (pack (turnB l)))).reverse
  rw [List.length_reverse, bitsN_length] at h
  exact h

theorem one_list (s : ByteArray) (j : Nat) (h : j < s.size) : (s.extract j (j + 1)).data.toList = [s[j]] := by
  rw [ByteArray.data_extract, Array.toList_extract]
  have h' : j < s.data.toList.length := by simpa using h
  rw [List.extract_eq_take_drop, show j + 1 - j = 1 by omega, List.drop_eq_getElem_cons h']
  rfl
theorem one_size (s : ByteArray) (j : Nat) (h : j < s.size) : (s.extract j (j + 1)).size = 1 := by
  rw [ByteArray.size_extract]; omega
theorem one_bits (c : UInt8) : bitsB [c] = bitsN c.toNat 8 := by rw [bitsB_cons, bitsB_nil, List.append_nil]
theorem take_turn (s : ByteArray) (j : Nat) (h : j < s.size) : turnB (s.data.toList.take (j + 1)) = turnB (s.data.toList.take j) ++ (bitsN (s[j]).toNat 8).reverse := by
  have hjl : j < s.data.toList.length := by simpa using h
  have h1 : s.data.toList.take (j + 1) = s.data.toList.take j ++ [s[j]] := List.take_succ_eq_append_getElem hjl
  rw [h1, turnB_append, turnB_one]

set_option maxHeartbeats 1600000 in
theorem ieee_any (w : World) (s : ByteArray) (hs : s.size ≤ 100000) :
    Calls Try.prog 15 #[.string s] w fun e w' => e = .returned (.int .u32 (ieeeN s.data.toList)) ∧ Below w.heap.size w w' := by
  obtain ⟨i3, h3, hz0, hz1, hz2⟩ := info_parts Try.info3
  go_enter Try.func15, Try.ntmps15
  go_wp2_with fail
  go_loopw [3, 4] (fun v i wr => ∃ j : Nat, j ≤ s.size ∧ i = .int .i64 j ∧ wr.ownsRow w.heap.size 3 1 v (8 * j) ((turnB (s.data.toList.take j)).map iv) ∧ Below w.heap.size w wr) (fun _ i _ => s.size - (intOf i).toNat)
  case atStart => exact ⟨0, Nat.zero_le _, rfl, World.ownsRow_nil _ _ _ _, Below.refl _ _⟩
  case round =>
    obtain ⟨j, hj, rfl, hown, hb⟩ := hrel
    have hsize := hb.size
    by_cases h : j < s.size
    · rename_i v0 _
      obtain ⟨A0, c0, rfl, hnc0, hcm0, hA0⟩ := own_slice hown
      have hof := of_any wr (s.extract j (j + 1)) (by rw [ByteArray.size_extract]; omega)
      rw [one_list s j h, one_size s j h, one_bits] at hof
      have HOF := Lib.hid hof
      have HT := Lib.hid (take_turn s j h)
      clear hof
      go_wp2_with fail
      refine HOF.out.mono ?_
      rintro e w1 ⟨v1, rfl, ho1, hb1⟩
      obtain ⟨A1, c1, rfl, hnc1, hcm1, hA1⟩ := own_slice ho1
      obtain ⟨g1, rfl⟩ := hA1 (by omega)
      have hi1 := ints_of_own ho1
      have hz1' := hb1.size
      go_wp2_with fail
      refine (turned_any _ _ _ _ _ hi1 (bit01_bitsN _ _) (by omega)).mono ?_
      rintro e w2 ⟨v2, rfl, ho2, hb2⟩
      obtain ⟨A2, c2, rfl, hnc2, hcm2, hA2⟩ := own_slice ho2
      obtain ⟨g2, rfl⟩ := hA2 (by omega)
      have hz2' := hb2.size
      have hown2 : w2.ownsRow w.heap.size 3 1 (.slice A0 (8 * j) c0) (8 * j) ((turnB (s.data.toList.take j)).map iv) :=
        (step_of_below hb2).row ((step_of_below hb1).row hown (fun _ _ => List.not_mem_nil) List.not_mem_nil) (fun _ _ => List.not_mem_nil) List.not_mem_nil
      have hbw2 : Below w.heap.size w w2 := (hb.trans (hb1.mono hsize)).trans (hb2.mono (Nat.le_trans hsize hz1'))
      have hsrc := ho2.cells (g := g2) rfl
      obtain ⟨xs, hxs⟩ : ∃ xs, xs = (turnB (s.data.toList.take j)).map iv := ⟨_, rfl⟩
      obtain ⟨ys, hys⟩ : ∃ ys, ys = (bitsN (s[j]).toNat 8).reverse.map iv := ⟨_, rfl⟩
      rw [← hxs] at hown2
      rw [← hys] at hsrc
      have hyl : ys.length = 8 := by rw [hys, List.length_map, List.length_reverse, bitsN_length]
      have hy1 : ∀ u ∈ ys, u.oneCell' = true := by
        intro u hu
        rw [hys] at hu
        obtain ⟨q, _, rfl⟩ := List.mem_map.1 hu
        rfl
      have HXS := Lib.hid hxs
      have HYS := Lib.hid hys
      have HSRC := Lib.hid hsrc
      have HYL := Lib.hid hyl
      have HY1 := Lib.hid hy1
      clear hxs hys hsrc hyl hy1 hown ho1 hi1 ho2 hA1 hA0
      go_wp2_with (at_builtin; refine wpList_append_own _ rfl _ _ 40 rfl w.heap.size 3 i3 (.int .i64 0) 1 8 Try.underlying40 h3 hz0 hz1 hz2 rfl (by decide) _ _ _ rfl hown2 ⟨g2, 0, none⟩ 8 c2 ys rfl HYL.out HSRC.out HY1.out ?c3 ?c4 ?c5 ?_)
      case c3 => unfold maxLen; omega
      case c4 => omega
      case c5 => exact hbw2.size
      intro v3 w3 hown3 hgrow3 _
      have hb3 : Below w.heap.size w w3 := hbw2.grown hgrow3 hbw2.size (fun k hk => (hown2.lt k hk).1)
      have hown4 : w3.ownsRow w.heap.size 3 1 v3 (8 * (j + 1)) ((turnB (s.data.toList.take (j + 1))).map iv) := by
        rw [HT.out, List.map_append, ← HXS.out, ← HYS.out, show 8 * (j + 1) = 8 * j + 8 by omega]
        exact hown3
      clear hown3 hgrow3 hown2
      go_wp2
      go_roundw
      case rel => exact ⟨j + 1, by omega, by go_num, hown4, hb3⟩
      case measure => simp [intOf]; omega
    · obtain rfl : j = s.size := by omega
      rename_i v0 _
      obtain ⟨A0, c0, rfl, hnc0, hcm0, hA0⟩ := own_slice hown
      have hall : s.data.toList.take s.size = s.data.toList := List.take_of_length_le (Nat.le_of_eq rfl)
      rw [hall] at hown
      have hi := ints_of_own hown
      have HI := Lib.hid hi
      have hpk : (pack (turnB s.data.toList)).length ≤ 1000000 := by rw [pack_length, turnB_length]; show (8 * s.size + 7) / 8 ≤ _; omega
      have HP := Lib.hid hpk
      clear hall hown hi hpk
      go_wp2_with fail
      refine (text_any _ _ _ _ _ HI.out (turnB_bits _) (by omega)).mono ?_
      rintro e w1 ⟨rfl, hb1⟩
      have hz1' := hb1.size
      have hbz := bzip_any w1 ⟨(pack (turnB s.data.toList)).toArray⟩ HP.out
      have HBZ := Lib.hid hbz
      clear hbz
      go_wp2_with fail
      refine HBZ.out.mono ?_
      rintro e w2 ⟨rfl, hb2⟩
      have hz2' := hb2.size
      have hlt := bzipN_lt (pack (turnB s.data.toList))
      have hlt2 := ieeeN_lt s.data.toList
      have hie : ieeeN s.data.toList = val (bitsN (bzipN (pack (turnB s.data.toList))) 32).reverse := rfl
      have HIE := Lib.hid hie
      clear hie
      have hbits := rbits_any w2 (bzipN (pack (turnB s.data.toList))) 32 (by omega) (by decide)
      have HBI := Lib.hid hbits
      clear hbits
      generalize hB : bzipN (pack (turnB s.data.toList)) = B at *
      have HHB := Lib.hid hB
      clear hB
      go_wp2_with fail
      refine HBI.out.mono ?_
      rintro e w3 ⟨gr, cr, rfl, hor, hb3⟩
      have hir := ints_of_own hor
      have HIR := Lib.hid hir
      have hz3' := hb3.size
      clear hir hor
      go_wp2_with fail
      refine (turned_any _ _ _ _ _ HIR.out (bit01_bitsN _ _) (by omega)).mono ?_
      rintro e w4 ⟨v4, rfl, ho4, hb4⟩
      obtain ⟨A4, c4, rfl, hnc4, hcm4, hA4⟩ := own_slice ho4
      have hi4 := ints_of_own ho4
      have HI4 := Lib.hid hi4
      clear hi4 ho4 hA4
      go_wp2_with fail
      refine (number_any _ _ _ _ _ HI4.out (bit01_bitsN _ _).reverse (by omega)).mono ?_
      rintro e w5 ⟨rfl, rfl⟩
      rw [← HIE.out]
      go_wp2_with fail
      go_ret
      refine ⟨rfl, ?_⟩
      have h1 := hb.trans (hb1.mono hsize)
      have h2 := h1.trans (hb2.mono (Nat.le_trans hsize hz1'))
      have h3 := h2.trans (hb3.mono (Nat.le_trans hsize (Nat.le_trans hz1' hz2')))
      exact h3.trans (hb4.mono (Nat.le_trans hsize (Nat.le_trans hz1' (Nat.le_trans hz2' hz3'))))

end Go.Proofs.Ytkhabmbclepjpaa
