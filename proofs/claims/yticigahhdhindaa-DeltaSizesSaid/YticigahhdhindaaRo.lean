/- The reference Of tells the bits of a text. Conditions: a text of at most a million bytes. -/
import Derived.Test.YticigahhdhindaaI
namespace Go.Proofs.Yticigahhdhindaa
open Go.RowKit

set_option maxRecDepth 100000 in
theorem of_any (w : World) (s : ByteArray) (hs : s.size ≤ 1000000) :
    Calls Try.prog 13 #[.string s] w fun e w' => ∃ v, e = .returned v ∧ w'.ownsRow w.heap.size 3 1 v (8 * s.size) ((bitsB s.data.toList).map iv) ∧ Below w.heap.size w w' := by
  obtain ⟨i3, hi, hz0, hz1, hz2⟩ := info_parts Try.info3
  go_enter Try.func13, Try.ntmps13
  go_wp2
  go_loopw [3, 4] (fun v i wr => ∃ j : Nat, j ≤ s.size ∧ i = .int .i64 j ∧ wr.ownsRow w.heap.size 3 1 v (8 * j) ((bitsB (s.data.toList.take j)).map iv) ∧ Below w.heap.size w wr) (fun _ i _ => s.size - (intOf i).toNat)
  case atStart => exact ⟨0, Nat.zero_le _, rfl, World.ownsRow_nil _ _ _ _, Below.refl _ _⟩
  case round =>
    obtain ⟨j, hj, rfl, hown, hb⟩ := hrel
    rename_i v0 _
    have hsize := hb.size
    by_cases h : j < s.size
    · go_wp2
      obtain ⟨wo, ho⟩ : ∃ wo : World, wo = wr := ⟨_, rfl⟩
      have HO := Lib.hid ho
      clear ho
      go_loopw [3, 5] (fun v k wx => ∃ m r : Nat, m + r = 8 ∧ k = .int .i64 ((r : Int) - 1) ∧ wx.ownsRow w.heap.size 3 1 v (8 * j + m) ((bitsB (s.data.toList.take j) ++ (bitsN (s[j]).toNat 8).take m).map iv) ∧ Below w.heap.size w wx) (fun _ k _ => (intOf k + 1).toNat)
      case atStart => exact ⟨0, 8, rfl, rfl, by simpa using hown, hb⟩
      case round =>
        obtain ⟨m, r, hmr, rfl, hown1, hb1⟩ := hrel
        have hmr1 : m ≤ 8 := by omega
        have hsize1 := hb1.size
        match r, hmr with
        | 0, hmr =>
          obtain rfl : m = 8 := by omega
          have e1 : ((0 : Nat) : Int) - 1 = -1 := rfl
          rw [e1]
          clear e1
          have hown4 := hown1
          rw [List.take_of_length_le (show (bitsN (s[j]).toNat 8).length ≤ 8 by rw [bitsN_length]; exact Nat.le_refl _)] at hown4
          have HT : Hid (s.data.toList.take (j + 1) = s.data.toList.take j ++ [s[j]]) := by
            have hjl : j < s.data.toList.length := by simpa using h
            exact List.take_succ_eq_append_getElem hjl
          go_wp2
          go_roundw
          case rel =>
            refine ⟨j + 1, h, by go_num, ?_, hb1⟩
            rw [HT.out, bitsB_append, bitsB_cons, bitsB_nil, List.append_nil]
            exact hown4
          case measure => simp [intOf]; omega
        | q + 1, hmr =>
          have e1 : ((q + 1 : Nat) : Int) - 1 = (q : Int) := by omega
          rw [e1]
          clear e1
          have hq : (q : Int) ≤ 7 := by omega
          obtain ⟨xs, hxs⟩ : ∃ xs, xs = (bitsB (s.data.toList.take j) ++ (bitsN (s[j]).toNat 8).take m).map iv := ⟨_, rfl⟩
          rw [← hxs] at hown1
          have HX := Lib.hid hxs
          clear hxs
          have hbyte : (s[j].toNat : Int) < 256 := by have := s[j].toNat_lt; omega
          go_wp2_with (at_builtin; refine wpList_append_own _ rfl _ _ 22 rfl w.heap.size 3 i3 (.int .i64 0) 1 8 Try.underlying22 hi hz0 hz1 hz2 rfl (by decide) _ _ _ rfl (hown1.alloc _) ⟨wr.heap.size, 0, none⟩ 1 1 [.int .i64 (bits BinOp.and IntKind.i64 (s[j].toNat / 2 ^ q) 1)] rfl rfl ?c1 ?c2 ?c3 ?c4 ?c5 ?_)
          case c1 => exact cell_one_new _ _ _
          case c2 => intro u hu; simp at hu; subst hu; rfl
          case c3 => unfold maxLen; omega
          case c4 => omega
          case c5 => simp; omega
          intro v2 w2 hown2 hgrow2 _
          have hb2 : Below w.heap.size w w2 := (hb1.alloc hsize1 _).grown hgrow2 (by simp; omega) (fun k hk => (hown1.lt k hk).1)
          have HE := bit_and _ q s[j].toNat_lt
          rw [HE] at hown2
          clear HE
          have hown3 : w2.ownsRow w.heap.size 3 1 v2 (8 * j + (m + 1)) ((bitsB (s.data.toList.take j) ++ (bitsN (s[j]).toNat 8).take (m + 1)).map iv) := by
            have hg := bitsN_get 8 (s[j]).toNat m (by omega)
            rw [List.take_add_one, hg, ← List.append_assoc, List.map_append, ← HX.out, show 8 - 1 - m = q by omega, ← Nat.add_assoc]
            exact hown2
          clear hown2 hgrow2 hown1 hb1
          go_wp2
          go_roundw
          case rel => exact ⟨m + 1, q, by omega, rfl, hown3, hb2⟩
          case measure => simp [intOf]
    · obtain rfl : j = s.size := by omega
      go_wp2
      go_ret
      refine ⟨_, rfl, ?_, hb⟩
      rw [List.take_of_length_le (by simp)] at hown
      exact hown

end Go.Proofs.Yticigahhdhindaa
