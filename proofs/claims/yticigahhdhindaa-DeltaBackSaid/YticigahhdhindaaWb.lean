/- Put puts the n lowest bits of a number behind what is there, or refuses. Conditions: a writer has at most 10^12 bits before. -/
import Derived.Test.YticigahhdhindaaWa0
import Derived.Test.YticigahhdhindaaWp
import Derived.BigRegion
import Derived.LoopTactic
import Derived.Deep.LoopGhost
import Derived.IntWalk
import Derived.Deep.DeepCutAuto
import Derived.StillTailTactics
import Derived.Laws.AppendOwn
namespace Go.Proofs.Yticigahhdhindaa
open Go.RowKit

set_option maxRecDepth 100000 in
theorem wput_none (w : World) (x n : Int) : Calls Try.prog 19 #[.pointer none, .int .u64 x, .int .i64 n] w fun e w' => e = .returned (.int .i64 1) ∧ w = w' := by
  go_enter Try.func19, Try.ntmps19
  go_wp2_with (go_at_call 30; refine (wright_none _).mono ?_; rintro e w' ⟨rfl, rfl⟩)
  go_ret
  exact ⟨rfl, rfl⟩

set_option maxRecDepth 100000 in
theorem put_arg1 (w : World) (p : Nat) (h0 : w.cell? ⟨p, 0, none⟩ = some (.bool true)) (x n : Int) (hn : n < 0 ∨ 64 < n) : Calls Try.prog 19 #[.pointer (some ⟨p, 0, none⟩), .int .u64 x, .int .i64 n] w fun e w' => e = .returned (.int .i64 2) ∧ w = w' := by
  rcases hn with hn | hn
  · go_enter Try.func19, Try.ntmps19
    go_wp2_with (go_at_call 30; refine (wright_yes _ _ h0).mono ?_; rintro e w' ⟨rfl, rfl⟩)
    go_ret
    exact ⟨rfl, rfl⟩
  · have h' : 0 ≤ n := by omega
    go_enter Try.func19, Try.ntmps19
    go_wp2_with (go_at_call 30; refine (wright_yes _ _ h0).mono ?_; rintro e w' ⟨rfl, rfl⟩)
    go_ret
    exact ⟨rfl, rfl⟩

set_option maxRecDepth 100000 in
theorem put_arg2 (w : World) (p : Nat) (h0 : w.cell? ⟨p, 0, none⟩ = some (.bool true)) (x n : Nat) (hn : n ≤ 64) (hx2 : 2 ^ n ≤ x) : Calls Try.prog 19 #[.pointer (some ⟨p, 0, none⟩), .int .u64 x, .int .i64 n] w fun e w' => e = .returned (.int .i64 2) ∧ w = w' := by
    have hd : ((x : Int) / 2 ^ n != 0) = true := by
      rw [bne_iff_ne]
      have h1 : 0 < x / 2 ^ n := Nat.div_pos hx2 (Nat.two_pow_pos n)
      have h2 : ((x / 2 ^ n : Nat) : Int) = (x : Int) / 2 ^ n := by simp
      rw [← h2]; omega
    clear hx2
    go_enter Try.func19, Try.ntmps19
    go_wp2_with (go_at_call 30; refine (wright_yes _ _ h0).mono ?_; rintro e w' ⟨rfl, rfl⟩)
    go_ret
    exact ⟨rfl, rfl⟩

set_option maxRecDepth 100000 in
theorem put_ok (B : Nat) (w : World) (p : Nat) (v : Value) (L : List Nat) (x n : Nat) (hW : IsW B w p v L) (hL : L.length ≤ 1000000000000) (hn : n ≤ 64) (hx : x < 2 ^ n) :
    Calls Try.prog 19 #[.pointer (some ⟨p, 0, none⟩), .int .u64 x, .int .i64 n] w fun e w' => e = .returned (.int .i64 0) ∧ ∃ v', IsW B w' p v' (L ++ bitsN x n) ∧ Step B [p] [5] w w' := by
  have hd : ((x : Int) / 2 ^ n != 0) = false := by
    have h2 : ((x / 2 ^ n : Nat) : Int) = (x : Int) / 2 ^ n := by simp
    rw [← h2, Nat.div_eq_of_lt hx]; rfl
  have h0 := blk_cell hW.blk 0
  simp at h0
  go_enter Try.func19, Try.ntmps19
  go_wp2_with (go_at_call 30; refine (wright_yes _ _ h0).mono ?_; rintro e w' ⟨rfl, rfl⟩)
  go_loopw [2] (fun i wr => ∃ (m : Nat) (v' : Value), m ≤ n ∧ i = .int .i64 m ∧ IsW B wr p v' (L ++ bitsN (x / 2 ^ m) (n - m)) ∧ Step B [p] [5] w wr ∧ (m = 0 ∨ (L.length + (n - m)) % 8 = 0 ∨ x / 2 ^ m = 0)) (fun i _ => (intOf i).toNat)
  case atStart =>
    refine ⟨n, v, Nat.le_refl _, rfl, ?_, Step.refl _ _ _ _, .inr (.inr (Nat.div_eq_of_lt hx))⟩
    rw [Nat.sub_self, show bitsN (x / 2 ^ n) 0 = [] from rfl, List.append_nil]
    exact hW
  case round =>
    clear h0 hd
    obtain ⟨m, v', hm, rfl, hWr, hS, hz⟩ := hrel
    have HZ := Lib.hid hz; clear hz
    obtain ⟨len, hlen⟩ : ∃ len, len = (L ++ bitsN (x / 2 ^ m) (n - m)).length := ⟨_, rfl⟩
    have hlen' : len ≤ L.length + 64 := by rw [hlen, List.length_append, bitsN_length]; omega
    have c1 := blk_cell hWr.blk 1
    have c2 := blk_cell hWr.blk 2
    have f1 := blk_frozen hWr.blk 1
    have f2 := blk_frozen hWr.blk 2
    rw [← hlen] at c2
    simp at c1 c2
    have hblk : Blk wr p 62 #[.bool true, v', .int .i64 len] := by rw [hlen]; exact hWr.blk
    have HL := Lib.hid hlen; clear hlen
    obtain ⟨t, ht⟩ : ∃ t, (pack ((L ++ bitsN (x / 2 ^ m) (n - m)).take (8 * (len / 8)))).length = t := ⟨_, rfl⟩
    have HT := Lib.hid ht; clear ht
    have htl : 8 * t ≤ len := by
      rw [← HT.out, pack_length, List.length_take, ← HL.out]; omega
    by_cases h : 0 < m
    · go_upto_if 33 with fail
      go_cut [] from 24 to 80 (fun wx => Mid B w wx p len t (pack ((L ++ bitsN (x / 2 ^ m) (n - m)).take (8 * (len / 8)))) (UInt8.ofNat (val ((L ++ bitsN (x / 2 ^ m) (n - m)).drop (8 * (len / 8))) * 2 ^ (8 - len % 8))))
      case first =>
        obtain ⟨i5, hi, hz0, hz1, hz2⟩ := info_parts Try.info5
        by_cases h8 : len % 8 = 0
        · have h88 : ((8 - (len : Int) % 8) == 8) = true := by rw [beq_iff_eq]; omega
          have H8 := Lib.hid h8; clear h8
          go_wp2_with (at_builtin; refine wpList_append_own _ rfl _ _ 40 rfl B 5 i5 (.int .u8 0) 1 1 Try.underlying40 hi hz0 hz1 hz2 rfl (by decide) _ _ _ rfl (hWr.row.alloc _) ⟨wr.heap.size, 0, none⟩ 1 1 [.int .u8 0] rfl rfl ?c1 ?c2 ?c3 ?c4 ?c5 ?_)
          case c1 => exact cell_one_new _ _ _
          case c2 => intro u hu; simp at hu; subst hu; rfl
          case c3 => rw [pack_length, ← HL.out]; unfold maxLen; omega
          case c4 => rw [pack_length, ← HL.out]; omega
          case c5 => have := blk_lt hWr.blk; have := hWr.lo; simp; omega
          intro v1 w1 hown1 hgrow1 _
          have hm0 := pack_mid0 _ (by rw [← HL.out]; exact H8.out : (L ++ bitsN (x / 2 ^ m) (n - m)).length % 8 = 0)
          rw [← HL.out] at hm0
          have hm1 := mid_new (t := t) (by rw [← hm0.1]; exact HT.out) hblk hWr.lo hWr.row hS hown1 hgrow1
          have HM : Hid (_ ∧ _) := Lib.hid hm0
          clear hm0
          have hb1 := blk_grown hblk hWr.row (by decide) hgrow1
          have d1 := blk_cell hb1 1
          have e1 := blk_frozen hb1 1
          simp at d1
          obtain ⟨g1, cap1, hv1, hg1⟩ := row_form hown1
          rw [hv1] at hm1 ⊢
          have HV1 := Lib.hid hv1; clear hv1
          go_wp2
          go_meet
          case rel => rw [HM.out.1, HM.out.2]; exact hm1
        · have h88 : ((8 - (len : Int) % 8) == 8) = false := by rw [beq_eq_false_iff_ne]; omega
          have H8 := Lib.hid h8; clear h8
          go_wp2
          go_meet
          case rel => exact mid_same (by have := pack_mid1 _ (by rw [← HL.out]; exact H8.out); rw [← HL.out] at this; exact this) HT.out hblk hWr.row hS
      case rest =>
        obtain ⟨g, cap, hb, hr, hg, hS1⟩ := hcut
        clear c1 c2 f1 f2 hblk hWr
        have c0 := blk_cell hb 0
        have c1 := blk_cell hb 1
        have c2 := blk_cell hb 2
        have f1 := blk_frozen hb 1
        have f2 := blk_frozen hb 2
        simp at c0 c1 c2
        have r1 := hr.cellAt t (by omega)
        have r2 := hr.frozenAt t
        rw [List.map_append, List.getElem?_append_right (by rw [List.length_map, HT.out]; exact Nat.le_refl _)] at r1
        rw [List.length_map, HT.out, Nat.sub_self] at r1
        simp [bv] at r1
        have hne : g ≠ p := row_ne hr hb (by decide) g rfl
        have hne' : p ≠ g := fun e => hne e.symm
        by_cases hmin : m ≤ 8 - len % 8
        · go_upto_region 10 with fail
          go_region
          go_wp2
          go_roundw
          case rel =>
            obtain ⟨⟨v2, h1⟩, h2, h3⟩ := put_close (m1 := 0) (k := m) HL.out HT.out hb hr hW.lo hg hS1 hW.bit h (by omega) (by omega) hm (.inl rfl) hne (y_last _ x len m hmin (low_zero HZ.out h (by omega) HL.out))
            exact ⟨0, v2, Nat.zero_le _, rfl, h1, h2, h3⟩
          case measure => simp [intOf]; omega
        · have hmin' : 8 - len % 8 < m := by omega
          clear hmin
          go_upto_region 10 with fail
          go_region
          go_wp2
          go_roundw
          case rel =>
            obtain ⟨⟨v2, h1⟩, h2, h3⟩ := put_close (m1 := m - (8 - len % 8)) (k := 8 - len % 8) HL.out HT.out hb hr hW.lo hg hS1 hW.bit (by omega) (by omega) (by omega) hm (.inr rfl) hne (y_full _ x len _ (low_zero HZ.out h (by omega) HL.out))
            have hk : (((8 - len % 8 : Nat) : Int)) = 8 - (len : Int) % 8 := by omega
            rw [hk] at h1 h2
            exact ⟨m - (8 - len % 8), v2, by omega, by congr 1; omega, h1, h2, h3⟩
          case measure => simp [intOf]; omega
    · obtain rfl : m = 0 := by omega
      rw [Nat.pow_zero, Nat.div_one, Nat.sub_zero] at hWr
      go_wp2
      go_ret
      exact ⟨rfl, ⟨v', hWr⟩, hS⟩

end Go.Proofs.Yticigahhdhindaa
