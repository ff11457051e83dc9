/- The law DeltaSteps, walked over what is asked of the code's functions. Written ahead of stage 10. -/
import Derived.Test.YticigahhdhindaaTf
namespace Go.Proofs.Yticigahhdhindaa
open Go.RowKit

def uv (b : Nat) : Value := .int .u8 b
set_option maxRecDepth 100000 in
/-- A bit of a text, as the law takes it. -/
theorem text_bit (s : ByteArray) (n : Nat) (hn : n < 8 * s.size) (h : n / 8 < s.size) :
    bits BinOp.and IntKind.u8 ((s[n / 8].toNat : Int) / 2 ^ (7 - n % 8)) 1 = (((bitsB s.data.toList).getD n 0 : Nat) : Int) := by
  have h1 : ((s[n / 8].toNat : Int) / 2 ^ (7 - n % 8)) = ((s[n / 8].toNat / 2 ^ (7 - n % 8) : Nat) : Int) := by rw [Int.natCast_ediv, Int.natCast_pow]; rfl
  have hlt : s[n / 8].toNat / 2 ^ (7 - n % 8) < 256 := Nat.lt_of_le_of_lt (Nat.div_le_self _ _) (s[n / 8].toNat_lt)
  have h2 := u8_and_nat _ 1 hlt (by omega)
  rw [nat_mask1] at h2
  rw [h1]
  rw [show ((1 : Nat) : Int) = 1 from rfl] at h2
  rw [h2, List.getD_eq_getElem?_getD, bitsB_get _ _ (by simpa using hn)]
  have h3 : s.data.toList.getD (n / 8) 0 = s[n / 8] := by
    rw [List.getD_eq_getElem?_getD, List.getElem?_eq_getElem (by simpa using h)]
    rfl
  rw [h3]
  rfl
theorem pack_bit (B : List Nat) (hB : Bit01 B) (i : Nat) (hi : i < B.length) : (bitsB (pack B)).getD i 0 = B.getD i 0 := by
  rw [bitsB_pack B hB, List.getD_eq_getElem?_getD, List.getD_eq_getElem?_getD, List.getElem?_append_left hi]

section
variable (R : DeltaDone)
include R

set_option maxHeartbeats 3200000 in
set_option maxRecDepth 100000 in
theorem steps_walk (w : World) (A : Option Addr) (n c : Nat) (L : List Int) (at' : Int) (hz : ZIn w A n L) (hnc : n ≤ c) (hn : n ≤ maxLen) (h1 : -9223372036854775808 ≤ at') (h2 : at' ≤ 9223372036854775807) : Calls Try.prog 7 #[.slice A n c, .int .i64 at'] w fun e w' => e = .returned (.bool true) ∧ Below w.heap.size w w' := by
  have HAW := Lib.hid (awake_any R)
  have HA := Lib.hid (R.shows w A n c L hz hnc hn)
  have hsh := show_short L
  have hco := show_code L
  have hlm := hz.1
  by_cases hk : (showAns L).2 = 0
  · obtain ⟨hok, he⟩ := show_none hk
    have hans : showAns L = (showD (nl L), 0) := by rw [← hk, ← he]
    rw [hans] at HA hsh
    have hsh2 : (showD (nl L)).length ≤ 11000 := hsh
    have HA2 : Hid (Calls Try.prog 8 #[.slice A n c] w fun e w' => e = .returned (.tuple #[.agg #[.string ⟨(pack (showD (nl L))).toArray⟩, .int .i64 (showD (nl L)).length], .int .i64 0]) ∧ Below w.heap.size w w') := HA
    have hlen := showD_length (nl L)
    have hin := nl_in hok
    have hn258 : n ≤ 258 := by have := hok.2.1; omega
    have hn2 : 2 ≤ n := by have := hok.1; omega
    obtain ⟨b, off, rfl, hcells⟩ := hz.2 (by omega)
    have hget : ∀ i, i < n → w.cell? ⟨b, off + i, none⟩ = some (.int .i64 ((nl L).getD i 0 : Nat)) := by
      intro i hi
      have := (hok.2.2 _ (int_mem (L := L) (j := i) (by omega))).1
      rw [hcells i hi, nl_get, Int.toNat_of_nonneg (by omega)]
    obtain ⟨l, hl⟩ : ∃ l, l = nl L := ⟨_, rfl⟩
    have hll : l.length = n := by rw [hl, nl_length, hlm]
    rw [← hl] at hlen hin hget HA2 hsh2
    obtain ⟨bt, hbt⟩ : ∃ bt, bt = showD l := ⟨_, rfl⟩
    have hb01 : Bit01 bt := by rw [hbt]; exact bit_showD _
    rw [← hbt] at HA2 hsh2 hlen
    obtain ⟨q, hq⟩ : ∃ q, q = bt.length := ⟨_, rfl⟩
    rw [← hq] at HA2 hsh2 hlen
    obtain ⟨T, hT⟩ : ∃ T : ByteArray, T = ⟨(pack bt).toArray⟩ := ⟨_, rfl⟩
    rw [← hT] at HA2
    have hTs : T.size = (q + 7) / 8 := by
      rw [hT]
      show (pack bt).toArray.size = _
      rw [List.size_toArray, pack_length, hq]
    have hbit : ∀ (i : Nat) (hi : i < q) (h : i / 8 < T.size), bits BinOp.and IntKind.u8 ((T[i / 8].toNat : Int) / 2 ^ (7 - i % 8)) 1 = ((bt.getD i 0 : Nat) : Int) := by
      intro i hi h
      rw [text_bit T i (by omega) h]
      have e : T.data.toList = pack bt := by rw [hT]
      rw [e, pack_bit bt hb01 i (by rw [← hq]; exact hi)]
    have HIN := Lib.hid hin
    have HGET := Lib.hid hget
    have HLL := Lib.hid hll
    have HBIT := Lib.hid hbit
    have HB01 := Lib.hid hb01
    have HBT := Lib.hid hbt
    have HQ := Lib.hid hq
    have c0 := hget 0 (by omega)
    rw [Nat.add_zero] at c0
    have x20 := (hin _ (nat_mem (L := l) (j := 0) (by omega))).2
    obtain ⟨x0, hx0⟩ : ∃ x0, x0 = l.getD 0 0 := ⟨_, rfl⟩
    rw [← hx0] at c0 x20
    have HX0 := Lib.hid hx0
    have hb0 : b < w.heap.size := World.block_lt_of_cell? w _ c0
    have hq7 : 7 ≤ q := by rw [hlen, hll]; omega
    obtain ⟨i5, h5, hz0, hz1, hz2⟩ := info_parts Try.info5
    clear hz hlm hsh hco hk he hans HA hT hq hok hlen hin hget hcells hll hl hbt hb01 hbit hx0
    unfold maxLen at hn
    by_cases hbad : at' < 0 ∨ (n : Int) ≤ at' ∨ 20 ≤ x0
    · by_cases e1 : at' < 0
      · have d1 : decide (at' < 0) = true := decide_eq_true e1
        clear hbad
        go_enter Try.func7, Try.ntmps7
        go_wp2_with fail
        refine HA2.out.mono ?_
        rintro e w1 ⟨rfl, hb1⟩
        have hba : Below w1.heap.size w1 (w1.alloc (.cells #[.string T, .int .i64 q] 24)) := (Below.refl _ _).alloc (Nat.le_refl _) _
        have HB1 := Lib.hid (hb1.trans (hba.mono hb1.size))
        clear hb1 hba
        go_wp2_with fail
        refine (HAW.out _).mono ?_
        rintro e w5 ⟨rfl, hb5⟩
        have HB5 := Lib.hid (HB1.out.trans (hb5.mono HB1.out.size))
        clear hb5
        go_wp2_with fail
        go_ret
        exact ⟨rfl, HB5.out⟩
      · have d1 : decide (at' < 0) = false := decide_eq_false e1
        by_cases e2 : (n : Int) ≤ at'
        · have d2 : decide ((n : Int) ≤ at') = true := decide_eq_true e2
          clear hbad
          go_enter Try.func7, Try.ntmps7
          go_wp2_with fail
          refine HA2.out.mono ?_
          rintro e w1 ⟨rfl, hb1⟩
          have hba : Below w1.heap.size w1 (w1.alloc (.cells #[.string T, .int .i64 q] 24)) := (Below.refl _ _).alloc (Nat.le_refl _) _
          have HB1 := Lib.hid (hb1.trans (hba.mono hb1.size))
          clear hb1 hba
          go_wp2_with fail
          refine (HAW.out _).mono ?_
          rintro e w5 ⟨rfl, hb5⟩
          have HB5 := Lib.hid (HB1.out.trans (hb5.mono HB1.out.size))
          clear hb5
          go_wp2_with fail
          go_ret
          exact ⟨rfl, HB5.out⟩
        · have d2 : decide ((n : Int) ≤ at') = false := decide_eq_false e2
          have d3 : decide ((20 : Int) ≤ (x0 : Int)) = true := decide_eq_true (by omega)
          have hx20 : 20 ≤ x0 := by omega
          clear hbad
          go_enter Try.func7, Try.ntmps7
          go_wp2_with fail
          refine HA2.out.mono ?_
          rintro e w1 ⟨rfl, hb1⟩
          have hba : Below w1.heap.size w1 (w1.alloc (.cells #[.string T, .int .i64 q] 24)) := (Below.refl _ _).alloc (Nat.le_refl _) _
          have hb2 := hb1.trans (hba.mono hb1.size)
          have q0 := (hb2.cell (p := ⟨b, off, none⟩) hb0).trans c0
          have HB1 := Lib.hid hb2
          clear hb1 hba hb2
          go_wp2_with fail
          refine (HAW.out _).mono ?_
          rintro e w5 ⟨rfl, hb5⟩
          have HB5 := Lib.hid (HB1.out.trans (hb5.mono HB1.out.size))
          clear hb5
          go_wp2_with fail
          go_ret
          exact ⟨rfl, HB5.out⟩
    · obtain ⟨p, rfl⟩ : ∃ p : Nat, at' = p := ⟨at'.toNat, by omega⟩
      have hpn : p < n := by omega
      have hx19 : x0 < 20 := by omega
      have d1 : decide ((p : Int) < 0) = false := decide_eq_false (by omega)
      have hnp : ¬ n ≤ p := by omega
      have d2 : decide ((n : Int) ≤ (p : Int)) = false := decide_eq_false (by omega)
      have hnx : ¬ 20 ≤ x0 := by omega
      have d3 : decide ((20 : Int) ≤ (x0 : Int)) = false := decide_eq_false (by omega)
      clear hbad
      go_enter Try.func7, Try.ntmps7
      go_wp2_with fail
      refine HA2.out.mono ?_
      rintro e w1 ⟨rfl, hb1⟩
      have hba : Below w1.heap.size w1 (w1.alloc (.cells #[.string T, .int .i64 q] 24)) := (Below.refl _ _).alloc (Nat.le_refl _) _
      have hb2 := hb1.trans (hba.mono hb1.size)
      have q0 := (hb2.cell (p := ⟨b, off, none⟩) hb0).trans c0
      have HB2 := Lib.hid hb2
      have HK := Lib.hid (blk_new w1 24 #[.string T, .int .i64 q])
      have HG2 := Lib.hid fun (i : Nat) (hi : i < n) => (hb2.cell (p := ⟨b, off + i, none⟩) hb0).trans (HGET.out i hi)
      clear hb1 hba hb2 HGET
      go_wp2_with fail
      obtain ⟨w2, hw2⟩ : ∃ w2, w2 = w1.alloc (.cells #[.string T, .int .i64 q] 24) := ⟨_, rfl⟩
      rw [← hw2] at HB2 HK HG2 q0 ⊢
      clear hw2 q0
      go_loopw [7, 8] (fun out iv' wx => ∃ (i : Nat) (o : List Nat), i ≤ q ∧ iv' = .int .i64 i ∧ o.length ≤ i + 4 ∧ Hid (o = gather bt i) ∧ wx.ownsRow w2.heap.size 5 1 out o.length (o.map uv) ∧ Below w2.heap.size w2 wx) (fun _ iv' _ => q - (intOf iv').toNat)
      case atStart => exact ⟨0, [], Nat.zero_le _, rfl, Nat.zero_le _, Lib.hid rfl, World.ownsRow_nil _ _ _ _, Below.refl _ _⟩
      case round =>
        obtain ⟨i, o, hi, rfl, hol, ho, hown, hb⟩ := hrel
        have HO := Lib.hid hown
        have HB := Lib.hid hb
        have hz9 := hb.size
        have hk3 := (step_of_below hb).blk HK.out List.not_mem_nil List.not_mem_nil
        have k0 : wr.cell? ⟨w1.heap.size, 0, none⟩ = some (.string T) := blk_cell hk3 0
        have k1 : wr.cell? ⟨w1.heap.size, 1, none⟩ = some (.int .i64 q) := blk_cell hk3 1
        obtain ⟨A0, c0', rfl, hn0, hm0, _⟩ := own_slice hown
        unfold maxLen at hm0
        clear hown hb
        by_cases e : i < q
        · have d4 : decide ((i : Int) < (q : Int)) = true := decide_eq_true (by omega)
          have hi8 : i / 8 < T.size := by omega
          have hbi := HBIT.out i e hi8
          have hi0 : 0 ≤ (i : Int) / 8 := by omega
          have hi1 : (i : Int) / 8 < T.size := by omega
          have hy2 := bit_lt bt i HB01.out
          obtain ⟨y, hy⟩ : ∃ y, y = bt.getD i 0 := ⟨_, rfl⟩
          rw [← hy] at hbi hy2
          have HY := Lib.hid hy
          by_cases e5 : i = 5
          · have d5 : ((i : Int) == 5) = true := by
              rw [beq_iff_eq]
              omega
            have hnext : gather bt (i + 1) = gather bt i ++ [1, 0, 1, 1] ++ [bt.getD i 0] := by
              rw [e5]
              exact gather_five bt (by rw [← HQ.out]; omega)
            rw [← hy, ← ho.out] at hnext
            have hN5 : o.length ≤ 5 := by
              rw [ho.out, e5, gather, if_pos (Nat.le_refl _), List.length_take]
              exact Nat.min_le_left _ _
            have HE5 := Lib.hid e5
            clear e5
            have HNEXT := Lib.hid hnext
            obtain ⟨N, hN⟩ : ∃ N, N = o.length := ⟨_, rfl⟩
            obtain ⟨X, hX⟩ : ∃ X, X = o.map uv := ⟨_, rfl⟩
            rw [← hN, ← hX] at HO
            have HN := Lib.hid hN
            have HX := Lib.hid hX
            rw [← hN] at hol hn0 hN5 ⊢
            have hklt := blk_lt hk3
            have HK3 := Lib.hid hk3
            clear hnext hN hX hy hk3
            go_wp2_with (at_builtin; refine wpList_append_own _ rfl _ _ 40 rfl w2.heap.size 5 i5 (.int .u8 0) 1 1 Try.underlying40 h5 hz0 hz1 hz2 rfl (by decide) _ _ _ rfl (HO.out.alloc _) ⟨wr.heap.size, 0, none⟩ 4 4 [.int .u8 1, .int .u8 0, .int .u8 1, .int .u8 1] rfl rfl ?c1 ?c2 ?c3 ?c4 ?c5 ?_)
            case c1 => exact cells_list wr [.int .u8 1, .int .u8 0, .int .u8 1, .int .u8 1] 5
            case c2 => intro u hu; simp at hu; rcases hu with rfl | rfl | rfl <;> rfl
            case c3 => unfold maxLen; omega
            case c4 => omega
            case c5 => simp; omega
            intro v4 w4 hown4 hgrow4 _
            have hb4 : Below w2.heap.size w2 w4 := (HB.out.alloc hz9 _).grown hgrow4 (by simp; omega) (fun k hk => (HO.out.lt k hk).1)
            have hk4 := (step_of_below hb4).blk HK.out List.not_mem_nil List.not_mem_nil
            have k04 : w4.cell? ⟨w1.heap.size, 0, none⟩ = some (.string T) := blk_cell hk4 0
            have hz4 := hb4.size
            obtain ⟨A4, c4', rfl, hn4, hm4, _⟩ := own_slice hown4
            unfold maxLen at hm4
            have HO4 := Lib.hid hown4
            have HB4 := Lib.hid hb4
            clear hown4 hgrow4 hb4 hk4
            go_wp2_with (at_builtin; refine wpList_append_own _ rfl _ _ 40 rfl w2.heap.size 5 i5 (.int .u8 0) 1 1 Try.underlying40 h5 hz0 hz1 hz2 rfl (by decide) _ _ _ rfl (HO4.out.alloc _) ⟨w4.heap.size, 0, none⟩ 1 1 [.int .u8 y] rfl rfl ?c1 ?c2 ?c3 ?c4 ?c5 ?_)
            case c1 => exact cells_list w4 [.int .u8 y] 5
            case c2 => intro u hu; simp at hu; subst hu; rfl
            case c3 => unfold maxLen; omega
            case c4 => omega
            case c5 => simp; omega
            intro v6 w6 hown6 hgrow6 _
            have hb6 : Below w2.heap.size w2 w6 := (HB4.out.alloc hz4 _).grown hgrow6 (by simp; omega) (fun k hk => (HO4.out.lt k hk).1)
            have HO6 := Lib.hid hown6
            have HB6 := Lib.hid hb6
            clear hown6 hgrow6 hb6
            go_wp2_with fail
            go_roundw
            case rel =>
              refine ⟨i + 1, o ++ [1, 0, 1, 1] ++ [y], by omega, by go_num, by simp only [List.length_append, ← HN.out, List.length_cons, List.length_nil]; have := HE5.out; omega, Lib.hid HNEXT.out.symm, ?_, HB6.out⟩
              rw [List.length_append, List.length_append, ← HN.out, List.map_append, List.map_append, ← HX.out, List.append_assoc]
              exact HO6.out
            case measure => simp [intOf]; omega
          · have d5 : ((i : Int) == 5) = false := by
              rw [beq_eq_false_iff_ne]
              omega
            have hnext := gather_next bt i (by rw [← HQ.out]; exact e) e5
            rw [← hy, ← ho.out] at hnext
            have HNEXT := Lib.hid hnext
            obtain ⟨N, hN⟩ : ∃ N, N = o.length := ⟨_, rfl⟩
            obtain ⟨X, hX⟩ : ∃ X, X = o.map uv := ⟨_, rfl⟩
            rw [← hN, ← hX] at HO
            have HN := Lib.hid hN
            have HX := Lib.hid hX
            rw [← hN] at hol hn0 ⊢
            clear hnext hN hX hy
            go_wp2_with (at_builtin; refine wpList_append_own _ rfl _ _ 40 rfl w2.heap.size 5 i5 (.int .u8 0) 1 1 Try.underlying40 h5 hz0 hz1 hz2 rfl (by decide) _ _ _ rfl (HO.out.alloc _) ⟨wr.heap.size, 0, none⟩ 1 1 [.int .u8 y] rfl rfl ?c1 ?c2 ?c3 ?c4 ?c5 ?_)
            case c1 => exact cells_list wr [.int .u8 y] 5
            case c2 => intro u hu; simp at hu; subst hu; rfl
            case c3 => unfold maxLen; omega
            case c4 => omega
            case c5 => simp; omega
            intro v4 w4 hown4 hgrow4 _
            have hb4 : Below w2.heap.size w2 w4 := (HB.out.alloc hz9 _).grown hgrow4 (by simp; omega) (fun k hk => (HO.out.lt k hk).1)
            have HO4 := Lib.hid hown4
            have HB4 := Lib.hid hb4
            clear hown4 hgrow4 hb4
            go_wp2_with fail
            go_roundw
            case rel =>
              refine ⟨i + 1, o ++ [y], by omega, by go_num, by rw [List.length_append, ← HN.out]; show N + 1 ≤ _; omega, Lib.hid HNEXT.out.symm, ?_, HB4.out⟩
              rw [List.length_append, ← HN.out, List.map_append, ← HX.out]
              exact HO4.out
            case measure => simp [intOf]; omega
        · obtain rfl : i = q := by omega
          have d4 : decide ((i : Int) < (i : Int)) = false := decide_eq_false (by omega)
          have hall := gather_all bt (by rw [← HQ.out]; omega)
          rw [← HQ.out, ← ho.out] at hall
          have hC01 : Bit01 o := by
            rw [hall]
            refine ((HB01.out.take 5).append ?_).append (HB01.out.drop 5)
            intro b hb
            simp at hb
            omega
          have hCl : o.length = i + 4 := by
            rw [hall]
            simp only [List.length_append, List.length_take, List.length_drop, List.length_cons, List.length_nil, ← HQ.out]
            omega
          obtain ⟨N, hN⟩ : ∃ N, N = o.length := ⟨_, rfl⟩
          have HALL := Lib.hid hall
          have HC01 := Lib.hid hC01
          have HN := Lib.hid hN
          rw [← hN] at hCl hn0 hol ⊢
          have hNb : N ≤ 11004 := by omega
          obtain ⟨M, hM⟩ : ∃ M, M = (N + 7) / 8 := ⟨_, rfl⟩
          have hMz : ((N : Int) + 7) / 8 = (M : Int) := by omega
          have hMb : M ≤ 2000 := by omega
          have hNM : N ≤ 8 * M := by omega
          have hN11 : 11 ≤ N := by omega
          have hmk : ∀ w1 : World, (Instr.makeSlice 40 (.int .i64 M) (.int .i64 M)).run Try.prog w1 = .ok (.slice (some ⟨w1.heap.size, 0, none⟩) M M) (w1.alloc (.cells (madeCells #[.int .u8 0] M) 5)) := by
            intro w1
            have h := run_make (P := Try.prog) w1 40 5 i5 (.int .u8 0) Try.underlying40 h5 hz0 .i64 .i64 (M : Int) (M : Int) (by omega) (by omega) (by rw [hz2]; omega) (by omega)
            rw [hz1, Int.toNat_natCast, Nat.mul_one] at h
            exact h
          have hmk2 := hmk wr
          clear hall hC01 hCl hN hM hmk ho
          go_wp2_with fail
          have hwm : wr.heap.size < (wr.alloc (.cells (madeCells #[.int .u8 0] M) 5)).heap.size := by simp
          have hb3 : Below w2.heap.size w2 (wr.alloc (.cells (madeCells #[.int .u8 0] M) 5)) := HB.out.alloc hz9 _
          have hrow0 : (wr.alloc (.cells (madeCells #[.int .u8 0] M) 5)).ownsRow wr.heap.size 5 1 (.slice (some ⟨wr.heap.size, 0, none⟩) M M) M ((bytesTo o M 0).map bv) := by
            refine ⟨by rw [List.length_map, bytesTo_length o M 0 (Nat.zero_le _) (by rw [← HN.out]; exact hNM)]; omega, .inr ⟨wr.heap.size, M, _, rfl, Nat.le_refl _, heap_alloc_new wr _, Nat.le_refl _, by unfold maxLen; omega, by rw [size_madeCells, Nat.mul_one], ?_⟩⟩
            rw [toList_madeCells_one, Nat.mul_one, List.take_of_length_le (by simp), bytesTo_zero o M (by rw [← HN.out]; exact hNM), List.map_replicate]
            rfl
          obtain ⟨gb, rfl⟩ : ∃ gb, A0 = some ⟨gb, 0, none⟩ := by
            obtain ⟨A', c', hv, _, _, hA'⟩ := own_slice HO.out
            simp only [Value.slice.injEq] at hv
            obtain ⟨rfl, _, _⟩ := hv
            exact hA' (by rw [← HN.out]; omega)
          have hbits : ∀ j, j < N → wr.cell? ⟨gb, j, none⟩ = some (.int .u8 (o.getD j 0 : Nat)) := by
            intro j hj
            have hjl : j < o.length := by rw [← HN.out]; exact hj
            rw [World.ownsRow.cellAt HO.out j (by omega), List.getElem?_map, List.getD_eq_getElem?_getD, List.getElem?_eq_getElem hjl]
            rfl
          have hgb : gb < wr.heap.size := (World.ownsRow.lt HO.out gb rfl).2
          have HBITS := Lib.hid hbits
          have HB3 := Lib.hid hb3
          have HROW0 := Lib.hid hrow0
          clear hmk2 hb3 hrow0 hbits hk3 k0 k1
          obtain ⟨w3, hw3⟩ : ∃ w3, w3 = wr.alloc (.cells (madeCells #[.int .u8 0] M) 5) := ⟨_, rfl⟩
          rw [← hw3] at HB3 HROW0 hwm ⊢
          have hb03 : Below wr.heap.size wr w3 := by rw [hw3]; exact (Below.refl _ _).alloc (Nat.le_refl _) _
          have HB03 := Lib.hid hb03
          clear hw3 hb03
          go_loopw [10] (fun jv wx => ∃ j : Nat, j ≤ N ∧ jv = .int .i64 j ∧ wx.ownsRow wr.heap.size 5 1 (.slice (some ⟨wr.heap.size, 0, none⟩) M M) M ((bytesTo o M j).map bv) ∧ Below wr.heap.size wr wx) (fun jv _ => N - (intOf jv).toNat)
          case atStart => exact ⟨0, Nat.zero_le _, rfl, HROW0.out, HB03.out⟩
          case round =>
            rename World => wj
            obtain ⟨j, hj, rfl, hrow, hbj⟩ := hrel
            have HROW := Lib.hid hrow
            have HBJ := Lib.hid hbj
            by_cases ej : j < N
            · have d6 : decide ((j : Int) < (N : Int)) = true := decide_eq_true (by omega)
              obtain ⟨ob, z, ho256, hz', hoz, hold, hnew⟩ := bytesTo_next o M j (by rw [← HN.out]; exact ej) (by rw [← HN.out]; exact hNM) HC01.out
              have hj8 : j / 8 < M := by omega
              have c1 : wj.cell? ⟨wr.heap.size, j / 8, none⟩ = some (.int .u8 ob) := by
                rw [World.ownsRow.cellAt hrow (j / 8) (by omega), List.getElem?_map, hold]
                simp [bv]
                omega
              have f1 : wj.frozen? ⟨wr.heap.size, j / 8, none⟩ = false := World.ownsRow.frozenAt hrow _
              have c2 : wj.cell? ⟨gb, j, none⟩ = some (.int .u8 (o.getD j 0 : Nat)) := (hbj.cell (p := ⟨gb, j, none⟩) hgb).trans (HBITS.out j ej)
              have hx2 := bit_lt o j HC01.out
              have hst := (World.ownsRow.stored hrow (j / 8) (.int .u8 (ob ||| z : Nat))).1
              have hset : ((bytesTo o M j).map bv).set (j / 8) (.int .u8 (ob ||| z : Nat)) = (bytesTo o M (j + 1)).map bv := by
                rw [hnew, List.map_set]
                congr 1
                simp only [bv, UInt8.toNat_ofNat']
                rw [Nat.mod_eq_of_lt hoz]
              rw [hset] at hst
              obtain ⟨x, hx⟩ : ∃ x, x = o.getD j 0 := ⟨_, rfl⟩
              rw [← hx] at c2 hx2 hz'
              have hz256 : z < 256 := Nat.lt_of_le_of_lt (Nat.right_le_or) hoz
              have hzz : (x : Int) * 2 ^ (7 - j % 8) % 256 = (z : Int) := by
                have e : (x : Int) * 2 ^ (7 - j % 8) = (z : Int) := by rw [hz']; simp
                rw [e]
                omega
              have hor : bits BinOp.or IntKind.u8 (ob : Int) (z : Int) = ((ob ||| z : Nat) : Int) := u8_or_nat ob z ho256 hz256
              obtain ⟨nb, hnb⟩ : ∃ nb, nb = ob ||| z := ⟨_, rfl⟩
              rw [← hnb] at hor hst
              have hj80 : 0 ≤ (j : Int) / 8 := by omega
              have hj81 : (j : Int) / 8 < (M : Int) := by omega
              have HST := Lib.hid hst
              clear hrow hbj hold hnew hst hset hx hz' hnb hoz
              go_wp2_with fail
              go_region
              go_wp2_with fail
              go_roundw
              case rel => exact ⟨j + 1, by omega, by go_num, HST.out, (HBJ.out.setCell (p := ⟨wr.heap.size, j / 8, none⟩) (Nat.le_refl _) _).drew⟩
              case measure => simp [intOf]; omega
            · obtain rfl : j = N := by omega
              have d6 : decide ((j : Int) < (j : Int)) = false := decide_eq_false (by omega)
              have hlenM : (bytesTo o M j).length = M := bytesTo_length o M j (by rw [← HN.out]; exact Nat.le_refl _) (by rw [← HN.out]; exact hNM)
              have hconv : (convert 40 9 (.slice (some ⟨wr.heap.size, 0, none⟩) M M)).run Try.prog wj = .ok (.string ⟨(bytesTo o M j).toArray⟩) wj := conv_row (B := wr.heap.size) (by rw [hlenM]; exact hrow)
              obtain ⟨T2, hT2⟩ : ∃ T2 : ByteArray, T2 = ⟨(bytesTo o M j).toArray⟩ := ⟨_, rfl⟩
              rw [← hT2] at hconv
              have hT2s : T2.size = M := by
                rw [hT2]
                show (bytesTo o M j).toArray.size = M
                rw [List.size_toArray, hlenM]
              have hans := steps_ans (l := l) (by rw [HLL.out]; exact hn2) (by rw [HLL.out]; exact hn258) HIN.out (by rw [← HX0.out]; exact hx19) M o (by rw [HALL.out, HBT.out]) (by rw [← HN.out]; exact hNM) T2 (by rw [hT2, HN.out])
              rw [HLL.out, ← HBT.out, ← HQ.out] at hans
              have HTK := Lib.hid (R.take wj T2 0 (n : Int) (by omega) (by omega) (by omega) (by omega) (by omega))
              rw [show ((0 : Int)) = 0 from rfl, hans] at HTK
              have hbw : Below w2.heap.size w2 wj := HB.out.trans (hbj.mono hz9)
              have HBW := Lib.hid hbw
              clear hrow hbj hlenM hT2 hans hbw
              go_wp2_with fail
              refine HTK.out.mono ?_
              intro e w6 h
              obtain ⟨A6, c6, rfl, _, hi6, hb6⟩ := all_slice h
              dsimp only at hi6 ⊢
              rw [HLL.out] at hi6 ⊢
              obtain ⟨b6, o6, rfl, hcell6⟩ := hi6.2 (by omega)
              have hb26 : Below w2.heap.size w2 w6 := HBW.out.trans (hb6.mono HBW.out.size)
              have hk6 := (step_of_below hb26).blk HK.out List.not_mem_nil List.not_mem_nil
              have k16 : w6.cell? ⟨w1.heap.size, 1, none⟩ = some (.int .i64 i) := blk_cell hk6 1
              have hcl : ∀ k, k < n → w6.cell? ⟨b, off + k, none⟩ = some (.int .i64 (l.getD k 0 : Nat)) := fun k hk => (hb26.cell (p := ⟨b, off + k, none⟩) (World.block_lt_of_cell? w2 _ (HG2.out k hk))).trans (HG2.out k hk)
              have hil : IntsIn w6 (some ⟨b, off, none⟩) n l := ⟨HLL.out, fun _ => ⟨b, off, rfl, hcl⟩⟩
              have HS := Lib.hid fun (w7 : World) (h1 : IntsIn w7 (some ⟨b6, o6, none⟩) n l) (h2 : IntsIn w7 (some ⟨b, off, none⟩) n l) => ints_same w7 _ _ n c6 c l h1 h2 (by omega)
              have hp1 := hcell6 p hpn
              have hp2 := hcl p hpn
              obtain ⟨y, hy⟩ : ∃ y, y = l.getD p 0 := ⟨_, rfl⟩
              rw [← hy] at hp1 hp2
              have HB6 := Lib.hid (HB2.out.trans (hb26.mono HB2.out.size))
              have HI6 := Lib.hid hi6
              have HIL := Lib.hid hil
              have e1 : ((y : Int) == (y : Int)) = true := beq_self_eq_true _
              obtain ⟨t, ht⟩ : ∃ t, t = i + 4 := ⟨_, rfl⟩
              have htz : (i : Int) + 4 = (t : Int) := by omega
              have htb : t ≤ 20000 := by omega
              have hwt : IntKind.i64.wrap (t : Int) = (t : Int) := by rw [IntKind.wrap_i64]; omega
              rw [← ht]
              have e2 : ((t : Int) == (t : Int)) = true := beq_self_eq_true _
              clear h hi6 hcell6 hb6 hb26 hk6 hcl hil hy ht hconv
              go_upto_region 17 with fail
              go_region_held3 (fun w' => w'.cell? ⟨b6, o6 + p, none⟩ = some (.int .i64 (y : Nat)) ∧ w'.cell? ⟨b, off + p, none⟩ = some (.int .i64 (y : Nat)) ∧ w'.cell? ⟨w1.heap.size, 1, none⟩ = some (.int .i64 (i : Nat)))
                (first | exact ⟨hp1, hp2, k16⟩ | exact ⟨p1, p2, p3⟩ | exact ⟨r1, r2, r3⟩ | go_keep)
                (first
                  | (go_at_call 14; refine (HS.out w6.drew HI6.out HIL.out).mono ?_; rintro e w7 ⟨rfl, m7, rfl⟩
                     have p1 : (w6.drew.drewN m7).cell? ⟨b6, o6 + p, none⟩ = some (.int .i64 (y : Nat)) := hp1
                     have p2 : (w6.drew.drewN m7).cell? ⟨b, off + p, none⟩ = some (.int .i64 (y : Nat)) := hp2
                     have p3 : (w6.drew.drewN m7).cell? ⟨w1.heap.size, 1, none⟩ = some (.int .i64 (i : Nat)) := k16)
                  | (go_at_call 10; refine (HAW.out _).mono ?_; rintro e w8 ⟨rfl, hb8⟩
                     have r1 : w8.cell? ⟨b6, o6 + p, none⟩ = some (.int .i64 (y : Nat)) := (hb8.cell (p := ⟨b6, o6 + p, none⟩) (World.block_lt_of_cell? _ _ p1)).trans p1
                     have r2 : w8.cell? ⟨b, off + p, none⟩ = some (.int .i64 (y : Nat)) := (hb8.cell (p := ⟨b, off + p, none⟩) (World.block_lt_of_cell? _ _ p2)).trans p2
                     have r3 : w8.cell? ⟨w1.heap.size, 1, none⟩ = some (.int .i64 (i : Nat)) := (hb8.cell (p := ⟨w1.heap.size, 1, none⟩) (World.block_lt_of_cell? _ _ p3)).trans p3))
              go_wp2_with fail
              go_ret
              exact ⟨rfl, (below_drewN HB6.out (1 + m7)).trans (hb8.mono (below_drewN HB6.out (1 + m7)).size)⟩
  · generalize showAns L = ans at *
    obtain ⟨bs, k⟩ := ans
    have hk2 : k ≠ 0 := hk
    have hco2 : k ≤ 80 := hco
    have HA2 : Hid (Calls Try.prog 8 #[.slice A n c] w fun e w' => e = .returned (.tuple #[.agg #[.string ⟨(pack bs).toArray⟩, .int .i64 bs.length], .int .i64 k]) ∧ Below w.heap.size w w') := HA
    generalize (ByteArray.mk (pack bs).toArray) = T at *
    generalize bs.length = q at *
    have d2 : ((k : Int) != 0) = true := by
      rw [bne_iff_ne]
      omega
    unfold maxLen at hn
    clear hz hlm hsh hco hk HA hk2
    go_enter Try.func7, Try.ntmps7
    go_wp2_with fail
    refine HA2.out.mono ?_
    rintro e w1 ⟨rfl, hb1⟩
    have hba : Below w1.heap.size w1 (w1.alloc (.cells #[.string T, .int .i64 q] 24)) := (Below.refl _ _).alloc (Nat.le_refl _) _
    have HB1 := Lib.hid (hb1.trans (hba.mono hb1.size))
    clear hb1 hba
    go_wp2_with fail
    refine (HAW.out _).mono ?_
    rintro e w5 ⟨rfl, hb5⟩
    have HB5 := Lib.hid (HB1.out.trans (hb5.mono HB1.out.size))
    clear hb5
    go_wp2_with fail
    go_ret
    exact ⟨rfl, HB5.out⟩
end

end Go.Proofs.Yticigahhdhindaa
