/- prefix's methods of a table: codes, begins. Conditions: lengths that may be. -/
import Derived.Test.YtgnlpbnodijkgaaXe
import Derived.Test.YtgnlpbnodijkgaaOf
import Derived.Deep.QuietTactic
import Derived.BigQuiet
namespace Go.Proofs.Ytgnlpbnodijkgaa
open Go.RowKit

/-- At block g lies the table of lengths. -/
def TabIs (w : World) (g : Nat) (A : Option Addr) (n c : Nat) (l : List Nat) : Prop := ∃ gs F B, Blk w g 57 (tb (.slice A n c) (cntL l) (fun k => cd l k 0) (plcL l) (.slice (some ⟨gs, 0, none⟩) n n)) ∧ FRow w B gs n n F ∧ SymOk l F n
theorem TabIs.below {w w' : World} {g : Nat} {A : Option Addr} {n c : Nat} {l : List Nat} (h : TabIs w g A n c l) (hb : Below w.heap.size w w') : TabIs w' g A n c l := by
  obtain ⟨gs, F, B, h1, h2, h3⟩ := h
  exact ⟨gs, F, B, (step_of_below hb).blk h1 List.not_mem_nil List.not_mem_nil, FRow.below h2 hb h2.lt.2, h3⟩
theorem TabIs.lt {w : World} {g : Nat} {A : Option Addr} {n c : Nat} {l : List Nat} (h : TabIs w g A n c l) : g < w.heap.size := by
  obtain ⟨gs, F, B, h1, h2, h3⟩ := h
  exact (Array.getElem?_eq_some_iff.1 h1).1

set_option maxHeartbeats 1600000 in
set_option maxRecDepth 100000 in
theorem cbegins_any (w : World) (g : Nat) (A : Option Addr) (n c : Nat) (l : List Nat) (hT : TabIs w g A n c l) (hfit : Fits l) (x k : Nat) (hk : k ≤ 20) (hx : x < 2 ^ k) : Calls Try.prog 52 #[.pointer (some ⟨g, 0, none⟩), .int .i64 x, .int .i64 k] w fun e w' => e = .returned (.bool (decide (x * pw k < sumP l))) ∧ ∃ d, w' = w.drewN d := by
  obtain ⟨gs, F, B, hb, _, _⟩ := hT
  have q1 := (blk_cell hb (22 + 20)).trans (tb_first _ _ _ _ _ 20 (by omega))
  have q2 := (blk_cell hb (1 + 20)).trans (tb_cnt _ _ _ _ _ 20 (by omega))
  have hl := cd_last hfit
  have hsum := hfit.sum
  obtain ⟨a, ha⟩ : ∃ a, a = cd l 20 0 := ⟨_, rfl⟩
  obtain ⟨b, hb2⟩ : ∃ b, b = cntL l 20 := ⟨_, rfl⟩
  rw [← ha] at q1 hl
  rw [← hb2] at q2 hl
  obtain ⟨S, hS⟩ : ∃ S, S = sumP l := ⟨_, rfl⟩
  rw [← hS] at hl hsum ⊢
  have hab : (a : Int) + (b : Int) = (S : Int) := by omega
  have hw : IntKind.i64.wrap (S : Int) = (S : Int) := by rw [IntKind.wrap_i64]; omega
  have hxp : x * pw k < 1048576 := by
    rw [← pw_whole hk]
    exact Nat.mul_lt_mul_of_pos_right hx (pw_pos k)
  obtain ⟨j, hj⟩ : ∃ j, j = 20 - k := ⟨_, rfl⟩
  have hjk : (20 : Int) - (k : Int) = (j : Int) := by omega
  have hpk : pw k = 2 ^ j := by rw [hj]; rfl
  rw [hpk] at hxp ⊢
  have HXP := Lib.hid hxp
  clear hb ha hb2 hS hl hpk hx hfit hsum hj hxp hk
  go_enter Try.func52, Try.ntmps52
  go_upto_region 1 with fail
  go_quiet (fail)
  go_wp2_with fail
  have hww : wrap64 ((x : Int) * 2 ^ j) = ((x * 2 ^ j : Nat) : Int) := by
    have h1 : ((x : Int) * 2 ^ j) = ((x * 2 ^ j : Nat) : Int) := by
      rw [Int.natCast_mul, Int.natCast_pow]
      rfl
    rw [h1]
    have := HXP.out
    generalize x * 2 ^ j = y at *
    unfold wrap64
    omega
  rw [hww]
  have hd : decide (((x * 2 ^ j : Nat) : Int) < (S : Int)) = decide (x * 2 ^ j < S) := by
    generalize x * 2 ^ j = y
    by_cases h : y < S
    · rw [decide_eq_true h, decide_eq_true (by omega)]
    · rw [decide_eq_false h, decide_eq_false (by omega)]
  rw [hd]
  go_ret
  exact ⟨rfl, _, rfl⟩

set_option maxHeartbeats 1600000 in
set_option maxRecDepth 100000 in
theorem ccodes_tab (w : World) (g : Nat) (A : Option Addr) (n c : Nat) (L : List Int) (hT : TabIs w g A n c (nl L)) (hL : ZIn w A n L) (hok : LenOk L) : Calls Try.prog 24 #[.pointer (some ⟨g, 0, none⟩)] w fun e w' => ∃ gc, e = .returned (.slice (some ⟨gc, 0, none⟩) n n) ∧ FRow w' w.heap.size gc n n (codeN (nl L)) ∧ Below w.heap.size w w' := by
  have hln := hL.1
  have hn2 : n ≤ 258 := by have := hok.2.1; omega
  obtain ⟨b, off, rfl, hget⟩ := len_cells hL hok
  have hfit := fits_of hok
  obtain ⟨l, hl⟩ : ∃ l, l = nl L := ⟨_, rfl⟩
  have hll : l.length = n := by rw [hl, nl_length, hln]
  rw [← hl] at hget hfit hT ⊢
  obtain ⟨gs, F, B, hb, hrow, hsym⟩ := hT
  have HF := Lib.hid hfit
  have HLL := Lib.hid hll
  have HGET := Lib.hid hget
  have HBK := Lib.hid hb
  have HROW := Lib.hid hrow
  have HSYM := Lib.hid hsym
  have q4 := (blk_cell hb 64).trans (tb_last _ _ _ _ _)
  have hmk := make_noughts w n (by omega)
  have HR0 := Lib.hid (made_noughts w w.heap.size n (Nat.le_refl _) (by omega))
  clear hl hok hL hln hfit hll hget hb hrow hsym
  go_enter Try.func24, Try.ntmps24
  go_upto_region 2 with fail
  have q5 : (w.alloc (.cells (madeCells #[.int .i64 0] n) 3)).cell? ⟨g, 64, none⟩ = some (.slice (some ⟨gs, 0, none⟩) n n) := by
    rw [World.cell?_alloc_lt _ _ _ (World.block_lt_of_cell? w _ q4)]
    exact q4
  clear hmk
  go_wp2_with fail
  clear q4 q5
  go_loopw [4, 5, 6, 18] (fun s4 s5 s6 x wx => ∃ (q : Nat) (G : Nat → Nat), q ≤ n ∧ x = .int .i64 q ∧ Hid (∀ j, j < q → G (F j) = codeN l (F j)) ∧ FRow wx w.heap.size w.heap.size n n G ∧ Below w.heap.size w wx) (fun _ _ _ x _ => n - (intOf x).toNat)
  case atStart => exact ⟨0, fun _ => 0, Nat.zero_le _, rfl, Lib.hid (fun s hs => by omega), HR0.out, (Below.refl _ w).alloc (Nat.le_refl _) _⟩
  case round =>
    obtain ⟨q, G, hq, rfl, hG, hr, hbl⟩ := hrel
    have HR := Lib.hid hr
    have HB := Lib.hid hbl
    by_cases e : q < n
    · have d0 : decide ((q : Int) < (n : Int)) = true := decide_eq_true (by omega)
      have hsq := HSYM.out
      rw [← HLL.out] at hsq
      obtain ⟨hsn, hsi⟩ := hsq.get (i := q) (by rw [HLL.out]; exact e)
      have hcode := code_idx hsn
      rw [hsi] at hcode
      have hone := HF.out.one hsn
      have hcsm := code_small HF.out hsn
      have hcw := (HROW.out).cell q e
      have hcs := HGET.out (F q) (by rw [← HLL.out]; exact hsn)
      rw [HLL.out] at hsn
      obtain ⟨s, hs⟩ : ∃ s, s = F q := ⟨_, rfl⟩
      rw [← hs] at hcode hcw hcs hsn hone hcsm
      obtain ⟨k, hk⟩ : ∃ k, k = l.getD s 0 := ⟨_, rfl⟩
      rw [← hk] at hcode hcs hone
      have q0 := (blk_cell HBK.out 0).trans (tb_head _ _ _ _ _)
      have q1 := (blk_cell HBK.out (22 + k)).trans (tb_first _ _ _ _ _ k (by omega))
      have q2 := (blk_cell HBK.out (43 + k)).trans (tb_place _ _ _ _ _ k (by omega))
      obtain ⟨x1, hx1⟩ : ∃ x1, x1 = cd l k 0 := ⟨_, rfl⟩
      obtain ⟨p1, hp1⟩ : ∃ p1, p1 = plcL l k := ⟨_, rfl⟩
      obtain ⟨v1, hv1⟩ : ∃ v1, v1 = codeN l s := ⟨_, rfl⟩
      have hple := plc_le l k
      rw [HLL.out, ← hp1] at hple
      rw [← hx1] at q1
      rw [← hp1] at q2
      rw [← hx1, ← hp1, ← hv1] at hcode
      rw [← hv1] at hcsm
      have qcw := (HB.out.cell (p := ⟨gs, q, none⟩) (World.block_lt_of_cell? w _ hcw)).trans hcw
      have qcs := (HB.out.cell (p := ⟨b, off + s, none⟩) (World.block_lt_of_cell? w _ hcs)).trans hcs
      have q0' := (HB.out.cell (p := ⟨g, 0, none⟩) (World.block_lt_of_cell? w _ q0)).trans q0
      have q1' := (HB.out.cell (p := ⟨g, 22 + k, none⟩) (World.block_lt_of_cell? w _ q1)).trans q1
      have q2' := (HB.out.cell (p := ⟨g, 43 + k, none⟩) (World.block_lt_of_cell? w _ q2)).trans q2
      have HLEN := Lib.hid (length_any wr b off n c s k hsn qcs)
      obtain ⟨y1, hy1⟩ : ∃ y1, y1 = x1 + q := ⟨_, rfl⟩
      have hyI : (x1 : Int) + (q : Int) = (y1 : Int) := by omega
      have hvI : (y1 : Int) - (p1 : Int) = (v1 : Int) := by omega
      have w1' : IntKind.i64.wrap (y1 : Int) = (y1 : Int) := by rw [IntKind.wrap_i64]; omega
      have w2' : IntKind.i64.wrap (v1 : Int) = (v1 : Int) := by rw [IntKind.wrap_i64]; omega
      have hk20 : (k : Int) < 21 := by omega
      have HS := Lib.hid hs
      have HV := Lib.hid hv1
      have hcs' := (HR.out).cell s hsn
      have hcf' := (HR.out).frozen s
      clear hcw hcs q0 q1 q2 hsi hsq hcode hx1 hp1 hy1 hone hk hr hbl hs hv1 qcs
      have t1 : ({ heap := wr.heap, tape := wr.tape, drawn := wr.drawn + 1, os := wr.os, output := wr.output } : World).cell? ⟨g, 22 + k, none⟩ = some (.int .i64 (x1 : Nat)) := q1'
      have t2 : ({ heap := wr.heap, tape := wr.tape, drawn := wr.drawn + 1, os := wr.os, output := wr.output } : World).cell? ⟨g, 43 + k, none⟩ = some (.int .i64 (p1 : Nat)) := q2'
      have HT1 := Lib.hid t1
      have HT2 := Lib.hid t2
      clear t1 t2 q1' q2'
      go_upto_region 6 with (go_at_call 31; refine HLEN.out.mono ?_; rintro e w4 ⟨rfl, rfl⟩)
      have t1 := HT1.out
      have t2 := HT2.out
      have u1 : wr.drew.cell? ⟨w.heap.size, s, none⟩ = some (.int .i64 (G s : Nat)) := hcs'
      have u2 : wr.drew.frozen? ⟨w.heap.size, s, none⟩ = false := hcf'
      have u3 : wr.drew.cell? ⟨g, 22 + k, none⟩ = some (.int .i64 (x1 : Nat)) := HT1.out
      have u4 : wr.drew.cell? ⟨g, 43 + k, none⟩ = some (.int .i64 (p1 : Nat)) := HT2.out
      have HRD : Hid (FRow wr.drew w.heap.size w.heap.size n n G) := HR
      have HBD := Lib.hid (HB.out.drew)
      go_still_tail 18, (by kernel_rfl)
      change wpList _ _ _ _ _ wr.drew
      generalize wr.drew = wy at *
      clear t1 t2 u3 u4 HT1 HT2 hcs' hcf' qcw q0' HLEN
      go_wp2_with fail
      go_roundw
      case rel =>
        refine ⟨q + 1, fun j => if j = s then v1 else G j, by omega, by go_num, Lib.hid fun j hj => ?_, HRD.out.set s v1, HBD.out.setCell (p := ⟨w.heap.size, s, none⟩) (Nat.le_refl _) _⟩
        show (if F j = s then v1 else G (F j)) = codeN l (F j)
        by_cases ej : F j = s
        · rw [if_pos ej, ej, HV.out]
        · rw [if_neg ej]
          refine hG.out j ?_
          by_cases e2 : j = q
          · exact absurd (by rw [e2, HS.out]) ej
          · omega
      case measure => simp [intOf]; omega
    · obtain rfl : q = n := by omega
      have d0 : decide ((q : Int) < (q : Int)) = false := decide_eq_false (by omega)
      have hsame : FRow wr w.heap.size w.heap.size q q (codeN l) := by
        have h := hr
        unfold FRow at h ⊢
        rw [← rowF_same q G (codeN l) fun s hs => by
          have h1 := hG.out (idxL l s) (by rw [← HLL.out]; exact idx_lt (by rw [HLL.out]; exact hs))
          have h2 := HSYM.out s hs
          rw [h2] at h1
          exact h1]
        exact h
      have HSAME := Lib.hid hsame
      clear hr hbl hsame hG
      go_wp2_with fail
      go_ret
      exact ⟨_, rfl, HSAME.out, HB.out⟩

end Go.Proofs.Ytgnlpbnodijkgaa
