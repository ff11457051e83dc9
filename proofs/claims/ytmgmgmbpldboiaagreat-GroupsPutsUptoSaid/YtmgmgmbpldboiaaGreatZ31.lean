/- Dlb Dlc Td: texts laid together, what is not used left out. -/
import Derived.Test.YtmgmgmbpldboiaaGreatZ30
import Derived.Test.YtmgmgmbpldboiaaGreatZ01
import Derived.Test.YtmgmgmbpldboiaaGreatZ28
import Derived.Test.YtmgmgmbpldboiaaGreatZ14
import Derived.Test.YtmgmgmbpldboiaaGreatZ20
import Derived.Laws.StructEq
namespace Go.Proofs.YtmgmgmbpldboiaaGreat.S10
open Go.RowKit

theorem blk_under {B : Nat} {w w' : World} {g : Nat} {t : TypeId} {cs : Array Value} (h : Below B w w') (hb : Blk w g t cs) (hg : g < B) : Blk w' g t cs := (h.block g hg).trans hb

set_option maxHeartbeats 1600000 in
set_option maxRecDepth 100000 in
theorem cshow_out (w : World) (A : Option Addr) (n c : Nat) (L : List Int) (_hz : ZIn w A n L) (_hn : n ≤ maxLen) (h : ¬ (2 ≤ (n : Int) ∧ (n : Int) ≤ 258)) : Calls Tryz.prog 69 #[.slice A n c] w (BitsPost w ([], 80)) := by
  unfold maxLen at _hn
  have hk1 : Blk (w.alloc (.cells #[.string ⟨#[]⟩, .int .i64 0] 43)) w.heap.size 43 #[.string ⟨#[]⟩, .int .i64 0] := blk_new w 43 _
  have hb1 : Below w.heap.size w (w.alloc (.cells #[.string ⟨#[]⟩, .int .i64 0] 43)) := (Below.refl _ _).alloc (Nat.le_refl _) _
  have HE := Lib.hid (enough_any (w.alloc (.cells #[.string ⟨#[]⟩, .int .i64 0] 43)) n)
  rw [decide_eq_false h] at HE
  have HB := Lib.hid hb1
  have q0 := blk_cell hk1 0
  have q1 := blk_cell hk1 1
  have f0 := blk_frozen hk1 0
  have f1 := blk_frozen hk1 1
  simp at q0 q1
  clear hk1 hb1 h
  go_enter Tryz.func69, Tryz.ntmps69
  go_wp2_with fail
  refine HE.out.mono ?_
  rintro e w1 ⟨rfl, rfl⟩
  go_wp2_with fail
  refine bodyPost_ret (v := .tuple #[.agg #[.string ⟨#[]⟩, .int .i64 0], .int .i64 80]) ?_ rfl ?_
  · simp [results, Tryz.results69, go_sem]
  · first | exact ⟨rfl, HB.out⟩ | exact ⟨rfl, (HB.out.setCell (p := ⟨w.heap.size, 0, none⟩) (Nat.le_refl _) _).setCell (p := ⟨w.heap.size, 1, none⟩) (Nat.le_refl _) _⟩

set_option maxHeartbeats 1600000 in
set_option maxRecDepth 100000 in
theorem cshow_bad (w : World) (A : Option Addr) (n c : Nat) (L : List Int) (hz : ZIn w A n L) (h : 2 ≤ (n : Int) ∧ (n : Int) ≤ 258) (hbad : BadIn L) : Calls Tryz.prog 69 #[.slice A n c] w (BitsPost w ([], 80)) := by
  have hk1 : Blk (w.alloc (.cells #[.string ⟨#[]⟩, .int .i64 0] 43)) w.heap.size 43 #[.string ⟨#[]⟩, .int .i64 0] := blk_new w 43 _
  have hb1 : Below w.heap.size w (w.alloc (.cells #[.string ⟨#[]⟩, .int .i64 0] 43)) := (Below.refl _ _).alloc (Nat.le_refl _) _
  have HE := Lib.hid (enough_any (w.alloc (.cells #[.string ⟨#[]⟩, .int .i64 0] 43)) n)
  rw [decide_eq_true h] at HE
  have HC := Lib.hid (contains_any (w.alloc (.cells #[.string ⟨#[]⟩, .int .i64 0] 43)) A n c L (hz.below hb1) (by omega))
  rw [decide_eq_true hbad] at HC
  have HB := Lib.hid hb1
  have HK := Lib.hid hk1
  clear hk1 hb1 hz h hbad
  go_enter Tryz.func69, Tryz.ntmps69
  go_wp2_with fail
  refine HE.out.mono ?_
  rintro e w1 ⟨rfl, rfl⟩
  go_wp2_with fail
  refine HC.out.mono ?_
  rintro e w2 ⟨rfl, hb2⟩
  have hk := (step_of_below hb2).blk HK.out List.not_mem_nil List.not_mem_nil
  have hbl : Below w.heap.size w w2 := HB.out.trans (hb2.mono (by simp))
  have q0 : w2.cell? ⟨w.heap.size, 0, none⟩ = some (.string ⟨#[]⟩) := blk_cell hk 0
  have q1 : w2.cell? ⟨w.heap.size, 1, none⟩ = some (.int .i64 0) := blk_cell hk 1
  have f0 := blk_frozen hk 0
  have f1 := blk_frozen hk 1
  have HB2 := Lib.hid hbl
  clear hb2 hk hbl
  go_wp2_with fail
  refine bodyPost_ret (v := .tuple #[.agg #[.string ⟨#[]⟩, .int .i64 0], .int .i64 80]) ?_ rfl ?_
  · simp [results, Tryz.results69, go_sem, q0, q1]
  · exact ⟨rfl, (HB2.out.setCell (p := ⟨w.heap.size, 0, none⟩) (Nat.le_refl _) _).setCell (p := ⟨w.heap.size, 1, none⟩) (Nat.le_refl _) _⟩

set_option maxHeartbeats 3200000 in
set_option maxRecDepth 100000 in
theorem cshow_ok (w : World) (A : Option Addr) (n c : Nat) (L : List Int) (hz : ZIn w A n L) (h : DOk L) : Calls Tryz.prog 69 #[.slice A n c] w (BitsPost w (showD (nl L), 0)) := by
  have hln := hz.1
  obtain ⟨l, hl⟩ : ∃ l, l = nl L := ⟨_, rfl⟩
  have hll : l.length = n := by rw [hl, nl_length]; exact hln
  have h20 : ∀ j, j < n → 1 ≤ l.getD j 0 ∧ l.getD j 0 ≤ 20 := by
    intro j hj
    rw [hl]
    exact nl_in h _ (nat_mem (by rw [nl_length]; omega))
  have hget : ∀ j, j < n → L.getD j 0 = (l.getD j 0 : Nat) := by
    intro j hj
    have h1 := h.2.2 _ (int_mem (L := L) (j := j) (by omega))
    rw [hl, nl_get, Int.toNat_of_nonneg (by omega)]
  have hnb : ¬ BadIn L := by
    rintro ⟨x, hx, hx2⟩
    have := h.2.2 x hx
    omega
  have hn2 : 2 ≤ n := by have := h.1; omega
  have hn258 : n ≤ 258 := by have := h.2.1; omega
  rw [← hl]
  have hk1 : Blk (w.alloc (.cells #[.string ⟨#[]⟩, .int .i64 0] 43)) w.heap.size 43 #[.string ⟨#[]⟩, .int .i64 0] := blk_new w 43 _
  have hb1 : Below w.heap.size w (w.alloc (.cells #[.string ⟨#[]⟩, .int .i64 0] 43)) := (Below.refl _ _).alloc (Nat.le_refl _) _
  have HE := Lib.hid (enough_any (w.alloc (.cells #[.string ⟨#[]⟩, .int .i64 0] 43)) n)
  rw [decide_eq_true (show 2 ≤ (n : Int) ∧ (n : Int) ≤ 258 by omega)] at HE
  have HC := Lib.hid (contains_any (w.alloc (.cells #[.string ⟨#[]⟩, .int .i64 0] 43)) A n c L (hz.below hb1) (by omega))
  rw [decide_eq_false hnb] at HC
  have HB := Lib.hid hb1
  have HK := Lib.hid hk1
  have HZ := Lib.hid hz
  have HG := Lib.hid hget
  have H20 := Lib.hid h20
  have HLL := Lib.hid hll
  have hst : ∀ i, i < n → stepsB (l.getD 0 0) (l.take (i + 1)) = stepsB (l.getD 0 0) (l.take i) ++ stepB (aheadD l i) (l.getD i 0) := fun i hi => stepsB_next (by omega)
  have HST := Lib.hid hst
  have hslen : ∀ i, i ≤ n → (bitsN (l.getD 0 0) 5 ++ stepsB (l.getD 0 0) (l.take i)).length ≤ 20000 := by
    intro i hi
    have h1 := sizeD_le (l.take i) (l.getD 0 0) (h20 0 (by omega)).2 (fun x hx => by
      obtain ⟨j, hj, rfl⟩ := List.mem_iff_getElem.1 (List.mem_of_mem_take hx)
      have := (h20 j (by omega)).2
      rw [List.getD_eq_getElem?_getD, List.getElem?_eq_getElem hj] at this
      exact this)
    rw [List.length_append, bitsN_length, stepsB_length]
    have h2 : (l.take i).length ≤ 258 := by rw [List.length_take]; omega
    omega
  have HSL := Lib.hid hslen
  have hfin : showD l = bitsN (l.getD 0 0) 5 ++ stepsB (l.getD 0 0) (l.take n) := by
    rw [List.take_of_length_le (by omega)]
    rfl
  have HF := Lib.hid hfin
  have hah : ∀ i, aheadD l (i + 1) = l.getD i 0 := fun i => rfl
  have HAH := Lib.hid hah
  have hah0 : aheadD l 0 = l.getD 0 0 := rfl
  have HAH0 := Lib.hid hah0
  have HTELL := Lib.hid tell_any
  clear hk1 hb1 hz hget h20 hll hst hslen hfin hah hah0 hnb h hl hln
  go_enter Tryz.func69, Tryz.ntmps69
  go_wp2_with fail
  refine HE.out.mono ?_
  rintro e w1 ⟨rfl, rfl⟩
  go_wp2_with fail
  refine HC.out.mono ?_
  rintro e w2 ⟨rfl, hb2⟩
  have hk2 := (step_of_below hb2).blk HK.out List.not_mem_nil List.not_mem_nil
  have hbl : Below w.heap.size w w2 := HB.out.trans (hb2.mono (by simp))
  have HK2 := Lib.hid hk2
  have HB2 := Lib.hid hbl
  have hz2 : w.heap.size < w2.heap.size := blk_lt hk2
  clear hb2 hk2 hbl HB HK HE HC
  go_upto_region 4 with (go_at_call 65; refine (newW w2).mono ?_; rintro e w3 ⟨rfl, hw3'⟩; have HW3' := Lib.hid hw3'; clear hw3')
  have hw3 := HW3'.out
  clear HW3'
  have hb3 : Below w2.heap.size w2 w3 := by rw [hw3]; exact (Below.refl _ _).alloc (Nat.le_refl _) _
  obtain ⟨p, hp⟩ : ∃ p, p = w2.heap.size := ⟨_, rfl⟩
  have hW3 : IsW p w3 p (.slice none 0 0) [] := by rw [hw3, hp]; exact isW_new w2 _ (Nat.le_refl _)
  have hk3 := blk_under hb3 HK2.out hz2
  have hbl3 : Below w.heap.size w w3 := HB2.out.trans (hb3.mono (Nat.le_of_lt hz2))
  rw [← hp] at hz2 ⊢
  have hz3 := HZ.out.below hbl3
  obtain ⟨b, off, hA, hc⟩ := HZ.out.2 (by omega)
  subst hA
  have hcell : ∀ (wx : World), Below w.heap.size w wx → ∀ i, i < n → wx.cell? ⟨b, off + i, none⟩ = some (.int .i64 (l.getD i 0 : Nat)) := by
    intro wx hbx i hi
    obtain ⟨b', off', hA, hc'⟩ := (HZ.out.below hbx).2 (by omega)
    injection hA with hA
    injection hA with h1 h2
    subst h1 h2
    rw [hc' i hi, HG.out i hi]
  have HCELL := Lib.hid hcell
  have hc0 : w3.cell? ⟨b, off, none⟩ = some (.int .i64 (l.getD 0 0 : Nat)) := hcell w3 hbl3 0 (by omega)
  obtain ⟨x0, hx0⟩ : ∃ x0, x0 = l.getD 0 0 := ⟨_, rfl⟩
  have hx20 : 1 ≤ x0 ∧ x0 ≤ 20 := by rw [hx0]; exact H20.out 0 (by omega)
  have hx1 := hx20.1
  have hx2 := hx20.2
  rw [← hx0] at hc0
  have HX0 := Lib.hid hx0
  have HK3 := Lib.hid hk3
  have HB3 := Lib.hid hbl3
  have hI0 : (0 : Int) < (n : Int) := by omega
  have HPUT := Lib.hid (put_ok p w3 p _ [] x0 5 hW3 (by simp) (by omega) (by show x0 < 32; omega))
  clear hw3 hb3 hp hW3 hk3 hbl3 hc hcell hx0 hx20 hz3 HK2 HB2
  go_wp2_with fail
  refine HPUT.out.mono ?_
  rintro e w4 ⟨rfl, v4, hW4, hs4⟩
  have hk4 := blk_under hs4.below HK3.out hz2
  have HK4 := Lib.hid hk4
  have HB4 := Lib.hid (HB3.out.trans (hs4.below.mono (Nat.le_of_lt hz2)))
  have HW4 := Lib.hid hW4
  clear hW4 hs4 hk4 HK3 HB3 HPUT hc0
  go_wp2_with fail
  go_loopw [5, 7, 27] (fun a5 a7 x wx => ∃ (i : Nat) (v : Value), i ≤ n ∧ x = .int .i64 i ∧ a5 = .int .i64 (aheadD l i : Nat) ∧ IsW p wx p v (bitsN (l.getD 0 0) 5 ++ stepsB (l.getD 0 0) (l.take i)) ∧ Blk wx w.heap.size 43 #[.string ⟨#[]⟩, .int .i64 0] ∧ Below w.heap.size w wx) (fun _ _ x _ => n - (intOf x).toNat)
  case atStart =>
    refine ⟨0, v4, Nat.zero_le _, rfl, by rw [HAH0.out, ← HX0.out], ?_, HK4.out, HB4.out⟩
    have h1 := HW4.out
    rw [HX0.out] at h1
    rw [List.take_zero]
    show IsW p w4 p v4 (bitsN (l.getD 0 0) 5 ++ [])
    rw [List.append_nil]
    exact h1
  case round =>
    obtain ⟨i, v, hi, rfl, rfl, hW, hk, hb⟩ := hrel
    by_cases e : i < n
    · have d0 : decide ((i : Int) < (n : Int)) = true := decide_eq_true (by omega)
      have hcw := HCELL.out wr hb i e
      have hstep := HST.out i e
      obtain ⟨x, hx⟩ : ∃ x, x = l.getD i 0 := ⟨_, rfl⟩
      have hxb : x ≤ 20 := by rw [hx]; exact (H20.out i e).2
      obtain ⟨a, ha⟩ : ∃ a, a = aheadD l i := ⟨_, rfl⟩
      have hab : a ≤ 20 := by rw [ha]; exact (H20.out (i - 1) (by omega)).2
      have hnext := HAH.out i
      rw [← hx] at hcw hstep hnext
      rw [← ha] at hstep ⊢
      have HT := Lib.hid (HTELL.out p wr p v _ a x hW (Nat.le_trans (HSL.out i hi) (by omega)) hab hxb)
      have HSTEP := Lib.hid hstep
      have HNEXT := Lib.hid hnext
      have HK := Lib.hid hk
      have HB := Lib.hid hb
      clear hW hk hb hx ha hstep hnext
      go_wp2_with fail
      refine HT.out.mono ?_
      rintro e w5 ⟨rfl, v5, hW5, hb5⟩
      have HW5 := Lib.hid hW5
      have HK5 := Lib.hid (blk_under hb5 HK.out hz2)
      have HB5 := Lib.hid (HB.out.trans (hb5.mono (Nat.le_of_lt hz2)))
      clear hW5 hb5
      go_wp2_with fail
      go_roundw
      case rel =>
        refine ⟨i + 1, v5, by omega, by go_num, by rw [HNEXT.out], ?_, HK5.out, HB5.out⟩
        rw [HSTEP.out, ← List.append_assoc]
        exact HW5.out
      case measure => simp [intOf]; omega
    · obtain rfl : i = n := by omega
      have d0 : decide ((i : Int) < (i : Int)) = false := decide_eq_false (by omega)
      rw [← HF.out] at hW
      obtain ⟨S, hS⟩ : ∃ S : ByteArray, S = ⟨(pack (showD l)).toArray⟩ := ⟨_, rfl⟩
      have hT := wtext_yes p wr p v (showD l) hW
      rw [← hS] at hT
      have HT := Lib.hid hT
      have HSS := Lib.hid hS
      obtain ⟨m, hm⟩ : ∃ m, m = (showD l).length := ⟨_, rfl⟩
      have c0 := blk_cell hW.blk 0
      have c2 := blk_cell hW.blk 2
      simp at c0 c2
      have HM := Lib.hid hm
      rw [← hm] at c2
      have HLN := Lib.hid (wlen_yes wr p m c0 c2)
      have q0 : wr.cell? ⟨w.heap.size, 0, none⟩ = some (.string ⟨#[]⟩) := blk_cell hk 0
      have q1 : wr.cell? ⟨w.heap.size, 1, none⟩ = some (.int .i64 0) := blk_cell hk 1
      have f0 := blk_frozen hk 0
      have f1 := blk_frozen hk 1
      have HB := Lib.hid hb
      clear hW hk hb hS hm c0 c2 hT
      go_wp2_with fail
      refine HT.out.mono ?_
      rintro e w8 ⟨rfl, rfl⟩
      go_wp2_with fail
      refine HLN.out.mono ?_
      rintro e w8 ⟨rfl, rfl⟩
      go_wp2_with fail
      refine bodyPost_ret (v := .tuple #[.agg #[.string S, .int .i64 m], .int .i64 0]) ?_ rfl ?_
      · simp [results, Tryz.results69, go_sem, q0, q1]
      · exact ⟨by rw [HSS.out, HM.out]; rfl, (HB.out.setCell (p := ⟨w.heap.size, 0, none⟩) (Nat.le_refl _) _).setCell (p := ⟨w.heap.size, 1, none⟩) (Nat.le_refl _) _⟩

theorem cshow_any (w : World) (A : Option Addr) (n c : Nat) (L : List Int) (hz : ZIn w A n L) (hn : n ≤ maxLen) : Calls Tryz.prog 69 #[.slice A n c] w (BitsPost w (showAns L)) := by
  by_cases h : 2 ≤ (n : Int) ∧ (n : Int) ≤ 258
  · by_cases hb : BadIn L
    · rw [showAns, if_neg]
      · exact cshow_bad w A n c L hz h hb
      · intro hok
        obtain ⟨x, hx, hx2⟩ := hb
        have := hok.2.2 x hx
        omega
    · have hok : DOk L := by
        refine ⟨by have := hz.1; omega, by have := hz.1; omega, fun x hx => ?_⟩
        by_cases h1 : x < 1 ∨ 20 < x
        · exact absurd ⟨x, hx, h1⟩ hb
        · omega
      rw [showAns, if_pos hok]
      exact cshow_ok w A n c L hz hok
  · rw [showAns, if_neg]
    · exact cshow_out w A n c L hz hn h
    · intro hok
      have h1 := hok.1
      have h2 := hok.2.1
      have := hz.1
      omega

end Go.Proofs.YtmgmgmbpldboiaaGreat.S10
namespace Go.Proofs.YtmgmgmbpldboiaaGreat.S10
open Go.RowKit

theorem val_bit (l : List Nat) (k : Nat) (h : k < l.length) : val ((l.drop k).take 1) = l.getD k 0 := by
  have := val_next l k 0 (by omega)
  rw [this, List.take_zero]
  show 2 * 0 + _ = _
  rw [Nat.mul_zero, Nat.zero_add, Nat.add_zero]
theorem take1_ok (B : Nat) (w : World) (p : Nat) (s : ByteArray) (k : Nat) (hR : IsR B w p s k) (hs : s.size ≤ 281474976710656) (hle : k < 8 * s.size) : Calls Tryz.prog 86 #[.pointer (some ⟨p, 0, none⟩), .int .i64 1] w fun e w' => e = .returned (.tuple #[.int .u64 ((bitsB s.data.toList).getD k 0 : Nat), .int .i64 0]) ∧ IsR B w' p s (k + 1) ∧ Step B [p] [] w w' := by
  have h := take_ok B w p s k 1 hR hs (by omega) (by omega)
  rw [val_bit _ k (by rw [bitsB_length]; exact hle)] at h
  exact h
theorem take1_no (B : Nat) (w : World) (p : Nat) (s : ByteArray) (k : Nat) (hR : IsR B w p s k) (hs : s.size ≤ 281474976710656) (hle : k = 8 * s.size) : Calls Tryz.prog 86 #[.pointer (some ⟨p, 0, none⟩), .int .i64 1] w fun e w' => e = .returned (.tuple #[.int .u64 0, .int .i64 10]) ∧ IsR B w' p s k ∧ Step B [p] [] w w' :=
  take_short B w p s k 1 hR hs (by omega) (by omega) (by omega)

/-- The closure that reads a step: where the reader's pointer lies. -/
abbrev stepV (br : Nat) : Value := .func (.func 160) #[] #[.pointer (some ⟨br, 0, none⟩)]

set_option maxRecDepth 100000 in
theorem stepper_any (w : World) (p : Nat) : Calls Tryz.prog 149 #[.pointer (some ⟨p, 0, none⟩)] w fun e w' => e = .returned (stepV w.heap.size) ∧ w' = w.alloc (.cells #[.pointer (some ⟨p, 0, none⟩)] 75) := by
  go_enter Tryz.func149, Tryz.ntmps149
  go_wp2_with fail
  go_ret
  exact ⟨rfl, rfl⟩

/-- What a step answers, and where the reader stands then. -/
def StepPost (B : Nat) (w : World) (p : Nat) (s : ByteArray) (st : Int) (er k : Nat) (e : Ending) (w' : World) : Prop :=
  e = .returned (.tuple #[.int .i64 st, .int .i64 er]) ∧ IsR B w' p s k ∧ Step B [p] [] w w'

section
variable (B : Nat) (w : World) (p br : Nat) (s : ByteArray) (k : Nat)
set_option maxRecDepth 100000 in
theorem step_none (hR : IsR B w p s k) (hs : s.size ≤ 281474976710656) (hb : Blk w br 75 #[.pointer (some ⟨p, 0, none⟩)]) (h : k = 8 * s.size) : Calls Tryz.prog 160 #[.pointer (some ⟨br, 0, none⟩)] w (StepPost B w p s 0 10 k) := by
  have HT := Lib.hid (take1_no B w p s k hR hs h)
  have c0 := blk_cell hb 0
  simp at c0
  clear hR hb h
  go_enter Tryz.func160, Tryz.ntmps160
  go_wp2_with fail
  refine HT.out.mono ?_
  rintro e w1 ⟨rfl, hR1, hs1⟩
  have HR1 := Lib.hid hR1
  have HS1 := Lib.hid hs1
  clear hR1 hs1
  go_wp2_with fail
  go_ret2
  exact ⟨rfl, HR1.out, HS1.out⟩
set_option maxRecDepth 100000 in
theorem step_stop (hR : IsR B w p s k) (hs : s.size ≤ 281474976710656) (hb : Blk w br 75 #[.pointer (some ⟨p, 0, none⟩)]) (h : k < 8 * s.size) (h0 : (bitsB s.data.toList).getD k 0 = 0) : Calls Tryz.prog 160 #[.pointer (some ⟨br, 0, none⟩)] w (StepPost B w p s 0 0 (k + 1)) := by
  have ht := take1_ok B w p s k hR hs h
  rw [h0] at ht
  have HT := Lib.hid ht
  have c0 := blk_cell hb 0
  simp at c0
  clear hR hb h ht h0
  go_enter Tryz.func160, Tryz.ntmps160
  go_wp2_with fail
  refine HT.out.mono ?_
  rintro e w1 ⟨rfl, hR1, hs1⟩
  have HR1 := Lib.hid hR1
  have HS1 := Lib.hid hs1
  clear hR1 hs1
  go_wp2_with fail
  go_ret2
  exact ⟨rfl, HR1.out, HS1.out⟩
theorem ptr_kept {B : Nat} {w w' : World} {p br : Nat} {s : ByteArray} {k : Nat} {v : Value} (hR : IsR B w p s k) (hb : Blk w br 75 #[v]) (hs : Step B [p] [] w w') : Blk w' br 75 #[v] := by
  refine hs.blk hb ?_ List.not_mem_nil
  intro h
  rw [List.mem_singleton.1 h] at hb
  have h2 := hR.blk
  unfold Blk at hb h2
  rw [h2] at hb
  injection hb with hb
  injection hb with _ h3
  exact absurd h3 (by decide)
set_option maxRecDepth 100000 in
theorem step_half (hR : IsR B w p s k) (hs : s.size ≤ 281474976710656) (hb : Blk w br 75 #[.pointer (some ⟨p, 0, none⟩)]) (h : k + 1 = 8 * s.size) (h0 : (bitsB s.data.toList).getD k 0 = 1) : Calls Tryz.prog 160 #[.pointer (some ⟨br, 0, none⟩)] w (StepPost B w p s 0 10 (k + 1)) := by
  have ht := take1_ok B w p s k hR hs (by omega)
  rw [h0] at ht
  have HT := Lib.hid ht
  have HT2 := Lib.hid fun w1 (h1 : IsR B w1 p s (k + 1)) => take1_no B w1 p s (k + 1) h1 hs h
  have c0 := blk_cell hb 0
  simp at c0
  have HK := Lib.hid fun w1 (h1 : Step B [p] [] w w1) => ptr_kept hR hb h1
  clear hR hb h ht h0
  go_enter Tryz.func160, Tryz.ntmps160
  go_wp2_with fail
  refine HT.out.mono ?_
  rintro e w1 ⟨rfl, hR1, hs1⟩
  have c1 := blk_cell (HK.out w1 hs1) 0
  simp at c1
  have HT3 := Lib.hid (HT2.out w1 hR1)
  have HS1 := Lib.hid hs1
  clear hR1 hs1
  go_wp2_with fail
  refine HT3.out.mono ?_
  rintro e w2 ⟨rfl, hR2, hs2⟩
  have HR2 := Lib.hid hR2
  have HS2 := Lib.hid (HS1.out.trans hs2)
  clear hR2 hs2
  go_wp2_with fail
  go_ret2
  exact ⟨rfl, HR2.out, HS2.out⟩
set_option maxRecDepth 100000 in
theorem step_move (d : Nat) (hR : IsR B w p s k) (hs : s.size ≤ 281474976710656) (hb : Blk w br 75 #[.pointer (some ⟨p, 0, none⟩)]) (h : k + 1 < 8 * s.size) (h0 : (bitsB s.data.toList).getD k 0 = 1) (h1 : (bitsB s.data.toList).getD (k + 1) 0 = d) (hd : d < 2) : Calls Tryz.prog 160 #[.pointer (some ⟨br, 0, none⟩)] w (StepPost B w p s (1 - 2 * (d : Int)) 0 (k + 2)) := by
  have ht := take1_ok B w p s k hR hs (by omega)
  rw [h0] at ht
  have HT := Lib.hid ht
  have HT2 := Lib.hid fun w1 (h2 : IsR B w1 p s (k + 1)) => take1_ok B w1 p s (k + 1) h2 hs h
  rw [h1] at HT2
  have c0 := blk_cell hb 0
  simp at c0
  have HK := Lib.hid fun w1 (h1 : Step B [p] [] w w1) => ptr_kept hR hb h1
  clear hR hb h ht h0 h1
  go_enter Tryz.func160, Tryz.ntmps160
  go_wp2_with fail
  refine HT.out.mono ?_
  rintro e w1 ⟨rfl, hR1, hs1⟩
  have c1 := blk_cell (HK.out w1 hs1) 0
  simp at c1
  have HT3 := Lib.hid (HT2.out w1 hR1)
  have HS1 := Lib.hid hs1
  clear hR1 hs1
  go_wp2_with fail
  refine HT3.out.mono ?_
  rintro e w2 ⟨rfl, hR2, hs2⟩
  have HR2 := Lib.hid hR2
  have HS2 := Lib.hid (HS1.out.trans hs2)
  clear hR2 hs2
  go_wp2_with fail
  go_ret2
  exact ⟨rfl, HR2.out, HS2.out⟩
end

end Go.Proofs.YtmgmgmbpldboiaaGreat.S10
namespace Go.Proofs.YtmgmgmbpldboiaaGreat.S10
open Go.RowKit

theorem guardB : Tryz.prog.eqGuardType Tryz.prog.depth 43 = false := by kernel_rfl
theorem heldB : Tryz.prog.stoodInHeld 43 = false := by kernel_rfl
set_option maxRecDepth 100000 in
theorem fieldsB : Tryz.prog.underlying 43 = some (.struct (Tryz.prog.fieldsOf 43)) := by simp [Program.fieldsOf, Tryz.underlying43]
set_option maxRecDepth 100000 in
/-- Two pieces of one text and one count are equal. -/
theorem bits_eql (T : ByteArray) (n : Int) (w : World) : (binOp .eql 43 (.agg #[.string T, .int .i64 n]) (.agg #[.string T, .int .i64 n])).run Tryz.prog w = .ok (.bool true) w := by
  rw [run_eql_struct, run_equalIn_agg w 9999 43 _ _ fieldsB heldB]
  simp [Program.fieldsOf, Tryz.underlying43, Op.eqFields, part, go_sem]

/-- What is asked of the code's functions. -/
structure DeltaDone : Prop where
  shows : ∀ (w : World) (A : Option Addr) (n c : Nat) (L : List Int), ZIn w A n L → n ≤ c → n ≤ maxLen → Calls Tryz.prog 69 #[.slice A n c] w (BitsPost w (showAns L))
  take : ∀ (w : World) (s : ByteArray) (at' n : Int), s.size ≤ 20000 → -9223372036854775808 ≤ at' → at' ≤ 9223372036854775807 → -9223372036854775808 ≤ n → n ≤ 9223372036854775807 → Calls Tryz.prog 90 #[.string s, .int .i64 at', .int .i64 n] w (AllPost w (takeAns (bitsB s.data.toList) at' n))

theorem take_small : ∀ (bs : List Nat) (now n p : Nat) (out : List Nat), (takeF bs now n p out).1.length ≤ out.length + n ∧ (takeF bs now n p out).2.1 ≤ p + bs.length ∧ (takeF bs now n p out).2.2 ≤ 80
  | bs, now, 0, p, out => by
    rw [takeF_done]
    exact ⟨Nat.le_refl _, Nat.le_add_right _ _, Nat.zero_le _⟩
  | [], now, n + 1, p, out => by
    by_cases h : now < 1 ∨ 20 < now
    · rw [takeF_bad _ _ _ _ _ h]
      exact ⟨Nat.zero_le _, Nat.zero_le _, Nat.le_refl _⟩
    · rw [takeF_nil _ _ _ _ h]
      exact ⟨Nat.zero_le _, Nat.zero_le _, by show 10 ≤ 80; omega⟩
  | b :: bs, now, n + 1, p, out => by
    by_cases h : now < 1 ∨ 20 < now
    · rw [takeF_bad _ _ _ _ _ h]
      exact ⟨Nat.zero_le _, Nat.zero_le _, Nat.le_refl _⟩
    · by_cases hb : b = 0
      · subst hb
        rw [takeF_zero _ _ _ _ _ h]
        have ih := take_small bs now n (p + 1) (out ++ [now])
        rw [List.length_append] at ih
        refine ⟨Nat.le_trans ih.1 ?_, Nat.le_trans ih.2.1 ?_, ih.2.2⟩
        · show out.length + 1 + n ≤ _
          omega
        · rw [List.length_cons]
          omega
      · match bs with
        | [] =>
          rw [takeF_one _ _ _ _ _ h hb]
          exact ⟨Nat.zero_le _, Nat.zero_le _, by show 10 ≤ 80; omega⟩
        | d :: bs =>
          rw [takeF_step _ _ _ _ _ _ _ h hb]
          have ih := take_small bs (if d = 0 then now + 1 else now - 1) (n + 1) (p + 2) out
          refine ⟨ih.1, Nat.le_trans ih.2.1 ?_, ih.2.2⟩
          rw [List.length_cons, List.length_cons]
          omega
  termination_by bs => bs.length
theorem takeAns_small (bits : List Nat) (at' n : Int) : (takeAns bits at' n).1.length ≤ 258 ∧ (takeAns bits at' n).2.1 ≤ bits.length ∧ (takeAns bits at' n).2.2 ≤ 80 := by
  unfold takeAns
  by_cases h : at' < 0 ∨ (bits.length : Int) < at' ∨ n < 2 ∨ 258 < n
  · rw [if_pos h]
    exact ⟨Nat.zero_le _, Nat.zero_le _, by show 2 ≤ 80; omega⟩
  · rw [if_neg h]
    by_cases h2 : bits.length < at'.toNat + 5
    · rw [if_pos h2]
      exact ⟨Nat.zero_le _, Nat.zero_le _, by show 10 ≤ 80; omega⟩
    · rw [if_neg h2]
      have := take_small (bits.drop (at'.toNat + 5)) (val ((bits.drop at'.toNat).take 5)) n.toNat (at'.toNat + 5) []
      rw [List.length_drop, List.length_nil] at this
      exact ⟨by omega, by omega, this.2.2⟩
/-- An all post, its slice written out. -/
theorem all_slice {w w' : World} {ans : List Nat × Nat × Nat} {e : Ending} (h : AllPost w ans e w') : ∃ A c, e = .returned (.tuple #[.slice A ans.1.length c, .int .i64 ans.2.1, .int .i64 ans.2.2]) ∧ ans.1.length ≤ c ∧ IntsIn w' A ans.1.length ans.1 ∧ Below w.heap.size w w' := by
  obtain ⟨v, rfl, ho, hb⟩ := h
  obtain ⟨A, c, rfl, hc, _, _⟩ := own_slice ho
  exact ⟨A, c, rfl, hc, ints_of_own ho, hb⟩
section
variable (R : DeltaDone)
include R

end

end Go.Proofs.YtmgmgmbpldboiaaGreat.S10
