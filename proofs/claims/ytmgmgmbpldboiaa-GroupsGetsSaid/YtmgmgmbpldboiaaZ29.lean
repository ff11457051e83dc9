/- Dlb Grm: texts laid together, what is not used left out. -/
import Derived.Test.YtmgmgmbpldboiaaZ28
import Derived.Test.YtmgmgmbpldboiaaZ01
import Derived.Test.YtmgmgmbpldboiaaZ26
import Derived.Test.YtmgmgmbpldboiaaZ27
import Derived.Test.YtmgmgmbpldboiaaZ10
import Derived.Lib.AppendZeros
namespace Go.Proofs.Ytmgmgmbpldboiaa.S10
open Go.RowKit

theorem blk_under {B : Nat} {w w' : World} {g : Nat} {t : TypeId} {cs : Array Value} (h : Below B w w') (hb : Blk w g t cs) (hg : g < B) : Blk w' g t cs := (h.block g hg).trans hb

set_option maxHeartbeats 1600000 in
set_option maxRecDepth 100000 in
theorem cshow_out (w : World) (A : Option Addr) (n c : Nat) (L : List Int) (_hz : ZIn w A n L) (_hn : n ≤ maxLen) (h : ¬ (2 ≤ (n : Int) ∧ (n : Int) ≤ 258)) : Calls Try.prog 24 #[.slice A n c] w (BitsPost w ([], 80)) := by
  unfold maxLen at _hn
  have hk1 : Blk (w.alloc (.cells #[.string ⟨#[]⟩, .int .i64 0] 35)) w.heap.size 35 #[.string ⟨#[]⟩, .int .i64 0] := blk_new w 35 _
  have hb1 : Below w.heap.size w (w.alloc (.cells #[.string ⟨#[]⟩, .int .i64 0] 35)) := (Below.refl _ _).alloc (Nat.le_refl _) _
  have HE := Lib.hid (enough_any (w.alloc (.cells #[.string ⟨#[]⟩, .int .i64 0] 35)) n)
  rw [decide_eq_false h] at HE
  have HB := Lib.hid hb1
  have q0 := blk_cell hk1 0
  have q1 := blk_cell hk1 1
  have f0 := blk_frozen hk1 0
  have f1 := blk_frozen hk1 1
  simp at q0 q1
  clear hk1 hb1 h
  go_enter Try.func24, Try.ntmps24
  go_wp2_with fail
  refine HE.out.mono ?_
  rintro e w1 ⟨rfl, rfl⟩
  go_wp2_with fail
  refine bodyPost_ret (v := .tuple #[.agg #[.string ⟨#[]⟩, .int .i64 0], .int .i64 80]) ?_ rfl ?_
  · simp [results, Try.results24, go_sem]
  · first | exact ⟨rfl, HB.out⟩ | exact ⟨rfl, (HB.out.setCell (p := ⟨w.heap.size, 0, none⟩) (Nat.le_refl _) _).setCell (p := ⟨w.heap.size, 1, none⟩) (Nat.le_refl _) _⟩

set_option maxHeartbeats 1600000 in
set_option maxRecDepth 100000 in
theorem cshow_bad (w : World) (A : Option Addr) (n c : Nat) (L : List Int) (hz : ZIn w A n L) (h : 2 ≤ (n : Int) ∧ (n : Int) ≤ 258) (hbad : BadIn L) : Calls Try.prog 24 #[.slice A n c] w (BitsPost w ([], 80)) := by
  have hk1 : Blk (w.alloc (.cells #[.string ⟨#[]⟩, .int .i64 0] 35)) w.heap.size 35 #[.string ⟨#[]⟩, .int .i64 0] := blk_new w 35 _
  have hb1 : Below w.heap.size w (w.alloc (.cells #[.string ⟨#[]⟩, .int .i64 0] 35)) := (Below.refl _ _).alloc (Nat.le_refl _) _
  have HE := Lib.hid (enough_any (w.alloc (.cells #[.string ⟨#[]⟩, .int .i64 0] 35)) n)
  rw [decide_eq_true h] at HE
  have HC := Lib.hid (contains_any (w.alloc (.cells #[.string ⟨#[]⟩, .int .i64 0] 35)) A n c L (hz.below hb1) (by omega))
  rw [decide_eq_true hbad] at HC
  have HB := Lib.hid hb1
  have HK := Lib.hid hk1
  clear hk1 hb1 hz h hbad
  go_enter Try.func24, Try.ntmps24
  go_wp2_with fail
  refine HE.out.mono ?_
  rintro e w1 ⟨rfl, rfl⟩
  go_wp2_with fail
  refine HC.out.mono ?_
  rintro e w2 ⟨rfl, hb2⟩
  have hk := (step_of_below hb2).blk HK.out List.not_mem_nil List.not_mem_nil
  have hbl : Below w.heap.size w w2 := HB.out.trans (hb2.mono (by simp))
  have q0 : w2.cell? ⟨w.heap.size, 0, none⟩ = some (.string ⟨#[]⟩) := blk_cell hk 0
  have q1 : w2.cell? ⟨w.heap.size, 1, none⟩ = some (.int .i64 0) := blk_cell hk 1
  have f0 := blk_frozen hk 0
  have f1 := blk_frozen hk 1
  have HB2 := Lib.hid hbl
  clear hb2 hk hbl
  go_wp2_with fail
  refine bodyPost_ret (v := .tuple #[.agg #[.string ⟨#[]⟩, .int .i64 0], .int .i64 80]) ?_ rfl ?_
  · simp [results, Try.results24, go_sem, q0, q1]
  · exact ⟨rfl, (HB2.out.setCell (p := ⟨w.heap.size, 0, none⟩) (Nat.le_refl _) _).setCell (p := ⟨w.heap.size, 1, none⟩) (Nat.le_refl _) _⟩

set_option maxHeartbeats 3200000 in
set_option maxRecDepth 100000 in
theorem cshow_ok (w : World) (A : Option Addr) (n c : Nat) (L : List Int) (hz : ZIn w A n L) (h : DOk L) : Calls Try.prog 24 #[.slice A n c] w (BitsPost w (showD (nl L), 0)) := by
  have hln := hz.1
  obtain ⟨l, hl⟩ : ∃ l, l = nl L := ⟨_, rfl⟩
  have hll : l.length = n := by rw [hl, nl_length]; exact hln
  have h20 : ∀ j, j < n → 1 ≤ l.getD j 0 ∧ l.getD j 0 ≤ 20 := by
    intro j hj
    rw [hl]
    exact nl_in h _ (nat_mem (by rw [nl_length]; omega))
  have hget : ∀ j, j < n → L.getD j 0 = (l.getD j 0 : Nat) := by
    intro j hj
    have h1 := h.2.2 _ (int_mem (L := L) (j := j) (by omega))
    rw [hl, nl_get, Int.toNat_of_nonneg (by omega)]
  have hnb : ¬ BadIn L := by
    rintro ⟨x, hx, hx2⟩
    have := h.2.2 x hx
    omega
  have hn2 : 2 ≤ n := by have := h.1; omega
  have hn258 : n ≤ 258 := by have := h.2.1; omega
  rw [← hl]
  have hk1 : Blk (w.alloc (.cells #[.string ⟨#[]⟩, .int .i64 0] 35)) w.heap.size 35 #[.string ⟨#[]⟩, .int .i64 0] := blk_new w 35 _
  have hb1 : Below w.heap.size w (w.alloc (.cells #[.string ⟨#[]⟩, .int .i64 0] 35)) := (Below.refl _ _).alloc (Nat.le_refl _) _
  have HE := Lib.hid (enough_any (w.alloc (.cells #[.string ⟨#[]⟩, .int .i64 0] 35)) n)
  rw [decide_eq_true (show 2 ≤ (n : Int) ∧ (n : Int) ≤ 258 by omega)] at HE
  have HC := Lib.hid (contains_any (w.alloc (.cells #[.string ⟨#[]⟩, .int .i64 0] 35)) A n c L (hz.below hb1) (by omega))
  rw [decide_eq_false hnb] at HC
  have HB := Lib.hid hb1
  have HK := Lib.hid hk1
  have HZ := Lib.hid hz
  have HG := Lib.hid hget
  have H20 := Lib.hid h20
  have HLL := Lib.hid hll
  have hst : ∀ i, i < n → stepsB (l.getD 0 0) (l.take (i + 1)) = stepsB (l.getD 0 0) (l.take i) ++ stepB (aheadD l i) (l.getD i 0) := fun i hi => stepsB_next (by omega)
  have HST := Lib.hid hst
  have hslen : ∀ i, i ≤ n → (bitsN (l.getD 0 0) 5 ++ stepsB (l.getD 0 0) (l.take i)).length ≤ 20000 := by
    intro i hi
    have h1 := sizeD_le (l.take i) (l.getD 0 0) (h20 0 (by omega)).2 (fun x hx => by
      obtain ⟨j, hj, rfl⟩ := List.mem_iff_getElem.1 (List.mem_of_mem_take hx)
      have := (h20 j (by omega)).2
      rw [List.getD_eq_getElem?_getD, List.getElem?_eq_getElem hj] at this
      exact this)
    rw [List.length_append, bitsN_length, stepsB_length]
    have h2 : (l.take i).length ≤ 258 := by rw [List.length_take]; omega
    omega
  have HSL := Lib.hid hslen
  have hfin : showD l = bitsN (l.getD 0 0) 5 ++ stepsB (l.getD 0 0) (l.take n) := by
    rw [List.take_of_length_le (by omega)]
    rfl
  have HF := Lib.hid hfin
  have hah : ∀ i, aheadD l (i + 1) = l.getD i 0 := fun i => rfl
  have HAH := Lib.hid hah
  have hah0 : aheadD l 0 = l.getD 0 0 := rfl
  have HAH0 := Lib.hid hah0
  have HTELL := Lib.hid tell_any
  clear hk1 hb1 hz hget h20 hll hst hslen hfin hah hah0 hnb h hl hln
  go_enter Try.func24, Try.ntmps24
  go_wp2_with fail
  refine HE.out.mono ?_
  rintro e w1 ⟨rfl, rfl⟩
  go_wp2_with fail
  refine HC.out.mono ?_
  rintro e w2 ⟨rfl, hb2⟩
  have hk2 := (step_of_below hb2).blk HK.out List.not_mem_nil List.not_mem_nil
  have hbl : Below w.heap.size w w2 := HB.out.trans (hb2.mono (by simp))
  have HK2 := Lib.hid hk2
  have HB2 := Lib.hid hbl
  have hz2 : w.heap.size < w2.heap.size := blk_lt hk2
  clear hb2 hk2 hbl HB HK HE HC
  go_upto_region 4 with (go_at_call 20; refine (newW w2).mono ?_; rintro e w3 ⟨rfl, hw3'⟩; have HW3' := Lib.hid hw3'; clear hw3')
  have hw3 := HW3'.out
  clear HW3'
  have hb3 : Below w2.heap.size w2 w3 := by rw [hw3]; exact (Below.refl _ _).alloc (Nat.le_refl _) _
  obtain ⟨p, hp⟩ : ∃ p, p = w2.heap.size := ⟨_, rfl⟩
  have hW3 : IsW p w3 p (.slice none 0 0) [] := by rw [hw3, hp]; exact isW_new w2 _ (Nat.le_refl _)
  have hk3 := blk_under hb3 HK2.out hz2
  have hbl3 : Below w.heap.size w w3 := HB2.out.trans (hb3.mono (Nat.le_of_lt hz2))
  rw [← hp] at hz2 ⊢
  have hz3 := HZ.out.below hbl3
  obtain ⟨b, off, hA, hc⟩ := HZ.out.2 (by omega)
  subst hA
  have hcell : ∀ (wx : World), Below w.heap.size w wx → ∀ i, i < n → wx.cell? ⟨b, off + i, none⟩ = some (.int .i64 (l.getD i 0 : Nat)) := by
    intro wx hbx i hi
    obtain ⟨b', off', hA, hc'⟩ := (HZ.out.below hbx).2 (by omega)
    injection hA with hA
    injection hA with h1 h2
    subst h1 h2
    rw [hc' i hi, HG.out i hi]
  have HCELL := Lib.hid hcell
  have hc0 : w3.cell? ⟨b, off, none⟩ = some (.int .i64 (l.getD 0 0 : Nat)) := hcell w3 hbl3 0 (by omega)
  obtain ⟨x0, hx0⟩ : ∃ x0, x0 = l.getD 0 0 := ⟨_, rfl⟩
  have hx20 : 1 ≤ x0 ∧ x0 ≤ 20 := by rw [hx0]; exact H20.out 0 (by omega)
  have hx1 := hx20.1
  have hx2 := hx20.2
  rw [← hx0] at hc0
  have HX0 := Lib.hid hx0
  have HK3 := Lib.hid hk3
  have HB3 := Lib.hid hbl3
  have hI0 : (0 : Int) < (n : Int) := by omega
  have HPUT := Lib.hid (put_ok p w3 p _ [] x0 5 hW3 (by simp) (by omega) (by show x0 < 32; omega))
  clear hw3 hb3 hp hW3 hk3 hbl3 hc hcell hx0 hx20 hz3 HK2 HB2
  go_wp2_with fail
  refine HPUT.out.mono ?_
  rintro e w4 ⟨rfl, v4, hW4, hs4⟩
  have hk4 := blk_under hs4.below HK3.out hz2
  have HK4 := Lib.hid hk4
  have HB4 := Lib.hid (HB3.out.trans (hs4.below.mono (Nat.le_of_lt hz2)))
  have HW4 := Lib.hid hW4
  clear hW4 hs4 hk4 HK3 HB3 HPUT hc0
  go_wp2_with fail
  go_loopw [5, 7, 27] (fun a5 a7 x wx => ∃ (i : Nat) (v : Value), i ≤ n ∧ x = .int .i64 i ∧ a5 = .int .i64 (aheadD l i : Nat) ∧ IsW p wx p v (bitsN (l.getD 0 0) 5 ++ stepsB (l.getD 0 0) (l.take i)) ∧ Blk wx w.heap.size 35 #[.string ⟨#[]⟩, .int .i64 0] ∧ Below w.heap.size w wx) (fun _ _ x _ => n - (intOf x).toNat)
  case atStart =>
    refine ⟨0, v4, Nat.zero_le _, rfl, by rw [HAH0.out, ← HX0.out], ?_, HK4.out, HB4.out⟩
    have h1 := HW4.out
    rw [HX0.out] at h1
    rw [List.take_zero]
    show IsW p w4 p v4 (bitsN (l.getD 0 0) 5 ++ [])
    rw [List.append_nil]
    exact h1
  case round =>
    obtain ⟨i, v, hi, rfl, rfl, hW, hk, hb⟩ := hrel
    by_cases e : i < n
    · have d0 : decide ((i : Int) < (n : Int)) = true := decide_eq_true (by omega)
      have hcw := HCELL.out wr hb i e
      have hstep := HST.out i e
      obtain ⟨x, hx⟩ : ∃ x, x = l.getD i 0 := ⟨_, rfl⟩
      have hxb : x ≤ 20 := by rw [hx]; exact (H20.out i e).2
      obtain ⟨a, ha⟩ : ∃ a, a = aheadD l i := ⟨_, rfl⟩
      have hab : a ≤ 20 := by rw [ha]; exact (H20.out (i - 1) (by omega)).2
      have hnext := HAH.out i
      rw [← hx] at hcw hstep hnext
      rw [← ha] at hstep ⊢
      have HT := Lib.hid (HTELL.out p wr p v _ a x hW (Nat.le_trans (HSL.out i hi) (by omega)) hab hxb)
      have HSTEP := Lib.hid hstep
      have HNEXT := Lib.hid hnext
      have HK := Lib.hid hk
      have HB := Lib.hid hb
      clear hW hk hb hx ha hstep hnext
      go_wp2_with fail
      refine HT.out.mono ?_
      rintro e w5 ⟨rfl, v5, hW5, hb5⟩
      have HW5 := Lib.hid hW5
      have HK5 := Lib.hid (blk_under hb5 HK.out hz2)
      have HB5 := Lib.hid (HB.out.trans (hb5.mono (Nat.le_of_lt hz2)))
      clear hW5 hb5
      go_wp2_with fail
      go_roundw
      case rel =>
        refine ⟨i + 1, v5, by omega, by go_num, by rw [HNEXT.out], ?_, HK5.out, HB5.out⟩
        rw [HSTEP.out, ← List.append_assoc]
        exact HW5.out
      case measure => simp [intOf]; omega
    · obtain rfl : i = n := by omega
      have d0 : decide ((i : Int) < (i : Int)) = false := decide_eq_false (by omega)
      rw [← HF.out] at hW
      obtain ⟨S, hS⟩ : ∃ S : ByteArray, S = ⟨(pack (showD l)).toArray⟩ := ⟨_, rfl⟩
      have hT := wtext_yes p wr p v (showD l) hW
      rw [← hS] at hT
      have HT := Lib.hid hT
      have HSS := Lib.hid hS
      obtain ⟨m, hm⟩ : ∃ m, m = (showD l).length := ⟨_, rfl⟩
      have c0 := blk_cell hW.blk 0
      have c2 := blk_cell hW.blk 2
      simp at c0 c2
      have HM := Lib.hid hm
      rw [← hm] at c2
      have HLN := Lib.hid (wlen_yes wr p m c0 c2)
      have q0 : wr.cell? ⟨w.heap.size, 0, none⟩ = some (.string ⟨#[]⟩) := blk_cell hk 0
      have q1 : wr.cell? ⟨w.heap.size, 1, none⟩ = some (.int .i64 0) := blk_cell hk 1
      have f0 := blk_frozen hk 0
      have f1 := blk_frozen hk 1
      have HB := Lib.hid hb
      clear hW hk hb hS hm c0 c2 hT
      go_wp2_with fail
      refine HT.out.mono ?_
      rintro e w8 ⟨rfl, rfl⟩
      go_wp2_with fail
      refine HLN.out.mono ?_
      rintro e w8 ⟨rfl, rfl⟩
      go_wp2_with fail
      refine bodyPost_ret (v := .tuple #[.agg #[.string S, .int .i64 m], .int .i64 0]) ?_ rfl ?_
      · simp [results, Try.results24, go_sem, q0, q1]
      · exact ⟨by rw [HSS.out, HM.out]; rfl, (HB.out.setCell (p := ⟨w.heap.size, 0, none⟩) (Nat.le_refl _) _).setCell (p := ⟨w.heap.size, 1, none⟩) (Nat.le_refl _) _⟩

theorem cshow_any (w : World) (A : Option Addr) (n c : Nat) (L : List Int) (hz : ZIn w A n L) (hn : n ≤ maxLen) : Calls Try.prog 24 #[.slice A n c] w (BitsPost w (showAns L)) := by
  by_cases h : 2 ≤ (n : Int) ∧ (n : Int) ≤ 258
  · by_cases hb : BadIn L
    · rw [showAns, if_neg]
      · exact cshow_bad w A n c L hz h hb
      · intro hok
        obtain ⟨x, hx, hx2⟩ := hb
        have := hok.2.2 x hx
        omega
    · have hok : DOk L := by
        refine ⟨by have := hz.1; omega, by have := hz.1; omega, fun x hx => ?_⟩
        by_cases h1 : x < 1 ∨ 20 < x
        · exact absurd ⟨x, hx, h1⟩ hb
        · omega
      rw [showAns, if_pos hok]
      exact cshow_ok w A n c L hz hok
  · rw [showAns, if_neg]
    · exact cshow_out w A n c L hz hn h
    · intro hok
      have h1 := hok.1
      have h2 := hok.2.1
      have := hz.1
      omega

end Go.Proofs.Ytmgmgmbpldboiaa.S10
namespace Go.Proofs.Ytmgmgmbpldboiaa
open Go.RowKit

/-- Pieces as cells. -/
def pcsCells (ls : List (List Nat)) : List Value := ls.flatMap fun l => [.string ⟨(pack l).toArray⟩, .int .i64 l.length]
set_option maxRecDepth 100000 in
theorem pcsCells_snoc (ls : List (List Nat)) (l : List Nat) : pcsCells (ls ++ [l]) = pcsCells ls ++ [.string ⟨(pack l).toArray⟩, .int .i64 l.length] := by simp [pcsCells]
set_option maxRecDepth 100000 in
theorem pcsCells_get : ∀ (ls : List (List Nat)) (j : Nat), j < ls.length → (pcsCells ls)[j * 2]? = some (.string ⟨(pack (ls.getD j [])).toArray⟩) ∧ (pcsCells ls)[j * 2 + 1]? = some (.int .i64 (ls.getD j []).length)
  | [], _, h => absurd h (Nat.not_lt_zero _)
  | l :: ls, 0, _ => ⟨rfl, rfl⟩
  | l :: ls, j + 1, h => by
    have ih := pcsCells_get ls j (by simpa using h)
    have e : pcsCells (l :: ls) = [.string ⟨(pack l).toArray⟩, .int .i64 l.length] ++ pcsCells ls := rfl
    rw [e, show (j + 1) * 2 = 2 + j * 2 by omega, show 2 + j * 2 + 1 = 2 + (j * 2 + 1) by omega, List.getElem?_append_right (by simp), List.getElem?_append_right (by simp)]
    simpa using ih
/-- Pieces in a slice of the call's own. -/
structure Pcs (w : World) (B : Nat) (v : Value) (ls : List (List Nat)) : Prop where
  own : w.ownsRow B 35 2 v ls.length (pcsCells ls)
  bit : ∀ l ∈ ls, Bit01 l
set_option maxRecDepth 100000 in
theorem Try.infoBits : (Try.prog.info? 35).map (fun i => (i.zero, i.size, i.bytes)) = some (some (.agg #[.string ⟨#[]⟩, .int .i64 0]), 2, 24) := by kernel_rfl
theorem pcs_one (w : World) (B : Nat) (hB : B ≤ w.heap.size) (l : List Nat) (hl : Bit01 l) : Pcs (w.alloc (.cells #[.string ⟨(pack l).toArray⟩, .int .i64 l.length] 35)) B (.slice (some ⟨w.heap.size, 0, none⟩) 1 1) [l] :=
  ⟨⟨rfl, .inr ⟨w.heap.size, 1, _, rfl, hB, heap_alloc_new w _, Nat.le_refl _, by unfold maxLen; omega, rfl, rfl⟩⟩, fun x hx => by rw [List.mem_singleton.1 hx]; exact hl⟩
theorem Pcs.below {w w' : World} {B : Nat} {v : Value} {ls : List (List Nat)} (h : Pcs w B v ls) (hb : Below w.heap.size w w') : Pcs w' B v ls :=
  ⟨(step_of_below hb).row h.own (fun _ _ => List.not_mem_nil) List.not_mem_nil, h.bit⟩
set_option maxRecDepth 100000 in
/-- A piece is appended. -/
theorem pcs_append (w : World) (B : Nat) (v : Value) (ls : List (List Nat)) (l : List Nat) (h : Pcs w B v ls) (hB : B ≤ w.heap.size) (hn : ls.length ≤ 1000000) (hl : Bit01 l) :
    ∃ v' w', (Builtin.append_ #[56, 56] 56 #[v, .slice (some ⟨w.heap.size, 0, none⟩) 1 1]).run Try.prog (w.alloc (.cells #[.string ⟨(pack l).toArray⟩, .int .i64 l.length] 35)) = .ok v' w' ∧ Pcs w' B v' (ls ++ [l]) ∧ Below B w w' := by
  obtain ⟨i3, h3, hz0, hz1, hz2⟩ := info_parts Try.infoBits
  obtain ⟨v', w', h1, h2, h4, _⟩ := run_append_own (P := Try.prog) (w.alloc (.cells #[.string ⟨(pack l).toArray⟩, .int .i64 l.length] 35)) B 56 56 35 i3 _ 2 24 Try.underlying56 h3 hz0 hz1 hz2 rfl (by decide) v ls.length (pcsCells ls) (h.own.alloc _)
    ⟨w.heap.size, 0, none⟩ 1 1 [.string ⟨(pack l).toArray⟩, .int .i64 l.length] rfl (two_new w _ _ _)
    (fun u hu => by
      simp at hu
      rcases hu with rfl | rfl <;> rfl) (by unfold maxLen; omega) (by omega) (by simp; omega)
  refine ⟨v', w', h1, ⟨?_, fun x hx => ?_⟩, ((Below.refl B w).alloc hB _).grown h4 (by simp; omega) (fun k hk => (World.ownsRow.lt h.own k hk).1)⟩
  · rw [pcsCells_snoc, List.length_append, List.length_singleton]
    exact h2
  · rcases List.mem_append.1 hx with hx | hx
    · exact h.bit x hx
    · rw [List.mem_singleton.1 hx]
      exact hl

set_option maxRecDepth 100000 in
theorem pcs_piece (l : List Nat) (hb : Bit01 l) : mayB ⟨(pack l).toArray⟩ l.length = true := by
  rw [may_parts, show (ByteArray.mk (pack l).toArray).size = (l.length + 7) / 8 by rw [← pack_length]; rfl, show (ByteArray.mk (pack l).toArray).data.toList = pack l from rfl, bitsB_pack l hb, List.drop_left]
  exact ⟨by omega, by omega, by simp⟩
set_option maxRecDepth 100000 in
theorem pcs_flat (ls : List (List Nat)) (hb : ∀ l ∈ ls, Bit01 l) : ∀ i, i ≤ ls.length → joinL (fun i => ⟨(pack (ls.getD i [])).toArray⟩) (fun i => ((ls.getD i []).length : Int)) i = (ls.take i).flatten ∧ totS (fun i => ⟨(pack (ls.getD i [])).toArray⟩) i ≤ (ls.take i).flatten.length + i
  | 0, _ => by simp [joinL, totS]
  | i + 1, h => by
    obtain ⟨h1, h2⟩ := pcs_flat ls hb i (by omega)
    have hg : ls.getD i [] = ls[i] := by rw [List.getD_eq_getElem?_getD, List.getElem?_eq_getElem (by omega)]; rfl
    have e : ls.take (i + 1) = ls.take i ++ [ls.getD i []] := by
      rw [List.take_succ_eq_append_getElem (by omega), hg]
    have hbi : Bit01 (ls.getD i []) := by rw [hg]; exact hb _ (List.getElem_mem _)
    have hsz : (ByteArray.mk (pack (ls.getD i [])).toArray).size = ((ls.getD i []).length + 7) / 8 := by rw [← pack_length]; rfl
    rw [e, List.flatten_append]
    refine ⟨?_, ?_⟩
    · rw [joinL, h1]
      congr 1
      rw [Int.toNat_natCast, show (ByteArray.mk (pack (ls.getD i [])).toArray).data.toList = pack (ls.getD i []) from rfl, bitsB_pack _ hbi, List.take_left]
      simp
    · rw [totS, hsz, List.length_append]
      simp only [List.flatten_cons, List.flatten_nil, List.append_nil]
      omega
theorem pcs_le (ls : List (List Nat)) (i : Nat) (h : i < ls.length) : (ls.getD i []).length ≤ ls.flatten.length := by
  rw [List.getD_eq_getElem?_getD, List.getElem?_eq_getElem h]
  exact List.Sublist.length_le (List.sublist_flatten_of_mem (List.getElem_mem h))
/-- Pieces are joined. -/
theorem pcs_join (w : World) (B : Nat) (v : Value) (ls : List (List Nat)) (h : Pcs w B v ls) (hn : ls.length ≤ 1000000) (hl : ls.flatten.length ≤ 100000000) :
    Calls Try.prog 25 #[v] w (SlicePost w (pack ls.flatten) ls.flatten.length 0) := by
  obtain ⟨A, c, rfl, hc, _, hA⟩ := own_slice h.own
  obtain ⟨hj, ht⟩ := pcs_flat ls h.bit ls.length (Nat.le_refl _)
  rw [List.take_length] at hj ht
  have hk := join_ok w A ls.length c (fun i => ⟨(pack (ls.getD i [])).toArray⟩) (fun i => ((ls.getD i []).length : Int)) (fun h0 => by
    obtain ⟨g, rfl⟩ := hA h0
    refine ⟨g, 0, rfl, (World.ownsRow.lt h.own g rfl).2, fun i hi => ?_⟩
    have hg := pcsCells_get ls i hi
    rw [Nat.zero_add, World.ownsRow.cellAt h.own (i * 2) (by omega), World.ownsRow.cellAt h.own (i * 2 + 1) (by omega)]
    exact hg) (by unfold maxLen; omega) (by omega)
    (fun i hi => by
      have := pcs_le ls i hi
      rw [show (ByteArray.mk (pack (ls.getD i [])).toArray).size = ((ls.getD i []).length + 7) / 8 by rw [← pack_length]; rfl]
      omega)
    (fun i hi => by
      have := pcs_le ls i hi
      omega) (fun i hi => pcs_piece _ (by
        rw [List.getD_eq_getElem?_getD, List.getElem?_eq_getElem hi]
        exact h.bit _ (List.getElem_mem _)))
  rw [hj] at hk
  exact hk

end Go.Proofs.Ytmgmgmbpldboiaa
