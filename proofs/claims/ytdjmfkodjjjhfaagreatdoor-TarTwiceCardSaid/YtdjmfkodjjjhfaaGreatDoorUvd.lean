/- Ustar's code: a cutter: its three methods. No conditions. -/
import Derived.Test.YtdjmfkodjjjhfaaGreatDoorUsc
import Derived.Test.YtdjmfkodjjjhfaaGreatDoorFwg
import Derived.Test.YtdjmfkodjjjhfaaGreatDoorFwh
import Derived.Test.YtdjmfkodjjjhfaaGreatDoorUse
namespace Go.Proofs.YtdjmfkodjjjhfaaGreatDoor
open Go.RowKit

/-- A cutter: what is left, and whether one was no number. -/
def CutIs (w : World) (g : Nat) (s : ByteArray) (b : Bool) : Prop := Blk w g 164 #[.string s, .bool b] ∧ s.size ≤ 140737488355328
set_option maxHeartbeats 1600000 in
set_option maxRecDepth 100000 in
theorem cpiece_any (w : World) (g : Nat) (s : ByteArray) (b : Bool) (n : Nat) (h : CutIs w g s b) (hn : n ≤ s.size) :
    Calls Tryz.prog 127 #[.pointer (some ⟨g, 0, none⟩), .int .i64 n] w fun e w' => e = .returned (.string (s.extract 0 n)) ∧ CutIs w' g (s.extract n s.size) b ∧ Step g [g] [] w w' := by
  obtain ⟨hr, hl⟩ := h
  have c0 : w.cell? ⟨g, 0, none⟩ = some (.string s) := blk_cell hr 0
  have f0 : w.frozen? ⟨g, 0, none⟩ = false := blk_frozen hr 0
  have hds : (s.extract n s.size).size ≤ 140737488355328 := by rw [ByteArray.size_extract]; omega
  have hb := blk_set hr 0 (.string (s.extract n s.size))
  have HPS : Hid (CutIs (w.setCell ⟨g, 0, none⟩ (.string (s.extract n s.size))) g (s.extract n s.size) b ∧ Step g [g] [] w (w.setCell ⟨g, 0, none⟩ (.string (s.extract n s.size)))) := Lib.hid ⟨⟨hb, hds⟩, (Step.refl g [g] [] w).set (p := ⟨g, 0, none⟩) (Nat.le_refl _) (by simp) _⟩
  have hnz : (n : Int) ≤ s.size := by omega
  clear hr hds hb
  go_enter Tryz.func127, Tryz.ntmps127
  go_wp2_with fail
  go_ret
  exact ⟨rfl, HPS.out.1, HPS.out.2⟩
set_option maxHeartbeats 1600000 in
set_option maxRecDepth 100000 in
theorem cctext_any (w : World) (g : Nat) (s : ByteArray) (b : Bool) (n : Nat) (h : CutIs w g s b) (hn : n ≤ s.size) :
    Calls Tryz.prog 128 #[.pointer (some ⟨g, 0, none⟩), .int .i64 n] w fun e w' => e = .returned (.string (strF (cutZ (s.extract 0 n).data.toList))) ∧ CutIs w' g (s.extract n s.size) b ∧ Step g [g] [] w w' := by
  have C1 := Lib.hid (cpiece_any w g s b n h hn)
  have C2 := Lib.hid fun wx : World => ccut_any wx (s.extract 0 n) (by rw [ByteArray.size_extract]; have := h.2; omega)
  generalize s.extract 0 n = P at *
  generalize s.extract n s.size = R at *
  clear h hn
  go_enter Tryz.func128, Tryz.ntmps128
  go_wp2_with fail
  refine C1.out.mono ?_
  rintro e w1 ⟨rfl, hc1, hs1⟩
  have HC := Lib.hid hc1
  have HS := Lib.hid hs1
  clear hc1 hs1
  go_wp2_with fail
  refine (C2.out _).mono ?_
  rintro e w2 ⟨rfl, hb2⟩
  have HC2 : Hid (CutIs w2 g R b) := Lib.hid ⟨(step_of_below hb2).blk HC.out.1 List.not_mem_nil List.not_mem_nil, HC.out.2⟩
  have HS2 : Hid (Step g [g] [] w w2) := Lib.hid (HS.out.after (step_of_below hb2) (Nat.le_of_lt (blk_lt HC.out.1)) (by simp) (by simp))
  clear hb2
  go_wp2_with fail
  go_ret
  exact ⟨rfl, HC2.out, HS2.out⟩
set_option maxHeartbeats 1600000 in
set_option maxRecDepth 100000 in
theorem ccnumber_any (w : World) (g : Nat) (s : ByteArray) (b : Bool) (n : Nat) (h : CutIs w g s b) (hn : n ≤ s.size) :
    Calls Tryz.prog 129 #[.pointer (some ⟨g, 0, none⟩), .int .i64 n] w fun e w' => e = .returned (.int .i64 (numberA (s.extract 0 n).data.toList).1) ∧ CutIs w' g (s.extract n s.size) (b || decide ((numberA (s.extract 0 n).data.toList).2 ≠ 0)) ∧ Step g [g] [] w w' := by
  have C1 := Lib.hid (cpiece_any w g s b n h hn)
  have C2 := Lib.hid fun wx : World => cnumber_any wx (s.extract 0 n) (by rw [ByteArray.size_extract]; have := h.2; omega)
  generalize s.extract 0 n = P at *
  generalize s.extract n s.size = R at *
  generalize (numberA P.data.toList).1 = V at *
  generalize (numberA P.data.toList).2 = E at *
  clear h hn
  go_enter Tryz.func129, Tryz.ntmps129
  go_wp2_with fail
  refine C1.out.mono ?_
  rintro e w1 ⟨rfl, hc1, hs1⟩
  have HC := Lib.hid hc1
  have HS := Lib.hid hs1
  clear hc1 hs1
  go_wp2_with fail
  refine (C2.out _).mono ?_
  rintro e w2 ⟨rfl, hb2⟩
  have hk2 := (step_of_below hb2).blk HC.out.1 List.not_mem_nil List.not_mem_nil
  have HS2 : Hid (Step g [g] [] w w2) := Lib.hid (HS.out.after (step_of_below hb2) (Nat.le_of_lt (blk_lt HC.out.1)) (by simp) (by simp))
  have c0 : w2.cell? ⟨g, 1, none⟩ = some (.bool b) := blk_cell hk2 1
  have f0 : w2.frozen? ⟨g, 1, none⟩ = false := blk_frozen hk2 1
  have HEND : Hid (∀ x : Bool, CutIs (w2.setCell ⟨g, 1, none⟩ (.bool x)) g R x ∧ Step g [g] [] w (w2.setCell ⟨g, 1, none⟩ (.bool x))) := Lib.hid fun x => ⟨⟨blk_set hk2 1 (.bool x), HC.out.2⟩, HS2.out.set (p := ⟨g, 1, none⟩) (Nat.le_refl _) (by simp) _⟩
  clear hb2 hk2
  by_cases e1 : b = true
  · subst e1
    go_wp2_with fail
    go_ret
    exact ⟨rfl, (HEND.out true).1, (HEND.out true).2⟩
  · have e1 : b = false := by cases b <;> simp_all
    subst e1
    by_cases e2 : E = 0
    · have d2 : ((E : Int) != 0) = false := by rw [e2]; rfl
      have HX : Hid ((false || decide (E ≠ 0)) = false) := Lib.hid (decide_eq_false (fun h : E ≠ 0 => h e2))
      clear e2
      go_wp2_with fail
      go_ret
      rw [HX.out]
      exact ⟨rfl, (HEND.out false).1, (HEND.out false).2⟩
    · have d2 : ((E : Int) != 0) = true := bne_iff_ne.2 (by omega)
      have HX : Hid ((false || decide (E ≠ 0)) = true) := Lib.hid (decide_eq_true e2)
      clear e2
      go_wp2_with fail
      go_ret
      rw [HX.out]
      exact ⟨rfl, (HEND.out true).1, (HEND.out true).2⟩
end Go.Proofs.YtdjmfkodjjjhfaaGreatDoor
/- Ustar's code: Decode: what a cutter tells of a sector; the state between two fields. No conditions. -/
namespace Go.Proofs.YtdjmfkodjjjhfaaGreatDoor
open Go.RowKit

set_option maxRecDepth 100000 in
/-- What is told of a head in a variable of the call's own. -/
theorem ret_headC (wx : World) (B : Nat) (h : HeadP) (k : Int) (hk : Blk wx B 65 (headCs h)) (tmps : Array Value) (h2 : tmps.getD 2 undef = .pointer (some ⟨B, 0, none⟩)) (h3 : tmps.getD 3 undef = .int .i64 k) :
    (results Tryz.f99 tmps).run Tryz.prog wx = .ok (.tuple #[headV h, .int .i64 k]) wx := by
  have c0 : wx.cell? ⟨B, 0, none⟩ = some (.string h.path) := blk_cell hk 0
  have c1 : wx.cell? ⟨B, 1, none⟩ = some (.int .i64 h.size) := blk_cell hk 1
  have c2 : wx.cell? ⟨B, 2, none⟩ = some (.int .u8 h.kind) := blk_cell hk 2
  have c3 : wx.cell? ⟨B, 3, none⟩ = some (.int .i64 h.mode) := blk_cell hk 3
  have c4 : wx.cell? ⟨B, 4, none⟩ = some (.int .i64 h.time) := blk_cell hk 4
  have c5 : wx.cell? ⟨B, 5, none⟩ = some (.string h.link) := blk_cell hk 5
  have c6 : wx.cell? ⟨B, 6, none⟩ = some (.string h.user) := blk_cell hk 6
  have c7 : wx.cell? ⟨B, 7, none⟩ = some (.string h.group) := blk_cell hk 7
  have c8 : wx.cell? ⟨B, 8, none⟩ = some (.int .i64 h.uid) := blk_cell hk 8
  have c9 : wx.cell? ⟨B, 9, none⟩ = some (.int .i64 h.gid) := blk_cell hk 9
  rw [results_cell_tmp rfl, h2, h3]
  simp [asAddr, loadVar, go_sem, c0, c1, c2, c3, c4, c5, c6, c7, c8, c9, headV, headCs]

theorem drop_ext (l : List UInt8) (k n : Nat) (_ : k + n ≤ l.length) : (strF (l.drop k)).extract 0 n = strF (fld l k (k + n)) := by
  apply ByteArray.ext
  apply Array.toList_inj.1
  rw [fext_list, strF_list, List.drop_zero]
  show List.take n (List.drop k l) = _
  rw [strF_list]
  unfold fld
  rw [List.drop_take, Nat.add_sub_cancel_left]
theorem drop_rest (l : List UInt8) (k n : Nat) : (strF (l.drop k)).extract n (strF (l.drop k)).size = strF (l.drop (k + n)) := by
  rw [fext_drop, List.drop_drop]
theorem cut_piece (l : List UInt8) (k n m : Nat) (N : Int) (hN : N = (n : Int)) (hm : m = k + n) (h : m ≤ l.length) (w : World) (g : Nat) (b : Bool) (hc : CutIs w g (strF (l.drop k)) b) :
    Calls Tryz.prog 127 #[.pointer (some ⟨g, 0, none⟩), .int .i64 N] w fun e w' => e = .returned (.string (strF (fld l k m))) ∧ CutIs w' g (strF (l.drop m)) b ∧ Step g [g] [] w w' := by
  subst hm hN
  have h2 := cpiece_any w g _ b n hc (by show n ≤ (l.drop k).length; rw [List.length_drop]; omega)
  rw [drop_ext l k n h, drop_rest] at h2
  exact h2
theorem cut_text (l : List UInt8) (k n m : Nat) (N : Int) (hN : N = (n : Int)) (hm : m = k + n) (h : m ≤ l.length) (w : World) (g : Nat) (b : Bool) (hc : CutIs w g (strF (l.drop k)) b) :
    Calls Tryz.prog 128 #[.pointer (some ⟨g, 0, none⟩), .int .i64 N] w fun e w' => e = .returned (.string (strP (cutZ (fld l k m)))) ∧ CutIs w' g (strF (l.drop m)) b ∧ Step g [g] [] w w' := by
  subst hm hN
  have h2 := cctext_any w g _ b n hc (by show n ≤ (l.drop k).length; rw [List.length_drop]; omega)
  rw [drop_ext l k n h, drop_rest] at h2
  exact h2
theorem cut_number (l : List UInt8) (k n m : Nat) (N : Int) (hN : N = (n : Int)) (hm : m = k + n) (h : m ≤ l.length) (w : World) (g : Nat) (b : Bool) (hc : CutIs w g (strF (l.drop k)) b) :
    Calls Tryz.prog 129 #[.pointer (some ⟨g, 0, none⟩), .int .i64 N] w fun e w' => e = .returned (.int .i64 (numberA (fld l k m)).1) ∧ CutIs w' g (strF (l.drop m)) (b || decide ((numberA (fld l k m)).2 ≠ 0)) ∧ Step g [g] [] w w' := by
  subst hm hN
  have h2 := ccnumber_any w g _ b n hc (by show n ≤ (l.drop k).length; rw [List.length_drop]; omega)
  rw [drop_ext l k n h, drop_rest] at h2
  exact h2
/-- Between two fields: the cutter at a1, the head as far as it is told at a2, the answer's variable ahead of both. -/
structure Dec (w wk : World) (a1 a2 : Nat) (s : ByteArray) (b : Bool) (cs : Array Value) : Prop where
  cut : CutIs wk a1 s b
  head : Blk wk a2 65 cs
  zero : Blk wk w.heap.size 65 zeroCs
  below : Below w.heap.size w wk
  lo : w.heap.size < a1
  hi : a1 < a2
set_option maxRecDepth 100000 in
theorem Dec.step {w wk w' : World} {a1 a2 : Nat} {s s' : ByteArray} {b b' : Bool} {cs : Array Value} (D : Dec w wk a1 a2 s b cs) (hc : CutIs w' a1 s' b') (hs : Step a1 [a1] [] wk w') : Dec w w' a1 a2 s' b' cs :=
  ⟨hc, hs.blk D.head (by have := D.hi; simp; omega) List.not_mem_nil, hs.blk D.zero (by have := D.lo; simp; omega) List.not_mem_nil, D.below.trans (hs.below.mono (Nat.le_of_lt D.lo)), D.lo, D.hi⟩
theorem blk_setO {w : World} {g a : Nat} {t : TypeId} {cs : Array Value} (h : Blk w g t cs) (hne : g ≠ a) (i : Nat) (v : Value) : Blk (w.setCell ⟨a, i, none⟩ v) g t cs :=
  (Below.heap_setCell _ ⟨a, i, none⟩ _ _ hne).trans h
theorem Dec.set {w wk : World} {a1 a2 : Nat} {s : ByteArray} {b : Bool} {cs : Array Value} (D : Dec w wk a1 a2 s b cs) (i : Nat) (v : Value) : Dec w (wk.setCell ⟨a2, i, none⟩ v) a1 a2 s b (cs.setIfInBounds i v) :=
  ⟨⟨blk_setO D.cut.1 (by have := D.hi; omega) i v, D.cut.2⟩, blk_set D.head i v, blk_setO D.zero (by have := D.lo; have := D.hi; omega) i v, D.below.setCell (p := ⟨a2, i, none⟩) (by have := D.lo; have := D.hi; show _ ≤ a2; omega) v, D.lo, D.hi⟩
theorem Dec.c0 {w wk : World} {a1 a2 : Nat} {s : ByteArray} {b : Bool} {cs : Array Value} (D : Dec w wk a1 a2 s b cs) (i : Nat) : wk.cell? ⟨a2, i, none⟩ = cs[i]? := blk_cell D.head i
theorem Dec.f0 {w wk : World} {a1 a2 : Nat} {s : ByteArray} {b : Bool} {cs : Array Value} (D : Dec w wk a1 a2 s b cs) (i : Nat) : wk.frozen? ⟨a2, i, none⟩ = false := blk_frozen D.head i
set_option maxHeartbeats 3200000 in
set_option maxRecDepth 100000 in
theorem cdec_no (w : World) (t : ByteArray) (hs : t.size ≤ 140737488355328) (hno : t.size ≠ 512) : Calls Tryz.prog 99 #[.string t] w fun e w' => e = .returned (.tuple #[headV zeroHead, .int .i64 160]) ∧ Below w.heap.size w w' := by
  have C1 := Lib.hid fun wx : World => csum15_any wx t hs
  rw [show sumA t.data.toList = (0, 2) from by unfold sumA; rw [if_pos (show t.data.toList.length ≠ 512 from hno)]] at C1
  have HK := Lib.hid (blk_new w 65 zeroCs)
  have HB : Hid (Below w.heap.size w (w.alloc (.cells #[.string ⟨#[]⟩, .int .i64 0, .int .u8 0, .int .i64 0, .int .i64 0, .string ⟨#[]⟩, .string ⟨#[]⟩, .string ⟨#[]⟩, .int .i64 0, .int .i64 0] 65))) := Lib.hid ((Below.refl _ _).alloc (Nat.le_refl _) _)
  clear hno
  go_enter Tryz.func99, Tryz.ntmps99
  go_wp2_with fail
  refine (C1.out _).mono ?_
  rintro e w2 ⟨rfl, hb2⟩
  have HK2 : Hid (Blk w2 w.heap.size 65 zeroCs) := Lib.hid ((step_of_below hb2).blk HK.out List.not_mem_nil List.not_mem_nil)
  have HB2 := Lib.hid (HB.out.trans (hb2.mono HB.out.size))
  clear hb2 HK HB
  go_upto_region 3 with fail
  apply wp_region_lit
  refine wpList_build rfl 65 #[] rfl (by kernel_rfl) ?_
  refine wpList_store_row rfl 65 (.tmp 2) (.tmp 21) rfl w.heap.size zeroCs rfl (by kernel_rfl) 65 zeroCs HK2.out (by kernel_rfl) rfl (by kernel_rfl) ?_
  rw [setRow_self _ _ _ _ _ HK2.out]
  go_wp2_with fail
  exact bodyPost_ret (ret_headC _ w.heap.size zeroHead 160 HK2.out _ rfl rfl) rfl ⟨rfl, HB2.out⟩
end Go.Proofs.YtdjmfkodjjjhfaaGreatDoor
