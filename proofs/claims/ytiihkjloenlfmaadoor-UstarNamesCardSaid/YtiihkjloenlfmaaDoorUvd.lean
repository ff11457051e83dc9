/- Ustar's code: Decode: what a cutter tells of a sector; the state between two fields. No conditions. -/
import Derived.Test.YtiihkjloenlfmaaDoorUse
import Derived.Test.YtiihkjloenlfmaaDoorUvc
namespace Go.Proofs.YtiihkjloenlfmaaDoor
open Go.RowKit

set_option maxRecDepth 100000 in
/-- What is told of a head in a variable of the call's own. -/
theorem ret_headC (wx : World) (B : Nat) (h : HeadP) (k : Int) (hk : Blk wx B 25 (headCs h)) (tmps : Array Value) (h2 : tmps.getD 2 undef = .pointer (some ⟨B, 0, none⟩)) (h3 : tmps.getD 3 undef = .int .i64 k) :
    (results Tryd.f12 tmps).run Tryd.prog wx = .ok (.tuple #[headV h, .int .i64 k]) wx := by
  have c0 : wx.cell? ⟨B, 0, none⟩ = some (.string h.path) := blk_cell hk 0
  have c1 : wx.cell? ⟨B, 1, none⟩ = some (.int .i64 h.size) := blk_cell hk 1
  have c2 : wx.cell? ⟨B, 2, none⟩ = some (.int .u8 h.kind) := blk_cell hk 2
  have c3 : wx.cell? ⟨B, 3, none⟩ = some (.int .i64 h.mode) := blk_cell hk 3
  have c4 : wx.cell? ⟨B, 4, none⟩ = some (.int .i64 h.time) := blk_cell hk 4
  have c5 : wx.cell? ⟨B, 5, none⟩ = some (.string h.link) := blk_cell hk 5
  have c6 : wx.cell? ⟨B, 6, none⟩ = some (.string h.user) := blk_cell hk 6
  have c7 : wx.cell? ⟨B, 7, none⟩ = some (.string h.group) := blk_cell hk 7
  have c8 : wx.cell? ⟨B, 8, none⟩ = some (.int .i64 h.uid) := blk_cell hk 8
  have c9 : wx.cell? ⟨B, 9, none⟩ = some (.int .i64 h.gid) := blk_cell hk 9
  rw [results_cell_tmp rfl, h2, h3]
  simp [asAddr, loadVar, go_sem, c0, c1, c2, c3, c4, c5, c6, c7, c8, c9, headV, headCs]

theorem drop_ext (l : List UInt8) (k n : Nat) (_ : k + n ≤ l.length) : (strF (l.drop k)).extract 0 n = strF (fld l k (k + n)) := by
  apply ByteArray.ext
  apply Array.toList_inj.1
  rw [fext_list, strF_list, List.drop_zero]
  show List.take n (List.drop k l) = _
  rw [strF_list]
  unfold fld
  rw [List.drop_take, Nat.add_sub_cancel_left]
theorem drop_rest (l : List UInt8) (k n : Nat) : (strF (l.drop k)).extract n (strF (l.drop k)).size = strF (l.drop (k + n)) := by
  rw [fext_drop, List.drop_drop]
theorem cut_piece (l : List UInt8) (k n m : Nat) (N : Int) (hN : N = (n : Int)) (hm : m = k + n) (h : m ≤ l.length) (w : World) (g : Nat) (b : Bool) (hc : CutIs w g (strF (l.drop k)) b) :
    Calls Tryd.prog 30 #[.pointer (some ⟨g, 0, none⟩), .int .i64 N] w fun e w' => e = .returned (.string (strF (fld l k m))) ∧ CutIs w' g (strF (l.drop m)) b ∧ Step g [g] [] w w' := by
  subst hm hN
  have h2 := cpiece_any w g _ b n hc (by show n ≤ (l.drop k).length; rw [List.length_drop]; omega)
  rw [drop_ext l k n h, drop_rest] at h2
  exact h2
theorem cut_text (l : List UInt8) (k n m : Nat) (N : Int) (hN : N = (n : Int)) (hm : m = k + n) (h : m ≤ l.length) (w : World) (g : Nat) (b : Bool) (hc : CutIs w g (strF (l.drop k)) b) :
    Calls Tryd.prog 31 #[.pointer (some ⟨g, 0, none⟩), .int .i64 N] w fun e w' => e = .returned (.string (strP (cutZ (fld l k m)))) ∧ CutIs w' g (strF (l.drop m)) b ∧ Step g [g] [] w w' := by
  subst hm hN
  have h2 := cctext_any w g _ b n hc (by show n ≤ (l.drop k).length; rw [List.length_drop]; omega)
  rw [drop_ext l k n h, drop_rest] at h2
  exact h2
theorem cut_number (l : List UInt8) (k n m : Nat) (N : Int) (hN : N = (n : Int)) (hm : m = k + n) (h : m ≤ l.length) (w : World) (g : Nat) (b : Bool) (hc : CutIs w g (strF (l.drop k)) b) :
    Calls Tryd.prog 32 #[.pointer (some ⟨g, 0, none⟩), .int .i64 N] w fun e w' => e = .returned (.int .i64 (numberA (fld l k m)).1) ∧ CutIs w' g (strF (l.drop m)) (b || decide ((numberA (fld l k m)).2 ≠ 0)) ∧ Step g [g] [] w w' := by
  subst hm hN
  have h2 := ccnumber_any w g _ b n hc (by show n ≤ (l.drop k).length; rw [List.length_drop]; omega)
  rw [drop_ext l k n h, drop_rest] at h2
  exact h2
/-- Between two fields: the cutter at a1, the head as far as it is told at a2, the answer's variable ahead of both. -/
structure Dec (w wk : World) (a1 a2 : Nat) (s : ByteArray) (b : Bool) (cs : Array Value) : Prop where
  cut : CutIs wk a1 s b
  head : Blk wk a2 25 cs
  zero : Blk wk w.heap.size 25 zeroCs
  below : Below w.heap.size w wk
  lo : w.heap.size < a1
  hi : a1 < a2
set_option maxRecDepth 100000 in
theorem Dec.step {w wk w' : World} {a1 a2 : Nat} {s s' : ByteArray} {b b' : Bool} {cs : Array Value} (D : Dec w wk a1 a2 s b cs) (hc : CutIs w' a1 s' b') (hs : Step a1 [a1] [] wk w') : Dec w w' a1 a2 s' b' cs :=
  ⟨hc, hs.blk D.head (by have := D.hi; simp; omega) List.not_mem_nil, hs.blk D.zero (by have := D.lo; simp; omega) List.not_mem_nil, D.below.trans (hs.below.mono (Nat.le_of_lt D.lo)), D.lo, D.hi⟩
theorem blk_setO {w : World} {g a : Nat} {t : TypeId} {cs : Array Value} (h : Blk w g t cs) (hne : g ≠ a) (i : Nat) (v : Value) : Blk (w.setCell ⟨a, i, none⟩ v) g t cs :=
  (Below.heap_setCell _ ⟨a, i, none⟩ _ _ hne).trans h
theorem Dec.set {w wk : World} {a1 a2 : Nat} {s : ByteArray} {b : Bool} {cs : Array Value} (D : Dec w wk a1 a2 s b cs) (i : Nat) (v : Value) : Dec w (wk.setCell ⟨a2, i, none⟩ v) a1 a2 s b (cs.setIfInBounds i v) :=
  ⟨⟨blk_setO D.cut.1 (by have := D.hi; omega) i v, D.cut.2⟩, blk_set D.head i v, blk_setO D.zero (by have := D.lo; have := D.hi; omega) i v, D.below.setCell (p := ⟨a2, i, none⟩) (by have := D.lo; have := D.hi; show _ ≤ a2; omega) v, D.lo, D.hi⟩
theorem Dec.c0 {w wk : World} {a1 a2 : Nat} {s : ByteArray} {b : Bool} {cs : Array Value} (D : Dec w wk a1 a2 s b cs) (i : Nat) : wk.cell? ⟨a2, i, none⟩ = cs[i]? := blk_cell D.head i
theorem Dec.f0 {w wk : World} {a1 a2 : Nat} {s : ByteArray} {b : Bool} {cs : Array Value} (D : Dec w wk a1 a2 s b cs) (i : Nat) : wk.frozen? ⟨a2, i, none⟩ = false := blk_frozen D.head i
set_option maxHeartbeats 3200000 in
set_option maxRecDepth 100000 in
theorem cdec_no (w : World) (t : ByteArray) (hs : t.size ≤ 140737488355328) (hno : t.size ≠ 512) : Calls Tryd.prog 12 #[.string t] w fun e w' => e = .returned (.tuple #[headV zeroHead, .int .i64 160]) ∧ Below w.heap.size w w' := by
  have C1 := Lib.hid fun wx : World => csum15_any wx t hs
  rw [show sumA t.data.toList = (0, 2) from by unfold sumA; rw [if_pos (show t.data.toList.length ≠ 512 from hno)]] at C1
  have HK := Lib.hid (blk_new w 25 zeroCs)
  have HB : Hid (Below w.heap.size w (w.alloc (.cells #[.string ⟨#[]⟩, .int .i64 0, .int .u8 0, .int .i64 0, .int .i64 0, .string ⟨#[]⟩, .string ⟨#[]⟩, .string ⟨#[]⟩, .int .i64 0, .int .i64 0] 25))) := Lib.hid ((Below.refl _ _).alloc (Nat.le_refl _) _)
  clear hno
  go_enter Tryd.func12, Tryd.ntmps12
  go_wp2_with fail
  refine (C1.out _).mono ?_
  rintro e w2 ⟨rfl, hb2⟩
  have HK2 : Hid (Blk w2 w.heap.size 25 zeroCs) := Lib.hid ((step_of_below hb2).blk HK.out List.not_mem_nil List.not_mem_nil)
  have HB2 := Lib.hid (HB.out.trans (hb2.mono HB.out.size))
  clear hb2 HK HB
  go_upto_region 3 with fail
  apply wp_region_lit
  refine wpList_build rfl 25 #[] rfl (by kernel_rfl) ?_
  refine wpList_store_row rfl 25 (.tmp 2) (.tmp 21) rfl w.heap.size zeroCs rfl (by kernel_rfl) 25 zeroCs HK2.out (by kernel_rfl) rfl (by kernel_rfl) ?_
  rw [setRow_self _ _ _ _ _ HK2.out]
  go_wp2_with fail
  exact bodyPost_ret (ret_headC _ w.heap.size zeroHead 160 HK2.out _ rfl rfl) rfl ⟨rfl, HB2.out⟩
end Go.Proofs.YtiihkjloenlfmaaDoor
