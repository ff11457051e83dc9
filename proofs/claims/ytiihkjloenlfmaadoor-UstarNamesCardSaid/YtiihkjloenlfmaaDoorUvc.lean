/- Ustar's code: a cutter: its three methods. No conditions. -/
import Derived.Test.YtiihkjloenlfmaaDoorUsc
import Derived.Test.YtiihkjloenlfmaaDoorFwf
import Derived.Test.YtiihkjloenlfmaaDoorFwh
namespace Go.Proofs.YtiihkjloenlfmaaDoor
open Go.RowKit

/-- A cutter: what is left, and whether one was no number. -/
def CutIs (w : World) (g : Nat) (s : ByteArray) (b : Bool) : Prop := Blk w g 60 #[.string s, .bool b] ∧ s.size ≤ 140737488355328
set_option maxHeartbeats 1600000 in
set_option maxRecDepth 100000 in
theorem cpiece_any (w : World) (g : Nat) (s : ByteArray) (b : Bool) (n : Nat) (h : CutIs w g s b) (hn : n ≤ s.size) :
    Calls Tryd.prog 30 #[.pointer (some ⟨g, 0, none⟩), .int .i64 n] w fun e w' => e = .returned (.string (s.extract 0 n)) ∧ CutIs w' g (s.extract n s.size) b ∧ Step g [g] [] w w' := by
  obtain ⟨hr, hl⟩ := h
  have c0 : w.cell? ⟨g, 0, none⟩ = some (.string s) := blk_cell hr 0
  have f0 : w.frozen? ⟨g, 0, none⟩ = false := blk_frozen hr 0
  have hds : (s.extract n s.size).size ≤ 140737488355328 := by rw [ByteArray.size_extract]; omega
  have hb := blk_set hr 0 (.string (s.extract n s.size))
  have HPS : Hid (CutIs (w.setCell ⟨g, 0, none⟩ (.string (s.extract n s.size))) g (s.extract n s.size) b ∧ Step g [g] [] w (w.setCell ⟨g, 0, none⟩ (.string (s.extract n s.size)))) := Lib.hid ⟨⟨hb, hds⟩, (Step.refl g [g] [] w).set (p := ⟨g, 0, none⟩) (Nat.le_refl _) (by simp) _⟩
  have hnz : (n : Int) ≤ s.size := by omega
  clear hr hds hb
  go_enter Tryd.func30, Tryd.ntmps30
  go_wp2_with fail
  go_ret
  exact ⟨rfl, HPS.out.1, HPS.out.2⟩
set_option maxHeartbeats 1600000 in
set_option maxRecDepth 100000 in
theorem cctext_any (w : World) (g : Nat) (s : ByteArray) (b : Bool) (n : Nat) (h : CutIs w g s b) (hn : n ≤ s.size) :
    Calls Tryd.prog 31 #[.pointer (some ⟨g, 0, none⟩), .int .i64 n] w fun e w' => e = .returned (.string (strF (cutZ (s.extract 0 n).data.toList))) ∧ CutIs w' g (s.extract n s.size) b ∧ Step g [g] [] w w' := by
  have C1 := Lib.hid (cpiece_any w g s b n h hn)
  have C2 := Lib.hid fun wx : World => ccut_any wx (s.extract 0 n) (by rw [ByteArray.size_extract]; have := h.2; omega)
  generalize s.extract 0 n = P at *
  generalize s.extract n s.size = R at *
  clear h hn
  go_enter Tryd.func31, Tryd.ntmps31
  go_wp2_with fail
  refine C1.out.mono ?_
  rintro e w1 ⟨rfl, hc1, hs1⟩
  have HC := Lib.hid hc1
  have HS := Lib.hid hs1
  clear hc1 hs1
  go_wp2_with fail
  refine (C2.out _).mono ?_
  rintro e w2 ⟨rfl, hb2⟩
  have HC2 : Hid (CutIs w2 g R b) := Lib.hid ⟨(step_of_below hb2).blk HC.out.1 List.not_mem_nil List.not_mem_nil, HC.out.2⟩
  have HS2 : Hid (Step g [g] [] w w2) := Lib.hid (HS.out.after (step_of_below hb2) (Nat.le_of_lt (blk_lt HC.out.1)) (by simp) (by simp))
  clear hb2
  go_wp2_with fail
  go_ret
  exact ⟨rfl, HC2.out, HS2.out⟩
set_option maxHeartbeats 1600000 in
set_option maxRecDepth 100000 in
theorem ccnumber_any (w : World) (g : Nat) (s : ByteArray) (b : Bool) (n : Nat) (h : CutIs w g s b) (hn : n ≤ s.size) :
    Calls Tryd.prog 32 #[.pointer (some ⟨g, 0, none⟩), .int .i64 n] w fun e w' => e = .returned (.int .i64 (numberA (s.extract 0 n).data.toList).1) ∧ CutIs w' g (s.extract n s.size) (b || decide ((numberA (s.extract 0 n).data.toList).2 ≠ 0)) ∧ Step g [g] [] w w' := by
  have C1 := Lib.hid (cpiece_any w g s b n h hn)
  have C2 := Lib.hid fun wx : World => cnumber_any wx (s.extract 0 n) (by rw [ByteArray.size_extract]; have := h.2; omega)
  generalize s.extract 0 n = P at *
  generalize s.extract n s.size = R at *
  generalize (numberA P.data.toList).1 = V at *
  generalize (numberA P.data.toList).2 = E at *
  clear h hn
  go_enter Tryd.func32, Tryd.ntmps32
  go_wp2_with fail
  refine C1.out.mono ?_
  rintro e w1 ⟨rfl, hc1, hs1⟩
  have HC := Lib.hid hc1
  have HS := Lib.hid hs1
  clear hc1 hs1
  go_wp2_with fail
  refine (C2.out _).mono ?_
  rintro e w2 ⟨rfl, hb2⟩
  have hk2 := (step_of_below hb2).blk HC.out.1 List.not_mem_nil List.not_mem_nil
  have HS2 : Hid (Step g [g] [] w w2) := Lib.hid (HS.out.after (step_of_below hb2) (Nat.le_of_lt (blk_lt HC.out.1)) (by simp) (by simp))
  have c0 : w2.cell? ⟨g, 1, none⟩ = some (.bool b) := blk_cell hk2 1
  have f0 : w2.frozen? ⟨g, 1, none⟩ = false := blk_frozen hk2 1
  have HEND : Hid (∀ x : Bool, CutIs (w2.setCell ⟨g, 1, none⟩ (.bool x)) g R x ∧ Step g [g] [] w (w2.setCell ⟨g, 1, none⟩ (.bool x))) := Lib.hid fun x => ⟨⟨blk_set hk2 1 (.bool x), HC.out.2⟩, HS2.out.set (p := ⟨g, 1, none⟩) (Nat.le_refl _) (by simp) _⟩
  clear hb2 hk2
  by_cases e1 : b = true
  · subst e1
    go_wp2_with fail
    go_ret
    exact ⟨rfl, (HEND.out true).1, (HEND.out true).2⟩
  · have e1 : b = false := by cases b <;> simp_all
    subst e1
    by_cases e2 : E = 0
    · have d2 : ((E : Int) != 0) = false := by rw [e2]; rfl
      have HX : Hid ((false || decide (E ≠ 0)) = false) := Lib.hid (decide_eq_false (fun h : E ≠ 0 => h e2))
      clear e2
      go_wp2_with fail
      go_ret
      rw [HX.out]
      exact ⟨rfl, (HEND.out false).1, (HEND.out false).2⟩
    · have d2 : ((E : Int) != 0) = true := bne_iff_ne.2 (by omega)
      have HX : Hid ((false || decide (E ≠ 0)) = true) := Lib.hid (decide_eq_true e2)
      clear e2
      go_wp2_with fail
      go_ret
      rw [HX.out]
      exact ⟨rfl, (HEND.out true).1, (HEND.out true).2⟩
end Go.Proofs.YtiihkjloenlfmaaDoor
