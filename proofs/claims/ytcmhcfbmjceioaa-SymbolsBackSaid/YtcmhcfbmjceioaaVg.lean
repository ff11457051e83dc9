/- Bytes in a slice that is the call's own: read, one moved to the front. Conditions: at most a million bytes. -/
import Derived.Test.YtcmhcfbmjceioaaVb
import Derived.Laws.IdiomCopy
import Derived.Lib.BytesEntry
namespace Go.Proofs.Ytcmhcfbmjceioaa
open Go.RowKit

/-- The bytes at a block's start, that may be written. -/
def LIn (w : World) (g : Nat) (l : List UInt8) : Prop := ∀ i, i < l.length → w.cell? ⟨g, i, none⟩ = some (bv (l.getD i 0)) ∧ w.frozen? ⟨g, i, none⟩ = false
theorem LIn.drew {w : World} {g : Nat} {l : List UInt8} (h : LIn w g l) : LIn w.drew g l := h
theorem LIn.below {w w' : World} {B g : Nat} {l : List UInt8} (h : LIn w g l) (hb : Below B w w') (hg : g < B) : LIn w' g l := by
  intro i hi
  refine ⟨(hb.cell (p := ⟨g, i, none⟩) hg).trans (h i hi).1, ?_⟩
  have := (h i hi).2
  unfold World.frozen? at this ⊢
  rw [show w'.heap[(⟨g, i, none⟩ : Addr).block]? = w.heap[g]? from hb.block g hg]
  exact this
theorem turnL_zero (l : List UInt8) (p : Nat) : (turnL l p).getD 0 0 = l.getD p 0 := rfl
theorem turnL_low (l : List UInt8) (p i : Nat) (h : i < p) (hp : p < l.length) : (turnL l p).getD (i + 1) 0 = l.getD i 0 := by
  unfold turnL
  rw [List.getD_cons_succ, List.getD_eq_getElem?_getD, List.getElem?_append_left (by rw [List.length_take]; omega), List.getElem?_take, if_pos h, ← List.getD_eq_getElem?_getD]
theorem turnL_high (l : List UInt8) (p i : Nat) (h : p ≤ i) (hi : i + 1 < l.length) : (turnL l p).getD (i + 1) 0 = l.getD (i + 1) 0 := by
  have hl : (l.take p).length = p := by rw [List.length_take]; omega
  unfold turnL
  rw [List.getD_cons_succ, List.getD_eq_getElem?_getD, List.getElem?_append_right (by omega), List.getElem?_drop, hl, show p + 1 + (i - p) = i + 1 by omega, ← List.getD_eq_getElem?_getD]

theorem step_setCells {B g : Nat} (hB : B ≤ g) {w : World} : ∀ (vs : List Value) (o : Nat) (w' : World), Step B [g] [] w w' → Step B [g] [] w (w'.setCells g o vs)
  | [], _, _, h => h
  | v :: r, o, w', h => by
    rw [World.setCells]
    exact step_setCells hB r (o + 1) _ (h.set (p := ⟨g, o, none⟩) hB (List.mem_singleton.2 rfl) v)
theorem cell_lit (w : World) (g i : Nat) (j : Nat) : w.cell? ((⟨g, i, none⟩ : Addr).add j) = w.cell? ⟨g, i + j, none⟩ := by
  congr 1
  unfold Addr.add
  split <;> simp_all

theorem wpList_copy_run {P : Program} {w w' : World} {ops : Array Oper} {rest : List Oper} {o : Oper} {a : Act} {Q : Exit → Act → World → Prop} (hgd : o.guard = none) (d s : Operand) (dT sT : TypeId)
    (ho : o.op = .call { callee := .builtin .copy, args := #[d, s], argTypes := #[dT, sT] }) (dv sv : Value) (k : Nat) (hd : a.eval d = dv) (hs : a.eval s = sv) (hrun : (Builtin.copy_ #[dT, sT] o.type #[dv, sv]).run P w = .ok (goInt k) w')
    (h : wpList P ops Q rest (a.put o.dst (goInt k)) w') : wpList P ops Q (o :: rest) a w := by
  refine wpList_plain hgd fun K hK => ?_
  unfold Oper.wp
  simp [execOp, ho, resolve, invoke, builtin, hd, hs, hrun, Result.andThen]
  exact hK _ _ h

/-- What moving to the front does: the bytes lie turned, nothing else has changed. -/
def MtfPost (B : Nat) (w : World) (g : Nat) (l : List UInt8) (p : Nat) (e : Ending) (w' : World) : Prop := e = .returned (.tuple #[]) ∧ LIn w' g (turnL l p) ∧ Step B [g] [] w w'

set_option maxHeartbeats 1600000 in
set_option maxRecDepth 100000 in
theorem mtf_any (B : Nat) (w : World) (g n c : Nat) (l : List UInt8) (p : Nat) (hB : B ≤ g) (hL : LIn w g l) (hn : l.length = n) (hnc : n ≤ c) (hp : p < n) (hn6 : n ≤ 1000000) :
    Calls Try.prog 28 #[.slice (some ⟨g, 0, none⟩) n c, .int .i64 p] w (MtfPost B w g l p) := by
  obtain ⟨i5, h5, hz0, hz1, hz2⟩ := info_parts Try.info5
  have hcs : ((l.take p).map bv).length = p := by rw [List.length_map, List.length_take]; omega
  have hget : ∀ j v, ((l.take p).map bv)[j]? = some v → w.drew.cell? ((⟨g, 0, none⟩ : Addr).add j) = some v := by
    intro j v hv
    have hj : j < p := by have := (List.getElem?_eq_some_iff.1 hv).1; omega
    rw [cell_lit, Nat.zero_add]
    show w.cell? _ = _
    rw [(hL j (by omega)).1, ← hv, List.getElem?_map, List.getElem?_take, if_pos hj, List.getElem?_eq_getElem (by omega), List.getD_eq_getElem?_getD, List.getElem?_eq_getElem (by omega)]
    rfl
  have hone : ∀ v ∈ (l.take p).map bv, v.oneCell' = true := by
    intro v hv
    obtain ⟨x, _, rfl⟩ := List.mem_map.1 hv
    rfl
  have hrun : ∀ ty, (Builtin.copy_ #[56, 56] ty #[.slice (if c = 1 then some ⟨g, 0, none⟩ else some ⟨g, 1, none⟩) (n - 1) (c - 1), .slice (some ⟨g, 0, none⟩) p c]).run Try.prog w.drew = .ok (goInt p) (w.drew.setCells g 1 ((l.take p).map bv)) := by
    intro ty
    have h1 : (Try.prog.info? 5).map (·.size) = some 1 := by rw [h5]; exact congrArg some hz1
    by_cases h0 : p = 0
    · subst h0
      have := fun d => run_copy_none (P := Try.prog) w.drew 56 56 ty 5 d (some ⟨g, 0, none⟩) (n - 1) (c - 1) 0 c Try.underlying56 h1 (Nat.zero_min _)
      exact this _
    · rw [if_neg (by omega)]
      have := run_copy_cells (P := Try.prog) w.drew 56 56 ty 5 g 1 (n - 1) (c - 1) ⟨g, 0, none⟩ p c ((l.take p).map bv) Try.underlying56 h1 (by rw [hcs]; exact (Nat.min_eq_left (by omega)).symm) hget
        (fun j hj => by
          rw [hcs] at hj
          show (w.cell? _).isSome = true
          rw [(hL (1 + j) (by omega)).1]
          rfl) (fun j hj => by rw [hcs] at hj; exact (hL (1 + j) (by omega)).2) hone
      rw [hcs] at this
      exact this
  have hcp := (hL p (by omega)).1
  obtain ⟨b, hb⟩ : ∃ b, b = (l.getD p 0).toNat := ⟨_, rfl⟩
  have hbv : bv (l.getD p 0) = .int .u8 b := by rw [hb]; rfl
  rw [hbv] at hcp
  have hpI : (0 : Int) ≤ (p : Int) := by omega
  have hpJ : (p : Int) < (n : Int) := by omega
  have hpK : (p : Int) ≤ (c : Int) := by omega
  have hnI : (1 : Int) ≤ (n : Int) := by omega
  have hnJ : (0 : Int) < (n : Int) := by omega
  have hnK : (n : Int) ≤ (c : Int) := by omega
  obtain ⟨w2, hw2⟩ : ∃ w2, w2 = w.drew.setCells g 1 ((l.take p).map bv) := ⟨_, rfl⟩
  have hS : Step B [g] [] w w2 := by
    rw [hw2]
    exact step_setCells hB _ _ _ (Step.refl B [g] [] w).drew
  have hin : ∀ j, j < p → w2.cell? ⟨g, 1 + j, none⟩ = some (bv (l.getD j 0)) := by
    intro j hj
    rw [hw2, World.cell?_setCells_in g ((l.take p).map bv) 1 w.drew (fun i hi => by
      rw [hcs] at hi
      show (w.cell? _).isSome = true
      rw [(hL (1 + i) (by omega)).1]
      rfl) j (by rw [hcs]; exact hj)]
    rw [List.getElem_map, List.getElem_take, List.getD_eq_getElem?_getD, List.getElem?_eq_getElem (by omega)]
    rfl
  have hout : ∀ j, (j = 0 ∨ p < j) → w2.cell? ⟨g, j, none⟩ = w.cell? ⟨g, j, none⟩ := by
    intro j hj
    rw [hw2, World.cell?_setCells_out g _ 1 w.drew ⟨g, j, none⟩ (fun _ _ => by rw [hcs]; show j < 1 ∨ 1 + p ≤ j; omega)]
    rfl
  have hfr : ∀ x, w2.frozen? x = w.frozen? x := by
    intro x
    rw [hw2, World.frozen?_setCells]
    rfl
  rw [← hw2] at hrun
  have h0 : w2.cell? ⟨g, 0, none⟩ = some (bv (l.getD 0 0)) := by rw [hout 0 (.inl rfl), (hL 0 (by omega)).1]
  have f0 : w2.frozen? ⟨g, 0, none⟩ = false := by rw [hfr]; exact (hL 0 (by omega)).2
  have hend : MtfPost B w g l p (.returned (.tuple #[])) (w2.setCell ⟨g, 0, none⟩ (.int .u8 b)) := by
    refine ⟨rfl, ?_, hS.set (p := ⟨g, 0, none⟩) hB (List.mem_singleton.2 rfl) _⟩
    intro i hi
    rw [turnL_length l p (by omega)] at hi
    refine ⟨?_, by rw [World.frozen?_setCell, hfr]; exact (hL i hi).2⟩
    match i, hi with
    | 0, _ => rw [turnL_zero, World.cell?_setCell_same _ _ _ h0, hbv]
    | i + 1, hi =>
      rw [World.cell?_setCell_other _ _ _ _ (by simp)]
      by_cases e : i < p
      · rw [turnL_low l p i e (by omega), Nat.add_comm]
        exact hin i e
      · rw [turnL_high l p i (by omega) hi, hout (i + 1) (.inr (by omega))]
        exact (hL (i + 1) hi).1
  have HEND := Lib.hid hend
  have HRUN := Lib.hid hrun
  clear hend hrun hw2 hin hout hfr hget hone hbv hb hcs hS hL
  generalize MtfPost B w g l p = PO at *
  go_enter Try.func28, Try.ntmps28
  go_upto_region 1 with fail
  go_still_tail 5, (by kernel_rfl)
  change wpList _ _ _ _ _ w.drew
  generalize (if c = 1 then some (⟨g, 0, none⟩ : Addr) else some ⟨g, 1, none⟩) = dA at *
  refine wpList_copy_run rfl _ _ 56 56 rfl _ _ p rfl rfl (HRUN.out _) ?_
  go_wp2_with fail
  (try simp only [Exit.inBlock, Exit.then])
  refine bodyPost_ret (results_none rfl _ _ _) rfl ?_
  exact HEND.out

end Go.Proofs.Ytcmhcfbmjceioaa
