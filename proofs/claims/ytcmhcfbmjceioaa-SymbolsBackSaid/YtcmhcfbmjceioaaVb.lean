/- One bit of sixteen; arrays of sixteen rows. No conditions. -/
import Derived.Test.YtcmhcfbmjceioaaVa
import Derived.Test.YtcmhcfbmjceioaaAw
import Derived.Test.YtcmhcfbmjceioaaI
import Derived.Deep.LoopGhost
import Derived.Deep.RegionWith
namespace Go.Proofs.Ytcmhcfbmjceioaa
open Go.RowKit

/-- An array of sixteen rows. -/
def arrG (f : Nat → Nat) : Array Value := (Array.range 16).map fun i => .int .u64 (f i)
theorem arrG_size (f : Nat → Nat) : (arrG f).size = 16 := by simp [arrG]
theorem arrG_zero : arrG (fun _ => 0) = Array.replicate 16 (.int .u64 0) := by
  apply Array.ext
  · simp [arrG]
  · intro i h1 h2
    simp [arrG]
theorem zeroRows : (∀ w, (zeroValue 52).run Try.prog w = .ok (.agg (arrG fun _ => 0)) w) ∧ (Try.prog.info? 52).map (·.size) = some 16 := by
  rw [arrG_zero]
  exact zero_of_info (by kernel_rfl)
theorem arrG_set (f : Nat → Nat) (b x : Nat) : (arrG f).setIfInBounds b (.int .u64 x) = arrG fun i => if i = b then x else f i := by
  apply Array.ext
  · simp [arrG]
  · intro i h1 h2
    rw [Array.getElem_setIfInBounds (by simpa [arrG] using h2)]
    by_cases e : b = i
    · subst e
      simp [arrG]
    · rw [if_neg e]
      have e2 : ¬ i = b := fun h => e h.symm
      simp [arrG, e2]
theorem arrG_one (f : Nat → Nat) : (arrG f).all (·.oneCell') = true := by
  rw [Array.all_eq_true]
  intro i h
  simp [arrG, Value.oneCell']
theorem arrG_get (f : Nat → Nat) (i : Nat) (h : i < 16) : (arrG f)[i]? = some (.int .u64 (f i : Nat)) := by
  simp [arrG, h]
/-- A whole array is loaded at a region's next operation. -/
theorem wpList_load_row {P : Program} {ops : Array Oper} {rest : List Oper} {o : Oper} {a : Act} {w : World} {Q : Exit → Act → World → Prop} {ty t : TypeId} {p : Operand} {g n : Nat} {e : TypeId} {cs : Array Value} {fr : Nat × Nat}
    (hw : Region.wanted o (yielded ops a.tmps) = true) (hop : o.op = .load ty p) (hp : a.eval p = .pointer (some ⟨g, 0, none⟩)) (hg : w.heap[g]? = some (.cells cs t fr)) (hu : P.underlying ty = some (.array n e)) (hi : (P.info? ty).map (·.size) = some cs.size)
    (hn : wpList P ops Q rest (a.put o.dst (.agg cs)) w) : wpList P ops Q (o :: rest) a w := by
  unfold wpList
  rw [if_pos hw]
  exact .inl (wp_load_row hop hp hg hu hi hn)
theorem wpList_move_step {P : Program} {ops : Array Oper} {rest : List Oper} {o : Oper} {a : Act} {w : World} {Q : Exit → Act → World → Prop} {x : Operand}
    (hw : Region.wanted o (yielded ops a.tmps) = true) (hop : o.op = .move x) (hn : wpList P ops Q rest (a.put o.dst (a.eval x)) w) : wpList P ops Q (o :: rest) a w := by
  unfold wpList
  rw [if_pos hw]
  left
  unfold Oper.wp
  simp [execOp, hop]
  exact hn
theorem info_u64 : ∃ i, Try.prog.info? 50 = some i ∧ i.size = 1 := by
  have hs : (Try.prog.info? 50).map (·.size) = some 1 := by kernel_rfl
  cases hq : Try.prog.info? 50 with
  | none => simp [hq] at hs
  | some i => exact ⟨i, rfl, by simpa [hq] using hs⟩
theorem run_index_rows (w : World) (cs : Array Value) (q c : Nat) (h : q < 16) (hc : cs[q]? = some (.int .u64 c)) : (Instr.index 52 (.agg cs) (.int .i64 q)).run Try.prog w = .ok (.int .u64 c) w := by
  obtain ⟨i3, h3, hz1⟩ := info_u64
  have h1 : (0 : Int) ≤ (q : Int) := by omega
  have h4 : ¬ 16 ≤ q := by omega
  unfold Instr.index
  simp [run_underlying Try.underlying52, go_sem, h1, sizeOf, typeInfo, h3, hz1, part, hc, h4]

theorem bit_any (w : World) (k : Nat) (hk : k < 16) : Calls Try.prog 40 #[.int .i64 k] w fun e w' => e = .returned (.int .u64 ((2 ^ (15 - k) : Nat) : Int)) ∧ w = w' := by
  have hi : ∃ i : Nat, i < 16 ∧ k = i := ⟨k, hk, rfl⟩
  have h16 : k = 0 ∨ k = 1 ∨ k = 2 ∨ k = 3 ∨ k = 4 ∨ k = 5 ∨ k = 6 ∨ k = 7 ∨ k = 8 ∨ k = 9 ∨ k = 10 ∨ k = 11 ∨ k = 12 ∨ k = 13 ∨ k = 14 ∨ k = 15 := by omega
  clear hi
  rcases h16 with rfl | rfl | rfl | rfl | rfl | rfl | rfl | rfl | rfl | rfl | rfl | rfl | rfl | rfl | rfl | rfl <;> (go_enter Try.func40, Try.ntmps40; go_wp2_with fail; go_ret; exact ⟨rfl, rfl⟩)

end Go.Proofs.Ytcmhcfbmjceioaa
