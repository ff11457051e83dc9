/- Whole arrays by value, loaded and stored in one step, whichever block they lie in. -/
import Derived.Test.YtgnlpbnodijkgaaS
import Derived.Deep.WholeRow
import Derived.Laws.Rows
import Derived.Laws.ResultCell
namespace Go.Proofs.Ytgnlpbnodijkgaa
open Go.RowKit
variable {P : Program}

theorem wp_load_row {o : Oper} {a : Act} {w : World} {next : Act → World → Prop} {Q : Exit → Act → World → Prop} {ty t : TypeId} {p : Operand} {g n : Nat} {e : TypeId} {cs : Array Value} {fr : Nat × Nat}
    (hop : o.op = .load ty p) (hp : a.eval p = .pointer (some ⟨g, 0, none⟩)) (hg : w.heap[g]? = some (.cells cs t fr)) (hu : P.underlying ty = some (.array n e)) (hi : (P.info? ty).map (·.size) = some cs.size)
    (hn : next (a.put o.dst (.agg cs)) w) : Oper.wp P o a w next Q := by
  unfold Oper.wp
  have h : (execOp a.eval o).run P w = .ok (.value (.agg cs)) w := by
    have := run_loadVar_row (P := P) w g t ty cs fr _ hg hu rfl hi
    simp only [execOp, hop, hp, Instr.loadAt, Instr.sureAddr, Sem.run_bind, Sem.run_pure, Result.andThen, this]
  rw [h]
  exact hn

theorem wp_store_row {o : Oper} {a : Act} {w : World} {next : Act → World → Prop} {Q : Exit → Act → World → Prop} {ty t : TypeId} {p x : Operand} {g : Nat} {old cs : Array Value}
    (hop : o.op = .store ty p x) (hp : a.eval p = .pointer (some ⟨g, 0, none⟩)) (hx : a.eval x = .agg cs) (hg : w.heap[g]? = some (.cells old t (0, 0))) (hi : (P.info? ty).map (·.size) = some cs.size) (ho : old.size = cs.size) (h1 : cs.all (·.oneCell') = true)
    (hn : next (a.put o.dst undef) (w.setRow g cs)) : Oper.wp P o a w next Q := by
  unfold Oper.wp
  have h : (execOp a.eval o).run P w = .ok .skip (w.setRow g cs) := by
    have := run_storeVar_row (P := P) w g t ty old cs hg hi ho h1
    simp only [execOp, hop, hp, hx, Instr.storeAt, Instr.sureAddr, Sem.run_bind, Sem.run_pure, Result.andThen, this]
  rw [h]
  exact hn

theorem results_cell {fn : Func} {p : Tmp} {ty t : TypeId} {tmps : Array Value} {w : World} {g n : Nat} {e : TypeId} {cs : Array Value} {fr : Nat × Nat} (h : fn.results = #[.cell p ty])
    (hp : tmps.getD p undef = .pointer (some ⟨g, 0, none⟩)) (hg : w.heap[g]? = some (.cells cs t fr)) (hu : P.underlying ty = some (.array n e)) (hi : (P.info? ty).map (·.size) = some cs.size) :
    (results fn tmps).run P w = .ok (.agg cs) w := by
  have := run_loadVar_row (P := P) w g t ty cs fr _ hg hu rfl hi
  rw [Array.getD_eq_getD_getElem?] at hp
  simp only [results, h]
  simp [hp, asAddr, this]

theorem store_cells_row {w : World} {t ty : TypeId} {g : Nat} {old cs : Array Value} (hg : w.heap[g]? = some (.cells old t (0, 0))) (hi : (P.info? ty).map (·.size) = some cs.size) (ho : old.size = cs.size) (h1 : cs.all (·.oneCell') = true) :
    (storeCells ⟨g, 0, none⟩ cs.toList 0).run P w = .ok () (w.setRow g cs) := by
  have := run_storeVar_row (P := P) w g t ty old cs hg hi ho h1
  cases hq : P.info? ty with
  | none => simp [hq] at hi
  | some i =>
    have hs : cs.size = i.size := by simp [hq] at hi; omega
    simpa [storeVar, sizeOf, typeInfo, hq, Value.cells, hs] using this

theorem below_setRow {B : Nat} {w w' : World} (h : Below B w w') {g : Nat} (hg : B ≤ g) (cs : Array Value) : Below B w (w'.setRow g cs) :=
  ⟨h.os, h.tape, h.output, by rw [size_setRow]; exact h.size, fun k hk => by rw [setRow_other _ _ _ _ (by omega)]; exact h.block k hk⟩
theorem heap_alloc_past (w : World) (o : Obj) (k : Nat) (h : k < w.heap.size) : (w.alloc o).heap[k]? = w.heap[k]? := by
  show (w.heap.push o)[k]? = _
  rw [Array.getElem?_push, if_neg (by omega)]

end Go.Proofs.Ytgnlpbnodijkgaa
