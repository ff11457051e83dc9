/- Plans as the reading's own reach has them: no reckoning of their bulk wraps. For the rows of groups in the first form. Written in round 19. -/
import Derived.Test.YtmgmgmbpldboiaaZ16
import Derived.ChangeMaps5
import Derived.SizedLaws
import Derived.JoinedCond
import Derived.Deep.Slices
import Derived.Deep.DeepHandedRow
import Derived.Lib.SmallJoins
namespace Go.Proofs.Ytmgmgmbpldboiaa
open Go.RowKit

set_option maxRecDepth 100000 in
theorem weights_allG {H : Type} {e : TypeId} {x : Nat} {d : DataW H} : ∀ {l : List (DataW H)}, d ∈ l → x ∈ d.weights Try.prog e → x ∈ DataW.weightsAll Try.prog e l
  | [], h, _ => by simp at h
  | y :: l, h, hx => by
    simp only [DataW.weightsAll, List.mem_append]
    rcases List.mem_cons.1 h with rfl | h
    · exact .inl hx
    · exact .inr (weights_allG h hx)
set_option maxRecDepth 100000 in
theorem bytesInt : Try.prog.bytesOf 3 = 8 := by kernel_rfl
set_option maxRecDepth 100000 in
theorem bytesInts : Try.prog.bytesOf 30 = 24 := by kernel_rfl
set_option maxRecDepth 100000 in
open Go.ChangeShapes Go.WideShapes Go.ChangeAt Go.Deep Go.Joins in
/-- A cell that is read as a slice of numbers. -/
theorem open_cell_sized {H : Type} {enc : TypeId × Value → H} {W : World} {v : Value} {fuel : Nat} {x : DataW H × List MemPlace}
    (h : DataW.trod enc Try.prog W 0 (fun _ => true) true fuel 30 [v] = some x) (hw : ∀ q ∈ x.1.weights Try.prog 30, q ≤ reachBytes) : ∃ A n c L, v = .slice A n c ∧ ZIn W A n L ∧ n ≤ c ∧ n ≤ maxLen ∧ n ≤ 140737488355328 := by
  obtain ⟨A, n, c, hv⟩ := slice_form Try.underlying30 h
  obtain rfl : v = .slice A n c := (List.cons.inj hv).1
  obtain ⟨L, h1, h2, h3⟩ := open_zs (d := x.1) (ps := x.2) ⟨fuel, by simpa [Value.cells] using h⟩
  refine ⟨A, n, c, L, rfl, h1, h2, h3, ?_⟩
  have hr := reachBytes_lt
  rcases open_slice1 Try.underlying30 (by kernel_rfl) h with ⟨hc, hx⟩ | ⟨a, len, cap, m, k, V, D, Pl, hcs, _, hl, hm, hmm, hx, hV⟩
  · obtain ⟨rfl, rfl, rfl⟩ := Value.slice.inj (List.cons.inj hc).1
    exact Nat.zero_le _
  · obtain ⟨rfl, rfl, rfl⟩ := Value.slice.inj (List.cons.inj hcs).1
    have hd : x.1 = .slice ((List.range n).map D) ((List.range (m - n)).map fun j => D (n + j)) := congrArg Prod.fst hx
    have h4 := hw ((((List.range n).map D).length + ((List.range (m - n)).map fun j => D (n + j)).length) * Try.prog.bytesOf 3) (by
      rw [hd]
      simp only [DataW.weights, Try.underlying30, List.mem_cons, true_or])
    rw [bytesInt, List.length_map, List.length_range] at h4
    omega
set_option maxRecDepth 100000 in
open Go.ChangeShapes Go.WideShapes Go.ChangeAt Go.Deep Go.Joins in
/-- A cell that is read as a slice of slices of numbers. -/
theorem open_tab_sized {H : Type} {enc : TypeId × Value → H} {W : World} {v : Value} {fuel : Nat} {x : DataW H × List MemPlace}
    (h : DataW.trod enc Try.prog W 0 (fun _ => true) true fuel 29 [v] = some x) (hw : ∀ q ∈ x.1.weights Try.prog 29, q ≤ reachBytes) : ∃ A n c T, v = .slice A n c ∧ TabZ W A n T ∧ n ≤ c ∧ n ≤ maxLen ∧ n ≤ 140737488355328 ∧ ∀ t ∈ T, t.length ≤ 140737488355328 := by
  have hr := reachBytes_lt
  rcases open_slice1 Try.underlying29 (by kernel_rfl) h with ⟨hc, hx⟩ | ⟨a, len, cap, m, k, V, D, Pl, hcs, _, hl, hm, hmm, hx, hV⟩
  · obtain rfl : v = .slice none 0 0 := (List.cons.inj hc).1
    exact ⟨none, 0, 0, [], rfl, ⟨rfl, fun h => absurd h (Nat.lt_irrefl _)⟩, Nat.le_refl _, Nat.zero_le _, Nat.zero_le _, fun t ht => absurd ht List.not_mem_nil⟩
  · obtain rfl : v = .slice (some a) len cap := (List.cons.inj hcs).1
    simp only [if_true] at hmm
    have hd : x.1 = .slice ((List.range len).map D) ((List.range (m - len)).map fun j => D (len + j)) := congrArg Prod.fst hx
    have h4 := hw ((((List.range len).map D).length + ((List.range (m - len)).map fun j => D (len + j)).length) * Try.prog.bytesOf 30) (by
      rw [hd]
      simp only [DataW.weights, Try.underlying29, List.mem_cons, true_or])
    rw [bytesInts, List.length_map, List.length_range] at h4
    obtain ⟨L, hL⟩ := choose_lt (α := List Int) (p := fun i L => ∃ A n c, V i = .slice A n c ∧ ZIn W A n L ∧ n ≤ c ∧ n ≤ maxLen ∧ n ≤ 140737488355328) (n := len) (fun i hi => by
      obtain ⟨A, n, c, L, h1, h2⟩ := open_cell_sized (hV i (by omega)).2 fun q hq => hw q (by
        rw [hd]
        simp only [DataW.weights, Try.underlying29, List.mem_cons, List.mem_append]
        exact .inr (.inl (weights_allG (List.mem_map.2 ⟨i, List.mem_range.2 hi, rfl⟩) hq)))
      exact ⟨L, A, n, c, h1, h2⟩)
    have hget : ∀ i, i < len → ((List.range len).map L).getD i [] = L i := fun i hi => by
      rw [List.getD_eq_getElem?_getD, List.getElem?_map, List.getElem?_range hi]
      rfl
    refine ⟨some a, len, cap, (List.range len).map L, rfl, ⟨by rw [List.length_map, List.length_range], fun hn => ?_⟩, hl, by omega, by omega, fun t ht => ?_⟩
    · have h0 := (hV 0 (by omega)).1
      rw [Addr.add_zero'] at h0
      have ha := addr_of_cell h0
      refine ⟨a.block, a.off, by rw [← ha], fun i hi => ?_⟩
      obtain ⟨A, n, c, h1, h2, h3, h4, _⟩ := hL i hi
      have h5 := (hV i (by omega)).1
      rw [ha, Addr.add_lit, h1] at h5
      have h6 : (L i).length = n := h2.1
      rw [hget i hi, h6]
      exact ⟨A, c, h5, h2, h3, h4⟩
    · obtain ⟨i, hi, rfl⟩ := List.mem_map.1 ht
      obtain ⟨A, n, c, _, h2, _, _, h5⟩ := hL i (List.mem_range.1 hi)
      have h6 : (L i).length = n := h2.1
      omega
set_option maxRecDepth 100000 in
open Go.ChangeShapes Go.WideShapes Go.ChangeAt Go.Deep Go.Joins in
/-- A plan that comes in. -/
theorem open_plan_sized {H : Type} {enc : TypeId × Value → H} {W : World} {r : Reach} {b0 : Nat} {v : Value} {d : DataW H} {ps : List MemPlace} (hv : Value.okWide Try.prog W r b0 32 v)
    (h : DataW.Trod enc Try.prog W 0 (fun _ => true) true 32 v d ps) (hw : ∀ q ∈ d.weights Try.prog 32, q ≤ reachBytes) : ∃ T P, PlanIn W v T P ∧ SmallP T P := by
  obtain ⟨v0, v1, y0, y1, k, rfl, rfl, _, t0, t1⟩ := open_agg2 Try.underlying32 (by kernel_rfl) (by kernel_rfl) hv h
  have hmem : ∀ q, q ∈ DataW.weightsEach Try.prog [29, 30] [y0.1, y1.1] → q ≤ reachBytes := fun q hq => hw q (by
    simp only [DataW.weights, Try.underlying32]
    exact hq)
  obtain ⟨A, n, c, T, rfl, hT, h1, h2, h3, h4⟩ := open_tab_sized t0 fun q hq => hmem q (by simp only [DataW.weightsEach, List.mem_append]; exact .inl hq)
  obtain ⟨B, m, e, P, rfl, hP, g1, g2, g3⟩ := open_cell_sized t1 fun q hq => hmem q (by simp only [DataW.weightsEach, List.mem_append]; exact .inr (.inl hq))
  have e1 := hT.1
  have e2 := hP.1
  exact ⟨T, P, ⟨A, n, c, B, m, e, rfl, hT, h1, h2, hP, g1, g2⟩, by omega, by omega, h4⟩
end Go.Proofs.Ytmgmgmbpldboiaa
