/- The rows and tied cards of the three laws of pax, over what is asked of the code's functions. Conditions: the listed tables, which the cards tie to the text. -/
import Derived.Test.YtccfjabmmecbkaaDoorPxe
import Derived.Test.YtccfjabmmecbkaaDoorPxg
import Derived.Test.YtccfjabmmecbkaaDoorL
import Derived.ChangeMaps5
import Derived.Deep.SlicePairs
import Derived.SizedLaws
import Derived.Test.YtccfjabmmecbkaaDoorCards
import Derived.Test.YtccfjabmmecbkaaDoorTie
import Derived.OpenShut
import Derived.LaidMore
import Derived.Stop.Joined
import Derived.MakeChecks
namespace Go.Proofs.YtccfjabmmecbkaaDoor
open Go.RowKit

set_option maxRecDepth 100000 in
theorem looks_on : false = Tryd.pinned.checked.prog.looks [] := by kernel_rfl
set_option maxRecDepth 100000 in
theorem main_is : Tryd.pinned.checked.prog.mainIs = some (Rows.paxLastsCard.stood.harness.1, Rows.paxLastsCard.stood.harness.2.toList) := by kernel_rfl
set_option maxRecDepth 100000 in
theorem door_met (os : Os) (args : Array Value) : laidMetH Tryd.prog Rows.paxLastsRow.laid ((World.doorLaid Tryd.prog 24 os).forCall (fun _ _ => 0) ⟨#[], args, []⟩).memory :=
  laidMetH_of_parts3 (fuel := 8) (laidMet_of_run' 8 (by kernel_rfl) (by kernel_rfl)) (by kernel_rfl) (by kernel_rfl)
set_option maxRecDepth 100000 in
theorem cellsPr : Tryd.prog.cellsOf 36 = 2 := by kernel_rfl
set_option maxRecDepth 100000 in
theorem pcellsSt : Tryd.prog.cellsOf 9 = 1 := by kernel_rfl
set_option maxRecDepth 100000 in
theorem addr_of_cellP {w : World} {a : Addr} {v : Value} (h : w.cell? a = some v) : a = ⟨a.block, a.off, none⟩ := by
  unfold World.cell? at h
  split at h
  · split at h
    · cases h
    · rename_i hs
      cases a with
      | mk b o s =>
        cases s with
        | none => rfl
        | some s => simp at hs
  · cases h
set_option maxRecDepth 100000 in
theorem mem_weightsAll {H : Type} {e : TypeId} {x : Nat} {d : DataW H} : ∀ {l : List (DataW H)}, d ∈ l → x ∈ d.weights Tryd.prog e → x ∈ DataW.weightsAll Tryd.prog e l
  | [], h, _ => by simp at h
  | y :: l, h, hx => by
    simp only [DataW.weightsAll, List.mem_append]
    rcases List.mem_cons.1 h with rfl | h
    · exact .inl hx
    · exact .inr (mem_weightsAll h hx)
def strOf : Value → ByteArray
  | .string s => s
  | _ => ⟨#[]⟩
set_option maxRecDepth 100000 in
open Go.ChangeShapes Go.WideShapes Go.ChangeAt Go.Deep in
/-- Pairs that are handed over. -/
theorem open_prs {H : Type} {enc : TypeId × Value → H} {W : World} {A : Option Addr} {n c : Nat} {d : DataW H} {ps : List MemPlace}
    (h : DataW.Trod enc Tryd.prog W 0 (fun _ => true) true 22 (.slice A n c) d ps) (hw : ∀ x ∈ d.weights Tryd.prog 22, x ≤ reachBytes) :
    ∃ L : List PairB, PIn W A n L ∧ n ≤ maxLen ∧ ∀ p, p ∈ L → p.1.size ≤ 140737488355328 ∧ p.2.size ≤ 140737488355328 := by
  obtain ⟨fuel, h⟩ := h
  rcases open_slice_pairs Tryd.underlying22 Tryd.underlying36 cellsPr rfl rfl pcellsSt pcellsSt h with ⟨hc, _⟩ | ⟨a, len, cap, m, k, V0, V1, D0, D1, P0, P1, hcs, _, hl, hm, hmeq, hx, hall⟩
  · simp [Value.cells] at hc
    obtain ⟨rfl, rfl, rfl⟩ := hc
    exact ⟨[], ⟨rfl, fun h => by omega⟩, Nat.zero_le _, fun p hp => by cases hp⟩
  · simp [Value.cells] at hcs
    obtain ⟨rfl, rfl, rfl⟩ := hcs
    simp only [if_true] at hmeq
    subst hmeq
    have hd : d = .slice ((List.range n).map fun i => .agg [D0 i, D1 i]) ((List.range (m - n)).map fun j => .agg [D0 (n + j), D1 (n + j)]) := congrArg Prod.fst hx
    have hr := reachBytes_lt
    have hs : ∀ i, i < n → (∃ s : ByteArray, V0 i = .string s ∧ s.size ≤ 140737488355328) ∧ ∃ s : ByteArray, V1 i = .string s ∧ s.size ≤ 140737488355328 := fun i hi => by
      obtain ⟨_, _, t0, t1⟩ := hall i (by omega)
      obtain ⟨s, e0, x0, _⟩ := DataW.trod_string Tryd.underlying9 t0
      obtain ⟨u, e1, x1, _⟩ := DataW.trod_string Tryd.underlying9 t1
      simp only [List.cons.injEq, and_true] at e0 e1
      simp only [Prod.mk.injEq] at x0 x1
      have hmem : ∀ q, q ∈ DataW.weightsEach Tryd.prog [9, 9] [D0 i, D1 i] → q ∈ d.weights Tryd.prog 22 := fun q hq => by
        rw [hd]
        simp only [DataW.weights, Tryd.underlying22, List.mem_cons, List.mem_append]
        refine .inr (.inl (mem_weightsAll (d := .agg [D0 i, D1 i]) (List.mem_map.2 ⟨i, List.mem_range.2 hi, rfl⟩) ?_))
        simp only [DataW.weights, Tryd.underlying36]
        exact hq
      have h0 := hw _ (hmem s.data.toList.length (by simp [DataW.weightsEach, x0.1, DataW.weights]))
      have h1 := hw _ (hmem u.data.toList.length (by simp [DataW.weightsEach, x1.1, DataW.weights]))
      have z0 : s.data.toList.length = s.size := rfl
      have z1 : u.data.toList.length = u.size := rfl
      exact ⟨⟨s, e0, by omega⟩, u, e1, by omega⟩
    have hget : ∀ i, i < n → ((List.range n).map fun i => ((strOf (V0 i), strOf (V1 i)) : PairB)).getD i noB = (strOf (V0 i), strOf (V1 i)) := fun i hi => by
      rw [List.getD_eq_getElem?_getD, List.getElem?_map, List.getElem?_range hi]
      rfl
    refine ⟨(List.range n).map fun i => (strOf (V0 i), strOf (V1 i)), ⟨by rw [List.length_map, List.length_range], fun hn => ?_⟩, by omega, fun p hp => ?_⟩
    · have h0 := (hall 0 (by omega)).1
      rw [Nat.zero_mul, Addr.add_zero'] at h0
      have ha := addr_of_cellP h0
      refine ⟨a.block, a.off, by rw [← ha], fun i hi => ?_⟩
      obtain ⟨g1, g2, _⟩ := hall i (by omega)
      rw [ha, Addr.add_lit] at g1 g2
      obtain ⟨⟨s, e0, _⟩, u, e1, _⟩ := hs i hi
      rw [hget i hi]
      refine ⟨?_, ?_⟩
      · rw [g1, e0]
        rfl
      · refine Eq.trans g2 ?_
        rw [e1]
        rfl
    · obtain ⟨i, hi, rfl⟩ := List.mem_map.1 hp
      obtain ⟨⟨s, e0, b0⟩, u, e1, b1⟩ := hs i (List.mem_range.1 hi)
      dsimp only
      rw [e0, e1]
      exact ⟨b0, b1⟩
set_option maxRecDepth 100000 in
/-- The listed tables are the library's. -/
theorem tabs_of {W : World} (h : laidMetH Tryd.prog Rows.paxLastsRow.laid W) : Tabs W := by
  constructor
  · have h1 := h.filter (fun x => x.1 == "internal/strconv.uint64pow10")
    rw [Go.MakeChecks.laidMetH_plain _ _ _ (by kernel_rfl)] at h1
    exact Lib.tabIs_of_head (rest := []) (g := 1) (by kernel_rfl) (t := 71) (by kernel_rfl) Tryd.underlying71 Tryd.underlying65 (by kernel_rfl) (by kernel_rfl) h1
  · have h1 := h.filter (fun x => x.1 == "math/bits.deBruijn64tab")
    rw [Go.MakeChecks.laidMetH_plain _ _ _ (by kernel_rfl)] at h1
    exact Lib.tabIs_of_head (rest := []) (g := 3) (by kernel_rfl) (t := 77) (by kernel_rfl) Tryd.underlying77 Tryd.underlying5 (by kernel_rfl) (by kernel_rfl) h1

end Go.Proofs.YtccfjabmmecbkaaDoor
