/- The rows and tied cards of the six laws of ustar, over what is asked of the code's functions. Conditions: the listed tables, which the cards tie to the text. -/
import Derived.Test.YtiihkjloenlfmaaDoorUsi
import Derived.Test.YtiihkjloenlfmaaDoorL
import Derived.Test.YtiihkjloenlfmaaDoorCards
import Derived.Test.YtiihkjloenlfmaaDoorTie
import Derived.ChangeMaps5
import Derived.SizedLaws
import Derived.Laws.IdiomArrays
import Derived.OpenShut
import Derived.LaidMore
import Derived.Stop.Joined
import Derived.MakeChecks
namespace Go.Proofs.YtiihkjloenlfmaaDoor
open Go.RowKit

set_option maxRecDepth 100000 in
theorem looks_on : false = Tryd.pinned.checked.prog.looks [] := by kernel_rfl
set_option maxRecDepth 100000 in
theorem main_is : Tryd.pinned.checked.prog.mainIs = some (Rows.ustarEncodesCard.stood.harness.1, Rows.ustarEncodesCard.stood.harness.2.toList) := by kernel_rfl
set_option maxRecDepth 100000 in
theorem door_met (os : Os) (args : Array Value) : laidMetH Tryd.prog Rows.ustarEncodesRow.laid ((World.doorLaid Tryd.prog 24 os).forCall (fun _ _ => 0) ⟨#[], args, []⟩).memory :=
  laidMetH_of_parts3 (fuel := 8) (laidMet_of_run' 8 (by kernel_rfl) (by kernel_rfl)) (by kernel_rfl) (by kernel_rfl)
set_option maxRecDepth 100000 in
/-- The listed tables are the library's. -/
theorem tabs_of {W : World} (h : laidMetH Tryd.prog Rows.ustarEncodesRow.laid W) : Tabs W := by
  constructor
  · have h1 := h.filter (fun x => x.1 == "internal/strconv.uint64pow10")
    rw [Go.MakeChecks.laidMetH_plain _ _ _ (by kernel_rfl)] at h1
    exact Lib.tabIs_of_head (rest := []) (g := 0) (by kernel_rfl) (t := 109) (by kernel_rfl) Tryd.underlying109 Tryd.underlying95 (by kernel_rfl) (by kernel_rfl) h1
  · have h1 := h.filter (fun x => x.1 == "math/bits.deBruijn64tab")
    rw [Go.MakeChecks.laidMetH_plain _ _ _ (by kernel_rfl)] at h1
    exact Lib.tabIs_of_head (rest := []) (g := 3) (by kernel_rfl) (t := 116) (by kernel_rfl) Tryd.underlying116 Tryd.underlying5 (by kernel_rfl) (by kernel_rfl) h1
set_option maxRecDepth 100000 in
theorem cellsHd : Tryd.prog.cellsOf 25 = 10 := by kernel_rfl
set_option maxRecDepth 100000 in
theorem cellsSt : Tryd.prog.cellsOf 9 = 1 := by kernel_rfl
set_option maxRecDepth 100000 in
theorem cellsIn : Tryd.prog.cellsOf 3 = 1 := by kernel_rfl
set_option maxRecDepth 100000 in
theorem mem_weightsAll16 {H : Type} {e : TypeId} {x : Nat} {d : DataW H} : ∀ {l : List (DataW H)}, d ∈ l → x ∈ d.weights Tryd.prog e → x ∈ DataW.weightsAll Tryd.prog e l
  | [], h, _ => by simp at h
  | y :: l, h, hx => by
    simp only [DataW.weightsAll, List.mem_append]
    rcases List.mem_cons.1 h with rfl | h
    · exact .inl hx
    · exact .inr (mem_weightsAll16 h hx)
set_option maxRecDepth 100000 in
open Go.ChangeShapes Go.WideShapes Go.ChangeAt in
/-- A head that is handed over. -/
theorem open_head {H : Type} {enc : TypeId × Value → H} {W : World} {base : Nat} {v : Value} {d : DataW H} {ps : List MemPlace} (hv : Value.okWide Tryd.prog W .any base 25 v)
    (h : DataW.Trod enc Tryd.prog W 0 (fun _ => true) true 25 v d ps) (hw : ∀ x ∈ d.weights Tryd.prog 25, x ≤ reachBytes) : ∃ x : HeadP, v = headV x ∧ HeadT x := by
  obtain ⟨cs, rfl, hsz⟩ := okWide_struct Tryd.underlying25 hv
  rw [cellsHd] at hsz
  obtain ⟨c0, c1, c2, c3, c4, c5, c6, c7, c8, c9, rfl⟩ : ∃ c0 c1 c2 c3 c4 c5 c6 c7 c8 c9, cs = #[c0, c1, c2, c3, c4, c5, c6, c7, c8, c9] := by
    obtain ⟨l⟩ := cs
    match l, hsz with
    | [c0, c1, c2, c3, c4, c5, c6, c7, c8, c9], _ => exact ⟨c0, c1, c2, c3, c4, c5, c6, c7, c8, c9, rfl⟩
  obtain ⟨fuel, hf⟩ := h
  obtain ⟨xs, n, _, hxd, _, hlen, hel⟩ := DataW.trod_struct Tryd.underlying25 hf
  have hlen8 : xs.length = 8 := hlen
  have hd : d = .agg (xs.map (·.1)) := congrArg Prod.fst hxd
  have hr := reachBytes_lt
  have hwe : ∀ (j : Nat) (t : TypeId) (y : DataW H × List MemPlace), xs[j]? = some y → [9, 3, 5, 3, 3, 9, 22, 23][j]? = some t → ∀ x ∈ y.1.weights Tryd.prog t, x ≤ reachBytes := fun j t y hy ht x hx => by
    refine hw x ?_
    rw [hd]
    simp only [DataW.weights, Tryd.underlying25]
    exact DataW.weights_mem_each (j := j) (t := t) (d := y.1) ht (by rw [List.getElem?_map, hy]; rfl) x hx
  have some_of : ∀ i, i < 8 → ∃ y, xs[i]? = some y := fun i hi => ⟨_, List.getElem?_eq_getElem (by omega)⟩
  have str : ∀ (m : Nat) (c : Value) (y : DataW H × List MemPlace), DataW.trod enc Tryd.prog W 0 (fun _ => true) true m 9 [c] = some y → (∀ x ∈ y.1.weights Tryd.prog 9, x ≤ reachBytes) → ∃ s : ByteArray, c = .string s ∧ s.size ≤ 140737488355328 := fun m c y hy hy9 => by
    obtain ⟨s, e0, x0, hs⟩ := DataW.trod_string Tryd.underlying9 hy
    simp only [List.cons.injEq, and_true] at e0
    have h0 := hy9 s.data.toList.length (by rw [x0]; simp [DataW.weights])
    have z0 : s.data.toList.length = s.size := rfl
    exact ⟨s, e0, by omega⟩
  have num : ∀ (m : Nat) (c : Value) (y : DataW H × List MemPlace), DataW.trod enc Tryd.prog W 0 (fun _ => true) true m 3 [c] = some y → ∃ q : Int, c = .int .i64 q ∧ -9223372036854775808 ≤ q ∧ q ≤ 9223372036854775807 := fun m c y hy => by
    obtain ⟨q, e0, _, hwf⟩ := DataW.trod_int Tryd.underlying3 hy
    simp only [List.cons.injEq, and_true] at e0
    have hb := bounds_i64 hwf
    exact ⟨q, e0, by omega, by omega⟩
  have byt : ∀ (m : Nat) (c : Value) (y : DataW H × List MemPlace), DataW.trod enc Tryd.prog W 0 (fun _ => true) true m 5 [c] = some y → ∃ q : Nat, c = .int .u8 q ∧ q < 256 := fun m c y hy => by
    obtain ⟨q, e0, _, hw⟩ := DataW.trod_int Tryd.underlying5 hy
    simp only [List.cons.injEq, and_true] at e0
    have hb := bounds_u8 hw
    exact ⟨q.toNat, by rw [e0, Int.toNat_of_nonneg hb.1], by omega⟩
  have f0 := hel 0 _ rfl
  have f1 := hel 1 _ rfl
  have f2 := hel 2 _ rfl
  have f3 := hel 3 _ rfl
  have f4 := hel 4 _ rfl
  have f5 := hel 5 _ rfl
  have f6 := hel 6 _ rfl
  have f7 := hel 7 _ rfl
  obtain ⟨y0, g0⟩ := some_of 0 (by omega)
  obtain ⟨y1, g1⟩ := some_of 1 (by omega)
  obtain ⟨y2, g2⟩ := some_of 2 (by omega)
  obtain ⟨y3, g3⟩ := some_of 3 (by omega)
  obtain ⟨y4, g4⟩ := some_of 4 (by omega)
  obtain ⟨y5, g5⟩ := some_of 5 (by omega)
  obtain ⟨y6, g6⟩ := some_of 6 (by omega)
  obtain ⟨y7, g7⟩ := some_of 7 (by omega)
  rw [g0] at f0
  rw [g1] at f1
  rw [g2] at f2
  rw [g3] at f3
  rw [g4] at f4
  rw [g5] at f5
  rw [g6] at f6
  rw [g7] at f7
  have k0 := hwe 0 _ _ g0 rfl
  have k5 := hwe 5 _ _ g5 rfl
  have k6 := hwe 6 _ _ g6 rfl
  obtain ⟨s0, rfl, b0⟩ := str n c0 y0 (by rw [← f0]; rfl) k0
  obtain ⟨i1, rfl, b1⟩ := num n c1 y1 (by rw [← f1]; rfl)
  obtain ⟨k2, rfl, b2⟩ := byt n c2 y2 (by rw [← f2]; rfl)
  obtain ⟨i3, rfl, b3⟩ := num n c3 y3 (by rw [← f3]; rfl)
  obtain ⟨i4, rfl, b4⟩ := num n c4 y4 (by rw [← f4]; rfl)
  obtain ⟨s5, rfl, b5⟩ := str n c5 y5 (by rw [← f5]; rfl) k5
  have h6 : DataW.trod enc Tryd.prog W 0 (fun _ => true) true n 22 [c6, c7] = some y6 := by rw [← f6]; rfl
  have h7 : DataW.trod enc Tryd.prog W 0 (fun _ => true) true n 23 [c8, c9] = some y7 := by rw [← f7]; rfl
  obtain ⟨zs, m, _, hz6, _, hl6, he6⟩ := DataW.trod_array Tryd.underlying22 h6
  obtain ⟨us, m', _, _, _, hl7, he7⟩ := DataW.trod_array Tryd.underlying23 h7
  have hze : ∀ (j : Nat) (y : DataW H × List MemPlace), zs[j]? = some y → ∀ x ∈ y.1.weights Tryd.prog 9, x ≤ reachBytes := fun j y hy x hx => by
    refine k6 x ?_
    rw [hz6]
    simp only [DataW.weights, Tryd.underlying22]
    exact mem_weightsAll16 (List.mem_map.2 ⟨y, List.mem_of_getElem? hy, rfl⟩) hx
  have q0 := he6 0 (by omega)
  have q1 := he6 1 (by omega)
  have r0 := he7 0 (by omega)
  have r1 := he7 1 (by omega)
  have z0 := hze 0 _ (List.getElem?_eq_getElem (by omega))
  have z1 := hze 1 _ (List.getElem?_eq_getElem (by omega))
  rw [List.getElem?_eq_getElem (by omega)] at q0 q1
  rw [List.getElem?_eq_getElem (by omega)] at r0 r1
  rw [cellsSt] at q0 q1
  rw [cellsIn] at r0 r1
  obtain ⟨s6, rfl, b6⟩ := str m c6 _ q0 z0
  obtain ⟨s7, rfl, b7⟩ := str m c7 _ q1 z1
  obtain ⟨i8, rfl, b8⟩ := num m' c8 _ r0
  obtain ⟨i9, rfl, b9⟩ := num m' c9 _ r1
  have hts : ∀ i, i < 4 → (mayT ⟨s0, i1, k2, i3, i4, s5, s6, s7, i8, i9⟩ i).size ≤ 140737488355328 := fun i hi => by
    have : i = 0 ∨ i = 1 ∨ i = 2 ∨ i = 3 := by omega
    rcases this with rfl | rfl | rfl | rfl
    · exact b0
    · exact b5
    · exact b6
    · exact b7
  refine ⟨⟨s0, i1, k2, i3, i4, s5, s6, s7, i8, i9⟩, rfl, ⟨b2, fun i hi => by have := hts i hi; omega⟩, hts, fun i hi => ?_, b1, b4⟩
  have : i = 0 ∨ i = 1 ∨ i = 2 := by omega
  rcases this with rfl | rfl | rfl
  · exact b3
  · exact b8
  · exact b9

end Go.Proofs.YtiihkjloenlfmaaDoor
