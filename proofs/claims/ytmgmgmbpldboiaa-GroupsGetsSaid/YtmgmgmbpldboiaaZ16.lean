/- Mh Mi Mj Mk Ml: texts laid together, what is not used left out. -/
import Derived.Test.YtmgmgmbpldboiaaZ15
import Derived.Test.YtmgmgmbpldboiaaZ01
import Derived.ChangeMaps5
import Derived.ChangeSlices
import Derived.JoinedCond
import Derived.Deep.Slices
import Derived.Lib.SmallJoins
namespace Go.Proofs.Ytmgmgmbpldboiaa
open Go.RowKit

end Go.Proofs.Ytmgmgmbpldboiaa
namespace Go.Proofs.Ytmgmgmbpldboiaa
open Go.RowKit

end Go.Proofs.Ytmgmgmbpldboiaa
namespace Go.Proofs.Ytmgmgmbpldboiaa
open Go.RowKit

section
variable (R : GroupsDone)
include R
end

end Go.Proofs.Ytmgmgmbpldboiaa
namespace Go.Proofs.Ytmgmgmbpldboiaa
open Go.RowKit

section
variable (R : GroupsDone)
include R
end

end Go.Proofs.Ytmgmgmbpldboiaa
namespace Go.Proofs.Ytmgmgmbpldboiaa
open Go.RowKit

set_option maxRecDepth 100000 in
theorem bulk_lits {H : Type} (k : IntKind) : ∀ l : List Int, Rows.uptoBulkAll (H := H) (Go.ChangeShapes.lits k l) = l.length
  | [] => rfl
  | x :: l => by
    show Rows.uptoBulk (DataW.lit (Lit.int k x)) + Rows.uptoBulkAll (Go.ChangeShapes.lits k l) = _
    rw [bulk_lits k l, List.length_cons]
    simp only [Rows.uptoBulk]
    omega
set_option maxRecDepth 100000 in
theorem bulk_mem {H : Type} : ∀ (l : List (DataW H)) (d : DataW H), d ∈ l → Rows.uptoBulk d ≤ Rows.uptoBulkAll l
  | x :: l, d, h => by
    rw [show Rows.uptoBulkAll (x :: l) = Rows.uptoBulk x + Rows.uptoBulkAll l from rfl]
    rcases List.mem_cons.1 h with e | e
    · rw [e]
      exact Nat.le_add_right _ _
    · have := bulk_mem l d e
      omega
theorem bulk_len {H : Type} : ∀ (l : List (DataW H)), (∀ d ∈ l, 1 ≤ Rows.uptoBulk d) → l.length ≤ Rows.uptoBulkAll l
  | [], _ => Nat.zero_le _
  | x :: l, h => by
    rw [show Rows.uptoBulkAll (x :: l) = Rows.uptoBulk x + Rows.uptoBulkAll l from rfl, List.length_cons]
    have h1 := h x List.mem_cons_self
    have h2 := bulk_len l fun d hd => h d (List.mem_cons_of_mem _ hd)
    omega
set_option maxRecDepth 100000 in
open Go.ChangeShapes Go.WideShapes Go.ChangeAt Go.Deep Go.Joins in
/-- A cell that is read as a slice of numbers. -/
theorem open_cell_bulk {H : Type} {enc : TypeId × Value → H} {W : World} {v : Value} {fuel : Nat} {x : DataW H × List MemPlace}
    (h : DataW.trod enc Try.prog W 0 (fun _ => true) true fuel 30 [v] = some x) : ∃ A n c L, v = .slice A n c ∧ ZIn W A n L ∧ n ≤ c ∧ n ≤ maxLen ∧ n + 1 ≤ Rows.uptoBulk x.1 := by
  obtain ⟨A, n, c, hv⟩ := slice_form Try.underlying30 h
  obtain rfl : v = .slice A n c := (List.cons.inj hv).1
  obtain ⟨L, h1, h2, h3⟩ := open_zs (d := x.1) (ps := x.2) ⟨fuel, by simpa [Value.cells] using h⟩
  refine ⟨A, n, c, L, rfl, h1, h2, h3, ?_⟩
  rcases open_ints Try.underlying30 Try.underlying3 (by kernel_rfl) h with ⟨hc, hx⟩ | ⟨a, len, cap, zs, hcs, _, hl, hm, hz, hx, hcell, hwf⟩
  · obtain ⟨rfl, rfl, rfl⟩ := Value.slice.inj (List.cons.inj hc).1
    rw [hx]
    exact Nat.le_refl 1
  · obtain ⟨rfl, rfl, rfl⟩ := Value.slice.inj (List.cons.inj hcs).1
    simp only [if_true] at hz
    rw [hx]
    simp only [Rows.uptoBulk]
    rw [bulk_lits, List.length_take]
    omega
set_option maxRecDepth 100000 in
open Go.ChangeShapes Go.WideShapes Go.ChangeAt Go.Deep Go.Joins in
/-- A cell that is read as a slice of slices of numbers. -/
theorem open_tab_bulk {H : Type} {enc : TypeId × Value → H} {W : World} {v : Value} {fuel : Nat} {x : DataW H × List MemPlace}
    (h : DataW.trod enc Try.prog W 0 (fun _ => true) true fuel 29 [v] = some x) : ∃ A n c T, v = .slice A n c ∧ TabZ W A n T ∧ n ≤ c ∧ n ≤ maxLen ∧ n + 1 ≤ Rows.uptoBulk x.1 ∧ ∀ t ∈ T, t.length ≤ Rows.uptoBulk x.1 := by
  rcases open_slice1 Try.underlying29 (by kernel_rfl) h with ⟨hc, hx⟩ | ⟨a, len, cap, m, k, V, D, Pl, hcs, _, hl, hm, hmm, hx, hV⟩
  · obtain rfl : v = .slice none 0 0 := (List.cons.inj hc).1
    refine ⟨none, 0, 0, [], rfl, ⟨rfl, fun h => absurd h (Nat.lt_irrefl _)⟩, Nat.le_refl _, Nat.zero_le _, ?_, fun t ht => absurd ht List.not_mem_nil⟩
    rw [hx]
    exact Nat.le_refl 1
  · obtain rfl : v = .slice (some a) len cap := (List.cons.inj hcs).1
    simp only [if_true] at hmm
    obtain ⟨L, hL⟩ := choose_lt (α := List Int) (p := fun i L => ∃ A n c, V i = .slice A n c ∧ ZIn W A n L ∧ n ≤ c ∧ n ≤ maxLen ∧ n + 1 ≤ Rows.uptoBulk (D i)) (n := len) (fun i hi => by
      obtain ⟨A, n, c, L, h1, h2⟩ := open_cell_bulk (hV i (by omega)).2
      exact ⟨L, A, n, c, h1, h2⟩)
    have hget : ∀ i, i < len → ((List.range len).map L).getD i [] = L i := fun i hi => by
      rw [List.getD_eq_getElem?_getD, List.getElem?_map, List.getElem?_range hi]
      rfl
    have hone : ∀ d ∈ (List.range len).map D, 1 ≤ Rows.uptoBulk d := fun d hd => by
      obtain ⟨i, hi, rfl⟩ := List.mem_map.1 hd
      obtain ⟨A, n, c, _, _, _, _, h5⟩ := hL i (List.mem_range.1 hi)
      omega
    have hall := bulk_len _ hone
    rw [List.length_map, List.length_range] at hall
    have hb : Rows.uptoBulk x.1 = Rows.uptoBulkAll ((List.range len).map D) + Rows.uptoBulkAll ((List.range (m - len)).map fun j => D (len + j)) + 1 := by
      rw [hx]
      rfl
    refine ⟨some a, len, cap, (List.range len).map L, rfl, ⟨by rw [List.length_map, List.length_range], fun hn => ?_⟩, hl, by omega, by omega, fun t ht => ?_⟩
    · have h0 := (hV 0 (by omega)).1
      rw [Addr.add_zero'] at h0
      have ha := addr_of_cell h0
      refine ⟨a.block, a.off, by rw [← ha], fun i hi => ?_⟩
      obtain ⟨A, n, c, h1, h2, h3, h4, _⟩ := hL i hi
      have h5 := (hV i (by omega)).1
      rw [ha, Addr.add_lit, h1] at h5
      have h6 : (L i).length = n := h2.1
      rw [hget i hi, h6]
      exact ⟨A, c, h5, h2, h3, h4⟩
    · obtain ⟨i, hi, rfl⟩ := List.mem_map.1 ht
      obtain ⟨A, n, c, _, h2, _, _, h5⟩ := hL i (List.mem_range.1 hi)
      have h6 : (L i).length = n := h2.1
      have h7 := bulk_mem _ _ (List.mem_map.2 ⟨i, hi, rfl⟩ : D i ∈ (List.range len).map D)
      omega
set_option maxRecDepth 100000 in
open Go.ChangeShapes Go.WideShapes Go.ChangeAt Go.Deep Go.Joins in
/-- A plan that comes in. -/
theorem open_plan_bulk {H : Type} {enc : TypeId × Value → H} {W : World} {r : Reach} {b0 : Nat} {v : Value} {d : DataW H} {ps : List MemPlace} (hv : Value.okWide Try.prog W r b0 32 v)
    (h : DataW.Trod enc Try.prog W 0 (fun _ => true) true 32 v d ps) : ∃ T P, PlanIn W v T P ∧ T.length ≤ Rows.uptoBulk d ∧ P.length ≤ Rows.uptoBulk d ∧ ∀ t ∈ T, t.length ≤ Rows.uptoBulk d := by
  obtain ⟨v0, v1, y0, y1, k, rfl, rfl, _, t0, t1⟩ := open_agg2 Try.underlying32 (by kernel_rfl) (by kernel_rfl) hv h
  obtain ⟨A, n, c, T, rfl, hT, h1, h2, h3, h4⟩ := open_tab_bulk t0
  obtain ⟨B, m, e, P, rfl, hP, g1, g2, g3⟩ := open_cell_bulk t1
  have hb : Rows.uptoBulk (H := H) (.agg [y0.1, y1.1]) = Rows.uptoBulk y0.1 + (Rows.uptoBulk y1.1 + 0) + 1 := rfl
  have e1 := hT.1
  have e2 := hP.1
  refine ⟨T, P, ⟨A, n, c, B, m, e, rfl, hT, h1, h2, hP, g1, g2⟩, by omega, by omega, fun t ht => ?_⟩
  have := h4 t ht
  omega

end Go.Proofs.Ytmgmgmbpldboiaa
namespace Go.Proofs.Ytmgmgmbpldboiaa.GroupsTables
open Go.ChangeShapes Go.WideShapes Go.ChangeAt Go.RowKit

set_option maxRecDepth 100000 in
theorem lifted (R : GroupsDone) (os : Os) (started : os.Started) (H : Type) (enc : TypeId × Value → H) :
    ReturnsInHanded {} Try.checked os 3 .any (Rows.groupsTablesSpec.pre6 enc Try.prog Try.f3 Rows.groupsTablesRow.domain false) (Rows.groupsTablesSpec.post enc Try.prog Try.f3 false true false false) := by
  refine returnsInHanded_of_change (C := Try.checked) own started (by kernel_rfl) Try.func3
    (ChangeSpec.witness6 (enc := enc) (C := Try.checked) false ⟨#[], #[.int .i64 0], []⟩ 8 (by kernel_rfl) (by kernel_rfl) (by kernel_rfl) (by kernel_rfl)) ?_
  intro W base args ds gs before hval0 hW hcnd _
  have hval : ∀ (j : Nat) t v, Try.f3.params[j]? = some t → args[j]? = some v → Value.okWide Try.prog W .any base t v := hval0
  have hW' := hW
  obtain ⟨p, q, hA0, hV, rfl, hfz, hnd⟩ := hW
  have hA : DataW.TrodAll enc Try.prog W 0 (fun _ => true) true Try.f3.params.toList args.toList ds p := hA0
  rw [Try.params3] at hA hval
  obtain ⟨v0, vs0, d0, ds0, p0, q0, hargs, rfl, rfl, h0, r0⟩ := trodAll_cons hA
  obtain ⟨rfl, rfl, rfl⟩ := trodAll_nil r0
  obtain rfl : args = #[v0] := by cases args; simp_all
  obtain ⟨rfl, rfl⟩ := trodVars_none hV
  obtain ⟨i0, rfl, rfl, rfl, w0⟩ := open_int Try.underlying3 (hval 0 3 v0 rfl rfl) h0
  have b0 := bounds_i64 w0
  clear hA0 hval0
  have fin : ∀ e W', (e = Ending.returned (.bool true) ∧ Below W.heap.size W W') → ∃ v, e = Ending.returned v ∧ Rows.groupsTablesSpec.post enc Try.prog Try.f3 false true false false W #[.int .i64 i0] v W' := by
    rintro e W' ⟨rfl, hb⟩
    exact ⟨_, rfl, law_done hW' rfl hb (by kernel_rfl) (by kernel_rfl) rfl⟩
  exact (tables_law R W i0 b0.1 b0.2).mono fin

set_option maxRecDepth 100000 in
theorem over (R : GroupsDone) : Rows.groupsTablesRow.holds Try.pinned (OpenSpec.ofChange Rows.groupsTablesSpec) :=
  OpenClaim.holds_of_wide 3 Try.f3 rfl rfl rfl rfl rfl rfl rfl ⟨rfl, rfl, rfl, rfl, rfl⟩ rfl rfl rfl rfl rfl (by kernel_rfl) Try.func3 (by kernel_rfl)
    (of_decide_eq_true (by kernel_rfl)) (by unfold Func.isWrapper; first | (rw [if_pos (by decide +kernel)]; kernel_rfl) | (rw [if_neg (by decide +kernel)]; exact ⟨rfl, rfl⟩))
    (fun os started H enc _ => lifted R os started H enc)

end Go.Proofs.Ytmgmgmbpldboiaa.GroupsTables
namespace Go.Proofs.Ytmgmgmbpldboiaa.GroupsChooses
open Go.ChangeShapes Go.WideShapes Go.ChangeAt Go.RowKit

end Go.Proofs.Ytmgmgmbpldboiaa.GroupsChooses
namespace Go.Proofs.Ytmgmgmbpldboiaa.GroupsFlats
open Go.ChangeShapes Go.WideShapes Go.ChangeAt Go.RowKit

end Go.Proofs.Ytmgmgmbpldboiaa.GroupsFlats
namespace Go.Proofs.Ytmgmgmbpldboiaa.GroupsShowsU
open Go.ChangeShapes Go.WideShapes Go.ChangeAt Go.RowKit

set_option maxRecDepth 100000 in
theorem contract (R : GroupsDone) (H : Type) (enc : TypeId × Value → H) (W : World) (base : Nat) (args : Array Value) (ds gs : List (DataW H)) (before : List MemPlace)
    (hval : ∀ (j : Nat) t v, Try.f4.params[j]? = some t → args[j]? = some v → Value.okWide Try.prog W .any base t v)
    (hW : DataW.Whole enc Try.prog Try.f4.params.toList Rows.groupsShowsSpec.vars false W args.toList ds gs before) (hk : Rows.uptoSmall H (ds ++ gs) = true) :
    Calls Try.prog 4 args W fun e W' => ∃ v, e = .returned v ∧ Rows.groupsShowsSpec.post enc Try.prog Try.f4 false true false false W args v W' := by
  have hW' := hW
  obtain ⟨p, q, hA0, hV, rfl, hfz, hnd⟩ := hW
  have hA : DataW.TrodAll enc Try.prog W 0 (fun _ => true) true Try.f4.params.toList args.toList ds p := hA0
  rw [Try.params4] at hA hval
  obtain ⟨v0, vs0, d0, ds0, p0, q0, hargs, rfl, rfl, h0, r0⟩ := trodAll_cons hA
  obtain ⟨rfl, rfl, rfl⟩ := trodAll_nil r0
  obtain rfl : args = #[v0] := by cases args; simp_all
  obtain ⟨rfl, rfl⟩ := trodVars_none hV
  obtain ⟨T0, P0, hp0, bt0, bp0, be0⟩ := open_plan_bulk (hval 0 32 v0 rfl rfl) h0
  clear hA0
  have fin : ∀ e W', (e = Ending.returned (.bool true) ∧ Below W.heap.size W W') → ∃ v, e = Ending.returned v ∧ Rows.groupsShowsSpec.post enc Try.prog Try.f4 false true false false W #[v0] v W' := by
    rintro e W' ⟨rfl, hb⟩
    exact ⟨_, rfl, law_done hW' rfl hb (by kernel_rfl) (by kernel_rfl) rfl⟩
  simp only [List.append_nil] at hk
  have hd : Rows.uptoBulk d0 ≤ 1048576 := by
    have h := of_decide_eq_true hk
    simp only [Rows.uptoBulkAll] at h
    omega
  have hs : SmallP T0 P0 := ⟨by omega, by omega, fun t ht => by have := be0 t ht; omega⟩
  exact (shows_law R W v0 T0 P0 hp0 hs).mono fin

set_option maxRecDepth 100000 in
theorem lifted (R : GroupsDone) (os : Os) (started : os.Started) (H : Type) (enc : TypeId × Value → H) (F : Stop.Interp) :
    ReturnsInHanded {} Try.checked os 4 .any ((Rows.OpenSpec.upto Rows.groupsShowsSpec).pre6 enc Try.prog Try.f4 Rows.groupsShowsUptoRow.domain false) (((Rows.OpenSpec.upto Rows.groupsShowsSpec).at F).post enc Try.prog Try.f4 false true false false) := by
  refine returnsInHanded_of_cond (C := Try.checked) (s := Rows.OpenSpec.upto Rows.groupsShowsSpec) (k := Rows.uptoSmall) rfl own started (by kernel_rfl) Try.func4
    (OpenSpec.witness (enc := enc) (C := Try.checked) (s := Rows.OpenSpec.upto Rows.groupsShowsSpec) (k := Rows.uptoSmall) rfl false ⟨#[], #[.agg #[.slice none 0 0, .slice none 0 0]], []⟩ 8 (by kernel_rfl) (by kernel_rfl) (by kernel_rfl)
      (x := ([.agg [.nil, .nil]], [], [])) (by kernel_rfl) rfl (by kernel_rfl)) ?_
  intro W base args ds gs before hval hW _ hk _
  exact contract R H enc W base args ds gs before hval hW hk

set_option maxRecDepth 100000 in
theorem over (R : GroupsDone) : Rows.GroupsShowsUptoSaid :=
  OpenClaim.holds_of_cond 4 Try.f4 rfl rfl rfl rfl rfl rfl rfl ⟨rfl, rfl, rfl, rfl, rfl⟩ rfl rfl rfl rfl rfl (by kernel_rfl) Try.func4 (by kernel_rfl)
    (of_decide_eq_true (by kernel_rfl)) (by unfold Func.isWrapper; first | (rw [if_pos (by decide +kernel)]; kernel_rfl) | (rw [if_neg (by decide +kernel)]; exact ⟨rfl, rfl⟩))
    (fun os started H enc _ F => lifted R os started H enc F)

end Go.Proofs.Ytmgmgmbpldboiaa.GroupsShowsU
namespace Go.Proofs.Ytmgmgmbpldboiaa.GroupsTakes
open Go.ChangeShapes Go.WideShapes Go.ChangeAt Go.RowKit

end Go.Proofs.Ytmgmgmbpldboiaa.GroupsTakes
namespace Go.Proofs.Ytmgmgmbpldboiaa.GroupsPutsU
open Go.ChangeShapes Go.WideShapes Go.ChangeAt Go.RowKit

end Go.Proofs.Ytmgmgmbpldboiaa.GroupsPutsU
namespace Go.Proofs.Ytmgmgmbpldboiaa.GroupsGetsU
open Go.ChangeShapes Go.WideShapes Go.ChangeAt Go.RowKit

set_option maxRecDepth 100000 in
theorem contract (R : GroupsDone) (H : Type) (enc : TypeId × Value → H) (W : World) (base : Nat) (args : Array Value) (ds gs : List (DataW H)) (before : List MemPlace)
    (hval : ∀ (j : Nat) t v, Try.f5.params[j]? = some t → args[j]? = some v → Value.okWide Try.prog W .any base t v)
    (hW : DataW.Whole enc Try.prog Try.f5.params.toList Rows.groupsGetsSpec.vars false W args.toList ds gs before) (hk : Rows.uptoSmall H (ds ++ gs) = true) :
    Calls Try.prog 5 args W fun e W' => ∃ v, e = .returned v ∧ Rows.groupsGetsSpec.post enc Try.prog Try.f5 false true false false W args v W' := by
  have hW' := hW
  obtain ⟨p, q, hA0, hV, rfl, hfz, hnd⟩ := hW
  have hA : DataW.TrodAll enc Try.prog W 0 (fun _ => true) true Try.f5.params.toList args.toList ds p := hA0
  rw [Try.params5] at hA hval
  obtain ⟨v0, vs0, d0, ds0, p0, q0, hargs, rfl, rfl, h0, r0⟩ := trodAll_cons hA
  obtain ⟨v1, vs1, d1, ds1, p1, q1, rfl, rfl, rfl, h1, r1⟩ := trodAll_cons r0
  obtain ⟨v2, vs2, d2, ds2, p2, q2, rfl, rfl, rfl, h2, r2⟩ := trodAll_cons r1
  obtain ⟨rfl, rfl, rfl⟩ := trodAll_nil r2
  obtain rfl : args = #[v0, v1, v2] := by cases args; simp_all
  obtain ⟨rfl, rfl⟩ := trodVars_none hV
  obtain ⟨T0, P0, hp0, bt0, bp0, be0⟩ := open_plan_bulk (hval 0 32 v0 rfl rfl) h0
  obtain ⟨s1, rfl, rfl, rfl, ws1⟩ := Go.ChangeMaps.open_string Try.underlying9 (hval 1 9 v1 rfl rfl) h1
  obtain ⟨i2, rfl, rfl, rfl, w2⟩ := open_int Try.underlying3 (hval 2 3 v2 rfl rfl) h2
  have b2 := bounds_i64 w2
  clear hA0
  have fin : ∀ e W', (e = Ending.returned (.bool true) ∧ Below W.heap.size W W') → ∃ v, e = Ending.returned v ∧ Rows.groupsGetsSpec.post enc Try.prog Try.f5 false true false false W #[v0, .string s1, .int .i64 i2] v W' := by
    rintro e W' ⟨rfl, hb⟩
    exact ⟨_, rfl, law_done hW' rfl hb (by kernel_rfl) (by kernel_rfl) rfl⟩
  simp only [List.append_nil] at hk
  have hd : Rows.uptoBulk d0 ≤ 1048576 := by
    have h := of_decide_eq_true hk
    simp only [Rows.uptoBulkAll] at h
    omega
  have hs : SmallP T0 P0 := ⟨by omega, by omega, fun t ht => by have := be0 t ht; omega⟩
  have hl : s1.data.toList.length = s1.size := rfl
  have hl1 : s1.size ≤ 1048576 := by
    have h := of_decide_eq_true hk
    simp only [Rows.uptoBulkAll, Rows.uptoBulk, hl] at h
    omega
  exact (gets_law R W v0 T0 P0 hp0 hs s1 i2 (by unfold maxLen; omega) b2.1 b2.2).mono fin

set_option maxRecDepth 100000 in
theorem lifted (R : GroupsDone) (os : Os) (started : os.Started) (H : Type) (enc : TypeId × Value → H) (F : Stop.Interp) :
    ReturnsInHanded {} Try.checked os 5 .any ((Rows.OpenSpec.upto Rows.groupsGetsSpec).pre6 enc Try.prog Try.f5 Rows.groupsGetsUptoRow.domain false) (((Rows.OpenSpec.upto Rows.groupsGetsSpec).at F).post enc Try.prog Try.f5 false true false false) := by
  refine returnsInHanded_of_cond (C := Try.checked) (s := Rows.OpenSpec.upto Rows.groupsGetsSpec) (k := Rows.uptoSmall) rfl own started (by kernel_rfl) Try.func5
    (OpenSpec.witness (enc := enc) (C := Try.checked) (s := Rows.OpenSpec.upto Rows.groupsGetsSpec) (k := Rows.uptoSmall) rfl false ⟨#[], #[.agg #[.slice none 0 0, .slice none 0 0], .string ⟨#[]⟩, .int .i64 0], []⟩ 8 (by kernel_rfl) (by kernel_rfl) (by kernel_rfl)
      (x := ([.agg [.nil, .nil], .lit (.string []), .lit (.int .i64 0)], [], [])) (by kernel_rfl) rfl (by kernel_rfl)) ?_
  intro W base args ds gs before hval hW _ hk _
  exact contract R H enc W base args ds gs before hval hW hk

set_option maxRecDepth 100000 in
theorem over (R : GroupsDone) : Rows.GroupsGetsUptoSaid :=
  OpenClaim.holds_of_cond 5 Try.f5 rfl rfl rfl rfl rfl rfl rfl ⟨rfl, rfl, rfl, rfl, rfl⟩ rfl rfl rfl rfl rfl (by kernel_rfl) Try.func5 (by kernel_rfl)
    (of_decide_eq_true (by kernel_rfl)) (by unfold Func.isWrapper; first | (rw [if_pos (by decide +kernel)]; kernel_rfl) | (rw [if_neg (by decide +kernel)]; exact ⟨rfl, rfl⟩))
    (fun os started H enc _ F => lifted R os started H enc F)

end Go.Proofs.Ytmgmgmbpldboiaa.GroupsGetsU
namespace Go.Proofs.Ytmgmgmbpldboiaa.GroupsBack
open Go.ChangeShapes Go.WideShapes Go.ChangeAt Go.RowKit

end Go.Proofs.Ytmgmgmbpldboiaa.GroupsBack
namespace Go.Proofs.Ytmgmgmbpldboiaa.GroupsSizes
open Go.ChangeShapes Go.WideShapes Go.ChangeAt Go.RowKit

end Go.Proofs.Ytmgmgmbpldboiaa.GroupsSizes
