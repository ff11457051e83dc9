/- Af Aa Ag: texts laid together, what is not used left out. -/
import Derived.Test.YtmgmgmbpldboiaaZ17
import Derived.Sort.Grow
import Derived.Deep.RegionHeld3
import Derived.Test.YtmgmgmbpldboiaaZ03
import Derived.Test.YtmgmgmbpldboiaaLx
import Derived.Shelf.SlSortCmp.WholeK
namespace Go.Proofs.Ytmgmgmbpldboiaa
open Go.RowKit Go.Sort

/-- Two ints compared. -/
def cmpI (a b : Int) : Int := if a < b then -1 else if b < a then 1 else 0
set_option maxRecDepth 100000 in
set_option maxHeartbeats 1600000 in
theorem cmpint_any (w : World) (a b : Int) : Calls Try.prog 81 #[.int .i64 a, .int .i64 b] w fun e w' => e = .returned (.int .i64 (cmpI a b)) ∧ w = w' := by
  obtain ⟨v, hv⟩ : ∃ v, v = cmpI a b := ⟨_, rfl⟩
  have HV := Lib.hid hv
  unfold cmpI at hv
  by_cases h1 : a < b
  · rw [if_pos h1] at hv
    have HW := Lib.hid hv
    clear hv
    have d1 : decide (a < b) = true := decide_eq_true h1
    go_enter Try.func81, Try.ntmps81
    go_wp2
    go_ret
    exact ⟨by rw [← HV.out, HW.out]; rfl, rfl⟩
  · by_cases h2 : b < a
    · rw [if_neg h1, if_pos h2] at hv
      have HW := Lib.hid hv
      clear hv
      have d1 : decide (a < b) = false := decide_eq_false h1
      have d2 : decide (b < a) = true := decide_eq_true h2
      go_enter Try.func81, Try.ntmps81
      go_wp2
      go_ret
      exact ⟨by rw [← HV.out, HW.out]; rfl, rfl⟩
    · rw [if_neg h1, if_neg h2] at hv
      have HW := Lib.hid hv
      clear hv
      have d1 : decide (a < b) = false := decide_eq_false h1
      have d2 : decide (b < a) = false := decide_eq_false h2
      go_enter Try.func81, Try.ntmps81
      go_wp2
      go_ret
      exact ⟨by rw [← HV.out, HW.out]; rfl, rfl⟩


theorem cell_pair0 (w : World) (u v : Value) (t : TypeId) : (w.alloc (.cells #[u, v] t)).cell? ⟨w.heap.size, 0, none⟩ = some u := by
  rw [blk_cell (blk_new w t _)]
  rfl
theorem cell_pair1 (w : World) (u v : Value) (t : TypeId) : (w.alloc (.cells #[u, v] t)).cell? ⟨w.heap.size, 1, none⟩ = some v := by
  rw [blk_cell (blk_new w t _)]
  rfl

theorem cell_alloc_lt (w : World) (o : Obj) (p : Addr) (h : p.block < w.heap.size) : (w.alloc o).cell? p = w.cell? p := ((Below.refl w.heap.size w).alloc (Nat.le_refl _) o).cell h

set_option maxHeartbeats 1600000 in
set_option maxRecDepth 100000 in
/-- The first that is not 0. -/
theorem or_any (w : World) (b off c : Nat) (u v : Int) (h0 : w.cell? ⟨b, off, none⟩ = some (.int .i64 u)) (h1 : w.cell? ⟨b, off + 1, none⟩ = some (.int .i64 v)) :
    Calls Try.prog 80 #[.slice (some ⟨b, off, none⟩) 2 c] w fun e w' => e = .returned (.int .i64 (if u = 0 then v else u)) ∧ w = w' := by
  by_cases e : u = 0
  · rw [if_pos e]
    have d1 : (u != 0) = false := by rw [e]; rfl
    have d1' : (u == 0) = true := by rw [e]; rfl
    have E := Lib.hid e
    clear e
    by_cases e2 : v = 0
    · have d2 : (v != 0) = false := by rw [e2]; rfl
      have d2' : (v == 0) = true := by rw [e2]; rfl
      have E2 := Lib.hid e2
      clear e2
      go_enter Try.func80, Try.ntmps80
      go_wp2_with fail
      go_loopw [5, 8] (fun x i wx => ∃ q : Nat, q ≤ 2 ∧ i = .int .i64 q ∧ wx = w) (fun _ i _ => 2 - (intOf i).toNat)
      case atStart => exact ⟨0, by omega, rfl, rfl⟩
      case round =>
        obtain ⟨q, hq, rfl, rfl⟩ := hrel
        match q, hq with
        | 0, _ =>
          go_wp2_with fail
          go_roundw
          case rel => exact ⟨1, by omega, by go_num, trivial⟩
          case measure => simp [intOf]
        | 1, _ =>
          go_wp2_with fail
          go_roundw
          case rel => exact ⟨2, by omega, by go_num, trivial⟩
          case measure => simp [intOf]
        | 2, _ =>
          go_wp2_with fail
          go_ret
          exact ⟨by rw [E2.out]; rfl, rfl⟩
    · have d2 : (v != 0) = true := by simpa using e2
      have d2' : (v == 0) = false := by simpa using e2
      clear e2
      go_enter Try.func80, Try.ntmps80
      go_wp2_with fail
      go_loopw [5, 8] (fun x i wx => ∃ q : Nat, q ≤ 1 ∧ i = .int .i64 q ∧ wx = w) (fun _ i _ => 2 - (intOf i).toNat)
      case atStart => exact ⟨0, by omega, rfl, rfl⟩
      case round =>
        obtain ⟨q, hq, rfl, rfl⟩ := hrel
        match q, hq with
        | 0, _ =>
          go_wp2_with fail
          go_roundw
          case rel => exact ⟨1, by omega, by go_num, trivial⟩
          case measure => simp [intOf]
        | 1, _ =>
          go_wp2_with fail
          go_ret
          exact ⟨rfl, rfl⟩
  · rw [if_neg e]
    have d1 : (u != 0) = true := by simpa using e
    have d1' : (u == 0) = false := by simpa using e
    clear e
    go_enter Try.func80, Try.ntmps80
    go_wp2_with fail
    go_loopw [5, 8] (fun x i wx => i = .int .i64 0 ∧ wx = w) (fun _ i _ => 2 - (intOf i).toNat)
    case atStart => exact ⟨rfl, rfl⟩
    case round =>
      obtain ⟨rfl, rfl⟩ := hrel
      go_wp2_with fail
      go_ret
      exact ⟨rfl, rfl⟩

def riseI (x y : Int × Int) : Int := if cmpI x.1 y.1 = 0 then cmpI x.2 y.2 else cmpI x.1 y.1
def fallI (x y : Int × Int) : Int := if cmpI y.1 x.1 = 0 then cmpI x.2 y.2 else cmpI y.1 x.1

set_option maxHeartbeats 1600000 in
set_option maxRecDepth 100000 in
theorem falling_any (x y : Int × Int) (w : World) : Calls Try.prog 66 #[.agg #[.int .i64 x.1, .int .i64 x.2], .agg #[.int .i64 y.1, .int .i64 y.2]] w fun e w' => e = .returned (.int .i64 (fallI x y)) ∧ ∃ q os', w' = grow (w.drewN q) os' := by
  have HC := Lib.hid fun w1 : World => cmpint_any w1 y.1 x.1
  have HD := Lib.hid fun w1 : World => cmpint_any w1 x.2 y.2
  unfold fallI
  generalize cmpI y.1 x.1 = a at *
  generalize cmpI x.2 y.2 = b at *
  have HO := Lib.hid fun (w1 : World) (g : Nat) => or_any w1 g 0 2 a b
  generalize (if a = 0 then b else a) = r at *
  obtain ⟨x1, x2⟩ := x
  obtain ⟨y1, y2⟩ := y
  dsimp only at *
  go_enter Try.func66, Try.ntmps66
  go_wp2_with fail
  obtain ⟨w1, hw1⟩ : ∃ w1, w1 = (w.alloc (.cells #[.int .i64 x1, .int .i64 x2] 108)).alloc (.cells #[.int .i64 y1, .int .i64 y2] 108) := ⟨_, rfl⟩
  have q0 : w1.cell? ⟨w.heap.size, 0, none⟩ = some (.int .i64 x1) := by rw [hw1]; exact (cell_alloc_lt _ _ _ (by simp)).trans (cell_pair0 _ _ _ _)
  have q1 : w1.cell? ⟨w.heap.size, 1, none⟩ = some (.int .i64 x2) := by rw [hw1]; exact (cell_alloc_lt _ _ _ (by simp)).trans (cell_pair1 _ _ _ _)
  have q2 : w1.cell? ⟨w.heap.size + 1, 0, none⟩ = some (.int .i64 y1) := by rw [hw1]; simp
  have q3 : w1.cell? ⟨w.heap.size + 1, 1, none⟩ = some (.int .i64 y2) := by rw [hw1]; simp
  have HW : Hid (∃ os', w1 = grow w os') := Lib.hid ⟨_, by rw [hw1, alloc_eq_grow, alloc_eq_grow, grow_grow]⟩
  have hz : w1.heap.size = w.heap.size + 2 := by rw [hw1]; simp
  have z0 : w.heap.size < w1.heap.size := by omega
  have z1 : w.heap.size + 1 < w1.heap.size := by omega
  have o0 : w1.drew.cell? ⟨w.heap.size, 0, none⟩ = some (.int .i64 x1) := q0
  have o1 : w1.drew.cell? ⟨w.heap.size, 1, none⟩ = some (.int .i64 x2) := q1
  have o2 : w1.drew.cell? ⟨w.heap.size + 1, 0, none⟩ = some (.int .i64 y1) := q2
  have o3 : w1.drew.cell? ⟨w.heap.size + 1, 1, none⟩ = some (.int .i64 y2) := q3
  have p0 : (w1.alloc (.cells #[.int .i64 a, .int .i64 b] 3)).drew.cell? ⟨w.heap.size, 0, none⟩ = some (.int .i64 x1) := (cell_alloc_lt w1 _ ⟨w.heap.size, 0, none⟩ z0).trans q0
  have p1 : (w1.alloc (.cells #[.int .i64 a, .int .i64 b] 3)).drew.cell? ⟨w.heap.size, 1, none⟩ = some (.int .i64 x2) := (cell_alloc_lt w1 _ ⟨w.heap.size, 1, none⟩ z0).trans q1
  have p2 : (w1.alloc (.cells #[.int .i64 a, .int .i64 b] 3)).drew.cell? ⟨w.heap.size + 1, 0, none⟩ = some (.int .i64 y1) := (cell_alloc_lt w1 _ ⟨w.heap.size + 1, 0, none⟩ z1).trans q2
  have p3 : (w1.alloc (.cells #[.int .i64 a, .int .i64 b] 3)).drew.cell? ⟨w.heap.size + 1, 1, none⟩ = some (.int .i64 y2) := (cell_alloc_lt w1 _ ⟨w.heap.size + 1, 1, none⟩ z1).trans q3
  have r0 : (w1.alloc (.cells #[.int .i64 a, .int .i64 b] 3)).drew.cell? ⟨w1.heap.size, 0, none⟩ = some (.int .i64 a) := cell_pair0 w1 _ _ _
  have r1 : (w1.alloc (.cells #[.int .i64 a, .int .i64 b] 3)).drew.cell? ⟨w1.heap.size, 0 + 1, none⟩ = some (.int .i64 b) := cell_pair1 w1 _ _ _
  rw [← hw1]
  clear hw1 hz
  go_region_held3 (fun w' => w'.cell? ⟨w.heap.size, 0, none⟩ = some (.int .i64 x1) ∧ w'.cell? ⟨w.heap.size, 1, none⟩ = some (.int .i64 x2) ∧ w'.cell? ⟨w.heap.size + 1, 0, none⟩ = some (.int .i64 y1) ∧ w'.cell? ⟨w.heap.size + 1, 1, none⟩ = some (.int .i64 y2))
    (first | with_reducible exact ⟨q0, q1, q2, q3⟩ | with_reducible exact ⟨o0, o1, o2, o3⟩ | with_reducible exact ⟨p0, p1, p2, p3⟩)
    (first
      | (go_at_call 81; with_reducible refine (HC.out _).mono ?_; rintro e w2 ⟨rfl, rfl⟩)
      | (go_at_call 81; with_reducible refine (HD.out _).mono ?_; rintro e w2 ⟨rfl, rfl⟩)
      | (go_at_call 80; with_reducible refine (HO.out _ _ r0 r1).mono ?_; rintro e w2 ⟨rfl, rfl⟩))
  clear o0 o1 o2 o3 p0 p1 p2 p3 r0 r1 q0 q1 q2 q3 HO HC HD
  go_wp2_with fail
  go_ret
  obtain ⟨os', rfl⟩ := HW.out
  exact ⟨rfl, 1, _, by rw [alloc_eq_grow, drew_grow, drew_grow, grow_grow]; rfl⟩

end Go.Proofs.Ytmgmgmbpldboiaa
namespace Go.Proofs.Ytmgmgmbpldboiaa

/-- A tree in a row: its weight, its number. -/
def Fst (x y : Nat × Nat) : Prop := x.1 < y.1 ∨ (x.1 = y.1 ∧ x.2 < y.2)
theorem Fst.trans {x y z : Nat × Nat} (h : Fst x y) (k : Fst y z) : Fst x z := by
  unfold Fst at *
  omega
/-- Two rows: the symbols that are in no tree, and the trees that were made and are in none; b: what none is below. -/
structure Two (n k : Nat) (ws ov : Nat → Nat) (S M : List (Nat × Nat)) (b : Nat) : Prop where
  sm : ∀ t ∈ S, t.2 < n ∧ ov t.2 = 0 ∧ t.1 = ws t.2
  sa : ∀ j, j < n → ov j = 0 → (ws j, j) ∈ S
  so : S.Pairwise Fst
  mm : ∀ t ∈ M, n ≤ t.2 ∧ t.2 < k ∧ ov t.2 = 0 ∧ t.1 = ws t.2
  ma : ∀ j, n ≤ j → j < k → ov j = 0 → (ws j, j) ∈ M
  mo : M.Pairwise Fst
  low : ∀ t, t ∈ S ∨ t ∈ M → b ≤ t.1
  top : ∀ t ∈ M, t.1 ≤ 2 * b

/-- Rows in the order by falling weights: a tree's place is how many stand ahead of it. -/
def Fall (x y : Nat × Nat) : Prop := y.1 < x.1 ∨ (x.1 = y.1 ∧ x.2 < y.2)
instance (x y : Nat × Nat) : Decidable (Fall x y) := by unfold Fall; infer_instance
set_option maxRecDepth 100000 in
theorem count_place : ∀ (S : List (Nat × Nat)), S.Pairwise Fall → ∀ i x, S[i]? = some x → S.countP (fun y => decide (Fall y x)) = i
  | [], _, i, x, h => by simp at h
  | y :: S, h, i, x, hx => by
    obtain ⟨h1, h2⟩ := List.pairwise_cons.1 h
    rw [List.countP_cons]
    match i, hx with
    | 0, hx =>
      simp at hx
      subst hx
      have h3 : S.countP (fun z => decide (Fall z y)) = 0 := by
        rw [List.countP_eq_zero]
        intro z hz
        have := h1 z hz
        simp only [decide_eq_true_eq]
        unfold Fall at *
        omega
      rw [h3]
      have : ¬ Fall y y := by unfold Fall; omega
      simp [this]
    | i + 1, hx =>
      simp at hx
      have h3 := count_place S h2 i x hx
      have h4 : Fall y x := h1 x (List.mem_of_getElem? hx)
      rw [h3]
      simp [h4]
set_option maxRecDepth 100000 in
theorem place_front (w : List Nat) (S : List (Nat × Nat)) (hp : S.Perm ((List.range w.length).map fun i => (w.getD i 0, i))) (hs : S.Pairwise Fall) (i : Nat) (x : Nat × Nat) (hx : S[i]? = some x) : x.2 < w.length ∧ front w x.2 = i := by
  obtain ⟨j, hj, rfl⟩ := List.mem_map.1 (hp.mem_iff.1 (List.mem_of_getElem? hx))
  refine ⟨List.mem_range.1 hj, ?_⟩
  have h1 := count_place S hs i _ hx
  rw [hp.countP_eq, List.countP_map] at h1
  unfold front
  rw [← h1]
  refine List.countP_congr fun q _ => ?_
  simp only [Function.comp, Fall]

end Go.Proofs.Ytmgmgmbpldboiaa
namespace Go.Proofs.Ytmgmgmbpldboiaa
open Go.RowKit

/-- A tree's two cells. -/
def encN (x : Nat × Nat) : List Value := [.int .i64 x.1, .int .i64 x.2]
/-- Block g is a row of trees that begins with T. -/
def TRow (w : World) (g : Nat) (T : List (Nat × Nat)) : Prop :=
  ∃ cs, Blk w g 108 cs ∧ ∀ i, i < T.length → cs[i * 2]? = some (.int .i64 (T.getD i (0, 0)).1) ∧ cs[i * 2 + 1]? = some (.int .i64 (T.getD i (0, 0)).2)
theorem TRow.cell0 {w : World} {g : Nat} {T : List (Nat × Nat)} (h : TRow w g T) {i : Nat} (hi : i < T.length) : w.cell? ⟨g, i * 2, none⟩ = some (.int .i64 (T.getD i (0, 0)).1) := by
  obtain ⟨cs, hb, hc⟩ := h
  rw [blk_cell hb, (hc i hi).1]
theorem TRow.cell1 {w : World} {g : Nat} {T : List (Nat × Nat)} (h : TRow w g T) {i : Nat} (hi : i < T.length) : w.cell? ⟨g, i * 2 + 1, none⟩ = some (.int .i64 (T.getD i (0, 0)).2) := by
  obtain ⟨cs, hb, hc⟩ := h
  rw [blk_cell hb, (hc i hi).2]
theorem TRow.frozen {w : World} {g : Nat} {T : List (Nat × Nat)} (h : TRow w g T) (i : Nat) : w.frozen? ⟨g, i, none⟩ = false := by
  obtain ⟨cs, hb, hc⟩ := h
  exact blk_frozen hb i
theorem TRow.lt {w : World} {g : Nat} {T : List (Nat × Nat)} (h : TRow w g T) : g < w.heap.size := by
  obtain ⟨cs, hb, hc⟩ := h
  exact blk_lt hb
set_option maxRecDepth 100000 in
theorem getB (T : List (Nat × Nat)) (i : Nat) (h : i < T.length) : T.toArray[i]! = T.getD i (0, 0) := by
  rw [List.getD_eq_getElem?_getD, List.getElem?_eq_getElem h]
  simp [h]
set_option maxRecDepth 100000 in
theorem holds_trow {w : World} {g : Nat} {T : List (Nat × Nat)} (h : TRow w g T) : Go.Sort.HoldsK encN 2 w g 0 T.toArray := by
  intro t ht
  have ht2 : t < T.length * 2 := by simpa using ht
  have hi : t / 2 < T.length := by omega
  refine ⟨?_, h.frozen _⟩
  rw [Go.Sort.get_flatK encN 2 T.toArray t (by simpa using ht2), getB T _ hi, Nat.zero_add]
  by_cases e : t % 2 = 0
  · have h1 := h.cell0 hi
    rw [show t / 2 * 2 = t by omega] at h1
    rw [h1, e]
    rfl
  · have h1 := h.cell1 hi
    rw [show t / 2 * 2 + 1 = t by omega] at h1
    rw [h1, show t % 2 = 1 by omega]
    rfl

set_option maxRecDepth 100000 in
/-- A world that the sort passes through: the row's block is a block still, and all else is as it was. -/
theorem sort_world {w : World} {g : Nat} {T : List (Nat × Nat)} (h : TRow w g T) (n : Nat) (d : Array (Nat × Nat)) (os : Array Obj) (hs : d.size = T.length) (B : Nat) (hB : B ≤ g) :
    TRow (sortWorldK encN 2 w g 0 n d os) g d.toList ∧ Step B [g] [] w (sortWorldK encN 2 w g 0 n d os) := by
  have hlt := h.lt
  have hH := holdsK_sortWorldK_c encN 2 w g 0 T.toArray d n os (holds_trow h) hlt (by simpa using hs)
  have hz := size_sortWorldK_c encN 2 w g 0 n d os
  have hold : ∀ k, k < w.heap.size → k ≠ g → (sortWorldK encN 2 w g 0 n d os).heap[k]? = w.heap[k]? := by
    intro k hk hne
    unfold sortWorldK Go.Sort.putRowK Go.Sort.putRow Go.Sort.mapBlock Go.Sort.grow Go.Sort.ahead
    dsimp only
    rw [Array.getElem?_append_left (by simpa using hk), Array.getElem?_modify, if_neg (fun e => hne e.symm)]
  have hown : ∃ cs', Blk (sortWorldK encN 2 w g 0 n d os) g 108 cs' := by
    obtain ⟨cs, hb, _⟩ := h
    unfold Blk at hb ⊢
    unfold sortWorldK Go.Sort.putRowK Go.Sort.putRow Go.Sort.mapBlock Go.Sort.grow Go.Sort.ahead
    dsimp only
    rw [Array.getElem?_append_left (by simpa using hlt), Array.getElem?_modify, if_pos rfl, hb]
    exact ⟨_, rfl⟩
  refine ⟨?_, ⟨⟨rfl, rfl, rfl, hz, fun k hk => hold k (by omega) (by omega)⟩, fun k cs t fr hh hk _ => (hold k (Array.getElem?_eq_some_iff.1 hh).1 (by simpa using hk)).trans hh⟩⟩
  obtain ⟨cs', hb'⟩ := hown
  refine ⟨cs', hb', fun i hi => ?_⟩
  have hi2 : i < d.size := by simpa using hi
  have e : d[i]! = d.toList.getD i (0, 0) := by
    rw [← getB d.toList i hi]
  have h0 := (Go.Sort.HoldsK.cell hH hi2 (c := 0) (by omega)).1
  have h1 := (Go.Sort.HoldsK.cell hH hi2 (c := 1) (by omega)).1
  rw [blk_cell hb', Nat.zero_add, e] at h0 h1
  exact ⟨h0, h1⟩

set_option maxRecDepth 100000 in
theorem sort_any (cf : Nat × Nat → Nat × Nat → Int) (R : Nat × Nat → Nat × Nat → Prop) (fn : Nat) (eg : ∀ args w, (callFunc fn args).run Try.prog w = .ok (.enter fn args) w)
    (hc : ∀ (x y : Nat × Nat) (w : World), Calls Try.prog fn #[.agg #[.int .i64 x.1, .int .i64 x.2], .agg #[.int .i64 y.1, .int .i64 y.2]] w fun e w' => e = .returned (.int .i64 (cf x y)) ∧ ∃ q os', w' = Go.Sort.grow (w.drewN q) os')
    (hR : ∀ x y, cf x y < 0 ↔ R x y) (hirr : ∀ x, ¬ R x x) (htr : ∀ x y z, R x y → R y z → R x z) (hnt : ∀ x y z, ¬ R x y → ¬ R y z → ¬ R x z) (htot : ∀ x y, ¬ R x y → x.2 ≠ y.2 → R y x)
    (w : World) (B g c : Nat) (T : List (Nat × Nat)) (h : TRow w g T) (hB : B ≤ g) (hn : T.length ≤ 1000000) (hd : (T.map Prod.snd).Nodup) :
    Calls Try.prog 65 #[.slice (some ⟨g, 0, none⟩) T.length c, .func (.func fn) #[] #[]] w fun e w' => e = .returned (.tuple #[]) ∧ ∃ T', T'.Perm T ∧ T'.Pairwise R ∧ TRow w' g T' ∧ Step B [g] [] w w' := by
  have hlt : ∀ x y, ltOf cf x y = true ↔ R x y := fun x y => by
    unfold ltOf
    rw [decide_eq_true_eq]
    exact hR x y
  have hlf : ∀ x y, ltOf cf x y = false ↔ ¬ R x y := fun x y => by rw [← hlt, Bool.not_eq_true]
  have hO : Go.Sort.SWO (ltOf cf) := by
    refine ⟨fun x => (hlf x x).2 (hirr x), fun x y z h1 h2 => (hlt x z).2 (htr x y z ((hlt x y).1 h1) ((hlt y z).1 h2)), fun x y z h1 h2 => (hlf x z).2 (hnt x y z ((hlf x y).1 h1) ((hlf y z).1 h2))⟩
  have hS := AnyQ.slices_SortFunc Try.laysSort 2 Try.isAgg108 Try.sizeOf108 encN (fun _ => rfl) (fun x v hv => by simp [encN] at hv; rcases hv with rfl | rfl <;> rfl) cf hO fn #[] g 0 c T.toArray w eg
    (fun m os dk _ x y => hc x y _) (holds_trow h) h.lt (by simp; omega)
  have hsz : T.toArray.size = T.length := by simp
  rw [hsz] at hS
  refine hS.mono ?_
  rintro e w' ⟨rfl, d', n, os, hp, hs, rfl⟩
  have hds : d'.size = T.length := by rw [hp.1, hsz]
  have hperm : d'.toList.Perm T := by
    have := hp.2.2
    rw [← hds, Array.extract_size, hds, ← hsz, Array.extract_size] at this
    simpa using this
  obtain ⟨h1, h2⟩ := sort_world h n d' os hds B hB
  refine ⟨rfl, d'.toList, hperm, ?_, h1, h2⟩
  have hnd : (d'.toList.map Prod.snd).Nodup := (hperm.map _).nodup_iff.2 hd
  rw [List.pairwise_iff_getElem]
  intro i j hi hj hij
  have hi2 : i < d'.size := by simpa using hi
  have hj2 : j < d'.size := by simpa using hj
  have h3 := hs i j (Nat.zero_le _) hij (by omega)
  have h4 := (hlf _ _).1 h3
  rw [getElem!_pos d' i hi2, getElem!_pos d' j hj2] at h4
  have hne : d'[j].2 ≠ d'[i].2 := by
    intro e
    rw [List.nodup_iff_pairwise_ne, List.pairwise_iff_getElem] at hnd
    have := hnd i j (by simpa using hi) (by simpa using hj) hij
    simp at this
    exact this e.symm
  have h5 := htot _ _ h4 hne
  simpa using h5

theorem cmpI_neg (a b : Int) : cmpI a b < 0 ↔ a < b := by
  unfold cmpI
  by_cases h1 : a < b
  · rw [if_pos h1]; omega
  · by_cases h2 : b < a
    · rw [if_neg h1, if_pos h2]; omega
    · rw [if_neg h1, if_neg h2]; omega
theorem cmpI_zero (a b : Int) : cmpI a b = 0 ↔ a = b := by
  unfold cmpI
  by_cases h1 : a < b
  · rw [if_pos h1]; omega
  · by_cases h2 : b < a
    · rw [if_neg h1, if_pos h2]; omega
    · rw [if_neg h1, if_neg h2]; omega
def riseN (x y : Nat × Nat) : Int := riseI ((x.1 : Int), (x.2 : Int)) ((y.1 : Int), (y.2 : Int))
def fallN (x y : Nat × Nat) : Int := fallI ((x.1 : Int), (x.2 : Int)) ((y.1 : Int), (y.2 : Int))
set_option maxRecDepth 100000 in
theorem fall_fall (x y : Nat × Nat) : fallN x y < 0 ↔ Fall x y := by
  unfold fallN fallI Fall
  dsimp only
  by_cases e : cmpI (y.1 : Int) (x.1 : Int) = 0
  · rw [if_pos e, cmpI_neg]
    have := (cmpI_zero _ _).1 e
    omega
  · rw [if_neg e, cmpI_neg]
    have := mt (cmpI_zero (y.1 : Int) (x.1 : Int)).2 e
    omega

theorem sort_falling (w : World) (B g c : Nat) (T : List (Nat × Nat)) (h : TRow w g T) (hB : B ≤ g) (hn : T.length ≤ 1000000) (hd : (T.map Prod.snd).Nodup) :
    Calls Try.prog 65 #[.slice (some ⟨g, 0, none⟩) T.length c, .func (.func 66) #[] #[]] w fun e w' => e = .returned (.tuple #[]) ∧ ∃ T', T'.Perm T ∧ T'.Pairwise Fall ∧ TRow w' g T' ∧ Step B [g] [] w w' :=
  sort_any fallN Fall 66 (enters_of Try.func66 (by kernel_rfl) rfl) (fun x y w => falling_any _ _ w) fall_fall (fun x => by unfold Fall; omega) (fun x y z => by unfold Fall; omega) (fun x y z => by unfold Fall; omega) (fun x y => by unfold Fall; omega) w B g c T h hB hn hd

end Go.Proofs.Ytmgmgmbpldboiaa
