/- Af Aa: texts laid together, what is not used left out. -/
import Derived.Test.YtmgmgmbpldboiaaGreatZ25
import Derived.Sort.Grow
import Derived.Deep.RegionHeld3
import Derived.Test.YtmgmgmbpldboiaaGreatZ03
namespace Go.Proofs.YtmgmgmbpldboiaaGreat
open Go.RowKit Go.Sort

/-- Two ints compared. -/
def cmpI (a b : Int) : Int := if a < b then -1 else if b < a then 1 else 0
set_option maxRecDepth 100000 in
set_option maxHeartbeats 1600000 in
theorem cmpint_any (w : World) (a b : Int) : Calls Tryz.prog 124 #[.int .i64 a, .int .i64 b] w fun e w' => e = .returned (.int .i64 (cmpI a b)) ∧ w = w' := by
  obtain ⟨v, hv⟩ : ∃ v, v = cmpI a b := ⟨_, rfl⟩
  have HV := Lib.hid hv
  unfold cmpI at hv
  by_cases h1 : a < b
  · rw [if_pos h1] at hv
    have HW := Lib.hid hv
    clear hv
    have d1 : decide (a < b) = true := decide_eq_true h1
    go_enter Tryz.func124, Tryz.ntmps124
    go_wp2
    go_ret
    exact ⟨by rw [← HV.out, HW.out]; rfl, rfl⟩
  · by_cases h2 : b < a
    · rw [if_neg h1, if_pos h2] at hv
      have HW := Lib.hid hv
      clear hv
      have d1 : decide (a < b) = false := decide_eq_false h1
      have d2 : decide (b < a) = true := decide_eq_true h2
      go_enter Tryz.func124, Tryz.ntmps124
      go_wp2
      go_ret
      exact ⟨by rw [← HV.out, HW.out]; rfl, rfl⟩
    · rw [if_neg h1, if_neg h2] at hv
      have HW := Lib.hid hv
      clear hv
      have d1 : decide (a < b) = false := decide_eq_false h1
      have d2 : decide (b < a) = false := decide_eq_false h2
      go_enter Tryz.func124, Tryz.ntmps124
      go_wp2
      go_ret
      exact ⟨by rw [← HV.out, HW.out]; rfl, rfl⟩


theorem cell_pair0 (w : World) (u v : Value) (t : TypeId) : (w.alloc (.cells #[u, v] t)).cell? ⟨w.heap.size, 0, none⟩ = some u := by
  rw [blk_cell (blk_new w t _)]
  rfl
theorem cell_pair1 (w : World) (u v : Value) (t : TypeId) : (w.alloc (.cells #[u, v] t)).cell? ⟨w.heap.size, 1, none⟩ = some v := by
  rw [blk_cell (blk_new w t _)]
  rfl

theorem cell_alloc_lt (w : World) (o : Obj) (p : Addr) (h : p.block < w.heap.size) : (w.alloc o).cell? p = w.cell? p := ((Below.refl w.heap.size w).alloc (Nat.le_refl _) o).cell h

set_option maxHeartbeats 1600000 in
set_option maxRecDepth 100000 in
/-- The first that is not 0. -/
theorem or_any (w : World) (b off c : Nat) (u v : Int) (h0 : w.cell? ⟨b, off, none⟩ = some (.int .i64 u)) (h1 : w.cell? ⟨b, off + 1, none⟩ = some (.int .i64 v)) :
    Calls Tryz.prog 123 #[.slice (some ⟨b, off, none⟩) 2 c] w fun e w' => e = .returned (.int .i64 (if u = 0 then v else u)) ∧ w = w' := by
  by_cases e : u = 0
  · rw [if_pos e]
    have d1 : (u != 0) = false := by rw [e]; rfl
    have d1' : (u == 0) = true := by rw [e]; rfl
    have E := Lib.hid e
    clear e
    by_cases e2 : v = 0
    · have d2 : (v != 0) = false := by rw [e2]; rfl
      have d2' : (v == 0) = true := by rw [e2]; rfl
      have E2 := Lib.hid e2
      clear e2
      go_enter Tryz.func123, Tryz.ntmps123
      go_wp2_with fail
      go_loopw [5, 8] (fun x i wx => ∃ q : Nat, q ≤ 2 ∧ i = .int .i64 q ∧ wx = w) (fun _ i _ => 2 - (intOf i).toNat)
      case atStart => exact ⟨0, by omega, rfl, rfl⟩
      case round =>
        obtain ⟨q, hq, rfl, rfl⟩ := hrel
        match q, hq with
        | 0, _ =>
          go_wp2_with fail
          go_roundw
          case rel => exact ⟨1, by omega, by go_num, trivial⟩
          case measure => simp [intOf]
        | 1, _ =>
          go_wp2_with fail
          go_roundw
          case rel => exact ⟨2, by omega, by go_num, trivial⟩
          case measure => simp [intOf]
        | 2, _ =>
          go_wp2_with fail
          go_ret
          exact ⟨by rw [E2.out]; rfl, rfl⟩
    · have d2 : (v != 0) = true := by simpa using e2
      have d2' : (v == 0) = false := by simpa using e2
      clear e2
      go_enter Tryz.func123, Tryz.ntmps123
      go_wp2_with fail
      go_loopw [5, 8] (fun x i wx => ∃ q : Nat, q ≤ 1 ∧ i = .int .i64 q ∧ wx = w) (fun _ i _ => 2 - (intOf i).toNat)
      case atStart => exact ⟨0, by omega, rfl, rfl⟩
      case round =>
        obtain ⟨q, hq, rfl, rfl⟩ := hrel
        match q, hq with
        | 0, _ =>
          go_wp2_with fail
          go_roundw
          case rel => exact ⟨1, by omega, by go_num, trivial⟩
          case measure => simp [intOf]
        | 1, _ =>
          go_wp2_with fail
          go_ret
          exact ⟨rfl, rfl⟩
  · rw [if_neg e]
    have d1 : (u != 0) = true := by simpa using e
    have d1' : (u == 0) = false := by simpa using e
    clear e
    go_enter Tryz.func123, Tryz.ntmps123
    go_wp2_with fail
    go_loopw [5, 8] (fun x i wx => i = .int .i64 0 ∧ wx = w) (fun _ i _ => 2 - (intOf i).toNat)
    case atStart => exact ⟨rfl, rfl⟩
    case round =>
      obtain ⟨rfl, rfl⟩ := hrel
      go_wp2_with fail
      go_ret
      exact ⟨rfl, rfl⟩

def riseI (x y : Int × Int) : Int := if cmpI x.1 y.1 = 0 then cmpI x.2 y.2 else cmpI x.1 y.1
def fallI (x y : Int × Int) : Int := if cmpI y.1 x.1 = 0 then cmpI x.2 y.2 else cmpI y.1 x.1

set_option maxHeartbeats 1600000 in
set_option maxRecDepth 100000 in
theorem rising_any (x y : Int × Int) (w : World) : Calls Tryz.prog 151 #[.agg #[.int .i64 x.1, .int .i64 x.2], .agg #[.int .i64 y.1, .int .i64 y.2]] w fun e w' => e = .returned (.int .i64 (riseI x y)) ∧ ∃ q os', w' = grow (w.drewN q) os' := by
  have HC := Lib.hid fun w1 : World => cmpint_any w1 x.1 y.1
  have HD := Lib.hid fun w1 : World => cmpint_any w1 x.2 y.2
  unfold riseI
  generalize cmpI x.1 y.1 = a at *
  generalize cmpI x.2 y.2 = b at *
  have HO := Lib.hid fun (w1 : World) (g : Nat) => or_any w1 g 0 2 a b
  generalize (if a = 0 then b else a) = r at *
  obtain ⟨x1, x2⟩ := x
  obtain ⟨y1, y2⟩ := y
  dsimp only at *
  go_enter Tryz.func151, Tryz.ntmps151
  go_wp2_with fail
  obtain ⟨w1, hw1⟩ : ∃ w1, w1 = (w.alloc (.cells #[.int .i64 x1, .int .i64 x2] 111)).alloc (.cells #[.int .i64 y1, .int .i64 y2] 111) := ⟨_, rfl⟩
  have q0 : w1.cell? ⟨w.heap.size, 0, none⟩ = some (.int .i64 x1) := by rw [hw1]; exact (cell_alloc_lt _ _ _ (by simp)).trans (cell_pair0 _ _ _ _)
  have q1 : w1.cell? ⟨w.heap.size, 1, none⟩ = some (.int .i64 x2) := by rw [hw1]; exact (cell_alloc_lt _ _ _ (by simp)).trans (cell_pair1 _ _ _ _)
  have q2 : w1.cell? ⟨w.heap.size + 1, 0, none⟩ = some (.int .i64 y1) := by rw [hw1]; simp
  have q3 : w1.cell? ⟨w.heap.size + 1, 1, none⟩ = some (.int .i64 y2) := by rw [hw1]; simp
  have HW : Hid (∃ os', w1 = grow w os') := Lib.hid ⟨_, by rw [hw1, alloc_eq_grow, alloc_eq_grow, grow_grow]⟩
  have hz : w1.heap.size = w.heap.size + 2 := by rw [hw1]; simp
  have z0 : w.heap.size < w1.heap.size := by omega
  have z1 : w.heap.size + 1 < w1.heap.size := by omega
  have o0 : w1.drew.cell? ⟨w.heap.size, 0, none⟩ = some (.int .i64 x1) := q0
  have o1 : w1.drew.cell? ⟨w.heap.size, 1, none⟩ = some (.int .i64 x2) := q1
  have o2 : w1.drew.cell? ⟨w.heap.size + 1, 0, none⟩ = some (.int .i64 y1) := q2
  have o3 : w1.drew.cell? ⟨w.heap.size + 1, 1, none⟩ = some (.int .i64 y2) := q3
  have p0 : (w1.alloc (.cells #[.int .i64 a, .int .i64 b] 3)).drew.cell? ⟨w.heap.size, 0, none⟩ = some (.int .i64 x1) := (cell_alloc_lt w1 _ ⟨w.heap.size, 0, none⟩ z0).trans q0
  have p1 : (w1.alloc (.cells #[.int .i64 a, .int .i64 b] 3)).drew.cell? ⟨w.heap.size, 1, none⟩ = some (.int .i64 x2) := (cell_alloc_lt w1 _ ⟨w.heap.size, 1, none⟩ z0).trans q1
  have p2 : (w1.alloc (.cells #[.int .i64 a, .int .i64 b] 3)).drew.cell? ⟨w.heap.size + 1, 0, none⟩ = some (.int .i64 y1) := (cell_alloc_lt w1 _ ⟨w.heap.size + 1, 0, none⟩ z1).trans q2
  have p3 : (w1.alloc (.cells #[.int .i64 a, .int .i64 b] 3)).drew.cell? ⟨w.heap.size + 1, 1, none⟩ = some (.int .i64 y2) := (cell_alloc_lt w1 _ ⟨w.heap.size + 1, 1, none⟩ z1).trans q3
  have r0 : (w1.alloc (.cells #[.int .i64 a, .int .i64 b] 3)).drew.cell? ⟨w1.heap.size, 0, none⟩ = some (.int .i64 a) := cell_pair0 w1 _ _ _
  have r1 : (w1.alloc (.cells #[.int .i64 a, .int .i64 b] 3)).drew.cell? ⟨w1.heap.size, 0 + 1, none⟩ = some (.int .i64 b) := cell_pair1 w1 _ _ _
  rw [← hw1]
  clear hw1 hz
  go_region_held3 (fun w' => w'.cell? ⟨w.heap.size, 0, none⟩ = some (.int .i64 x1) ∧ w'.cell? ⟨w.heap.size, 1, none⟩ = some (.int .i64 x2) ∧ w'.cell? ⟨w.heap.size + 1, 0, none⟩ = some (.int .i64 y1) ∧ w'.cell? ⟨w.heap.size + 1, 1, none⟩ = some (.int .i64 y2))
    (first | with_reducible exact ⟨q0, q1, q2, q3⟩ | with_reducible exact ⟨o0, o1, o2, o3⟩ | with_reducible exact ⟨p0, p1, p2, p3⟩)
    (first
      | (go_at_call 124; with_reducible refine (HC.out _).mono ?_; rintro e w2 ⟨rfl, rfl⟩)
      | (go_at_call 124; with_reducible refine (HD.out _).mono ?_; rintro e w2 ⟨rfl, rfl⟩)
      | (go_at_call 123; with_reducible refine (HO.out _ _ r0 r1).mono ?_; rintro e w2 ⟨rfl, rfl⟩))
  clear o0 o1 o2 o3 p0 p1 p2 p3 r0 r1 q0 q1 q2 q3 HO HC HD
  go_wp2_with fail
  go_ret
  obtain ⟨os', rfl⟩ := HW.out
  exact ⟨rfl, 1, _, by rw [alloc_eq_grow, drew_grow, drew_grow, grow_grow]; rfl⟩

set_option maxHeartbeats 1600000 in
set_option maxRecDepth 100000 in
theorem falling_any (x y : Int × Int) (w : World) : Calls Tryz.prog 84 #[.agg #[.int .i64 x.1, .int .i64 x.2], .agg #[.int .i64 y.1, .int .i64 y.2]] w fun e w' => e = .returned (.int .i64 (fallI x y)) ∧ ∃ q os', w' = grow (w.drewN q) os' := by
  have HC := Lib.hid fun w1 : World => cmpint_any w1 y.1 x.1
  have HD := Lib.hid fun w1 : World => cmpint_any w1 x.2 y.2
  unfold fallI
  generalize cmpI y.1 x.1 = a at *
  generalize cmpI x.2 y.2 = b at *
  have HO := Lib.hid fun (w1 : World) (g : Nat) => or_any w1 g 0 2 a b
  generalize (if a = 0 then b else a) = r at *
  obtain ⟨x1, x2⟩ := x
  obtain ⟨y1, y2⟩ := y
  dsimp only at *
  go_enter Tryz.func84, Tryz.ntmps84
  go_wp2_with fail
  obtain ⟨w1, hw1⟩ : ∃ w1, w1 = (w.alloc (.cells #[.int .i64 x1, .int .i64 x2] 111)).alloc (.cells #[.int .i64 y1, .int .i64 y2] 111) := ⟨_, rfl⟩
  have q0 : w1.cell? ⟨w.heap.size, 0, none⟩ = some (.int .i64 x1) := by rw [hw1]; exact (cell_alloc_lt _ _ _ (by simp)).trans (cell_pair0 _ _ _ _)
  have q1 : w1.cell? ⟨w.heap.size, 1, none⟩ = some (.int .i64 x2) := by rw [hw1]; exact (cell_alloc_lt _ _ _ (by simp)).trans (cell_pair1 _ _ _ _)
  have q2 : w1.cell? ⟨w.heap.size + 1, 0, none⟩ = some (.int .i64 y1) := by rw [hw1]; simp
  have q3 : w1.cell? ⟨w.heap.size + 1, 1, none⟩ = some (.int .i64 y2) := by rw [hw1]; simp
  have HW : Hid (∃ os', w1 = grow w os') := Lib.hid ⟨_, by rw [hw1, alloc_eq_grow, alloc_eq_grow, grow_grow]⟩
  have hz : w1.heap.size = w.heap.size + 2 := by rw [hw1]; simp
  have z0 : w.heap.size < w1.heap.size := by omega
  have z1 : w.heap.size + 1 < w1.heap.size := by omega
  have o0 : w1.drew.cell? ⟨w.heap.size, 0, none⟩ = some (.int .i64 x1) := q0
  have o1 : w1.drew.cell? ⟨w.heap.size, 1, none⟩ = some (.int .i64 x2) := q1
  have o2 : w1.drew.cell? ⟨w.heap.size + 1, 0, none⟩ = some (.int .i64 y1) := q2
  have o3 : w1.drew.cell? ⟨w.heap.size + 1, 1, none⟩ = some (.int .i64 y2) := q3
  have p0 : (w1.alloc (.cells #[.int .i64 a, .int .i64 b] 3)).drew.cell? ⟨w.heap.size, 0, none⟩ = some (.int .i64 x1) := (cell_alloc_lt w1 _ ⟨w.heap.size, 0, none⟩ z0).trans q0
  have p1 : (w1.alloc (.cells #[.int .i64 a, .int .i64 b] 3)).drew.cell? ⟨w.heap.size, 1, none⟩ = some (.int .i64 x2) := (cell_alloc_lt w1 _ ⟨w.heap.size, 1, none⟩ z0).trans q1
  have p2 : (w1.alloc (.cells #[.int .i64 a, .int .i64 b] 3)).drew.cell? ⟨w.heap.size + 1, 0, none⟩ = some (.int .i64 y1) := (cell_alloc_lt w1 _ ⟨w.heap.size + 1, 0, none⟩ z1).trans q2
  have p3 : (w1.alloc (.cells #[.int .i64 a, .int .i64 b] 3)).drew.cell? ⟨w.heap.size + 1, 1, none⟩ = some (.int .i64 y2) := (cell_alloc_lt w1 _ ⟨w.heap.size + 1, 1, none⟩ z1).trans q3
  have r0 : (w1.alloc (.cells #[.int .i64 a, .int .i64 b] 3)).drew.cell? ⟨w1.heap.size, 0, none⟩ = some (.int .i64 a) := cell_pair0 w1 _ _ _
  have r1 : (w1.alloc (.cells #[.int .i64 a, .int .i64 b] 3)).drew.cell? ⟨w1.heap.size, 0 + 1, none⟩ = some (.int .i64 b) := cell_pair1 w1 _ _ _
  rw [← hw1]
  clear hw1 hz
  go_region_held3 (fun w' => w'.cell? ⟨w.heap.size, 0, none⟩ = some (.int .i64 x1) ∧ w'.cell? ⟨w.heap.size, 1, none⟩ = some (.int .i64 x2) ∧ w'.cell? ⟨w.heap.size + 1, 0, none⟩ = some (.int .i64 y1) ∧ w'.cell? ⟨w.heap.size + 1, 1, none⟩ = some (.int .i64 y2))
    (first | with_reducible exact ⟨q0, q1, q2, q3⟩ | with_reducible exact ⟨o0, o1, o2, o3⟩ | with_reducible exact ⟨p0, p1, p2, p3⟩)
    (first
      | (go_at_call 124; with_reducible refine (HC.out _).mono ?_; rintro e w2 ⟨rfl, rfl⟩)
      | (go_at_call 124; with_reducible refine (HD.out _).mono ?_; rintro e w2 ⟨rfl, rfl⟩)
      | (go_at_call 123; with_reducible refine (HO.out _ _ r0 r1).mono ?_; rintro e w2 ⟨rfl, rfl⟩))
  clear o0 o1 o2 o3 p0 p1 p2 p3 r0 r1 q0 q1 q2 q3 HO HC HD
  go_wp2_with fail
  go_ret
  obtain ⟨os', rfl⟩ := HW.out
  exact ⟨rfl, 1, _, by rw [alloc_eq_grow, drew_grow, drew_grow, grow_grow]; rfl⟩

end Go.Proofs.YtmgmgmbpldboiaaGreat
namespace Go.Proofs.YtmgmgmbpldboiaaGreat

/-- A tree in a row: its weight, its number. -/
def Fst (x y : Nat × Nat) : Prop := x.1 < y.1 ∨ (x.1 = y.1 ∧ x.2 < y.2)
theorem Fst.trans {x y z : Nat × Nat} (h : Fst x y) (k : Fst y z) : Fst x z := by
  unfold Fst at *
  omega
theorem fst_total {x y : Nat × Nat} (h : ¬ Fst x y) (hn : x.2 ≠ y.2) : Fst y x := by
  unfold Fst at *
  omega

/-- Two rows: the symbols that are in no tree, and the trees that were made and are in none; b: what none is below. -/
structure Two (n k : Nat) (ws ov : Nat → Nat) (S M : List (Nat × Nat)) (b : Nat) : Prop where
  sm : ∀ t ∈ S, t.2 < n ∧ ov t.2 = 0 ∧ t.1 = ws t.2
  sa : ∀ j, j < n → ov j = 0 → (ws j, j) ∈ S
  so : S.Pairwise Fst
  mm : ∀ t ∈ M, n ≤ t.2 ∧ t.2 < k ∧ ov t.2 = 0 ∧ t.1 = ws t.2
  ma : ∀ j, n ≤ j → j < k → ov j = 0 → (ws j, j) ∈ M
  mo : M.Pairwise Fst
  low : ∀ t, t ∈ S ∨ t ∈ M → b ≤ t.1
  top : ∀ t ∈ M, t.1 ≤ 2 * b

/-- The first of the two rows' heads, and what is left. -/
def fpick : List (Nat × Nat) → List (Nat × Nat) → (Nat × Nat) × List (Nat × Nat) × List (Nat × Nat)
  | [], [] => ((0, 0), [], [])
  | s :: S, [] => (s, S, [])
  | [], m :: M => (m, [], M)
  | s :: S, m :: M => if m.1 < s.1 ∨ (m.1 = s.1 ∧ m.2 < s.2) then (m, s :: S, M) else (s, S, m :: M)

theorem two_none {n k : Nat} {ws ov : Nat → Nat} {S M : List (Nat × Nat)} {b : Nat} (h : Two n k ws ov S M b) {j : Nat} (hj : j < k) (h0 : ov j = 0) : (ws j, j) ∈ S ∨ (ws j, j) ∈ M := by
  by_cases e : j < n
  · exact .inl (h.sa j e h0)
  · exact .inr (h.ma j (by omega) hj h0)

set_option maxRecDepth 100000 in
/-- What is picked is the least; what is left are rows behind it. -/
theorem two_pick {n k : Nat} {ws ov ov1 : Nat → Nat} {S M : List (Nat × Nat)} {b : Nat} (h : Two n k ws ov S M b) (hnk : n ≤ k) (hk : k ≠ 0) {j : Nat} (hj : j < k) (h0 : ov j = 0) {a : Nat × Nat} {S2 M2 : List (Nat × Nat)} (hp : fpick S M = (a, S2, M2))
    (h1 : ov1 = fun j => if j = a.2 then k else ov j) :
    Least k ws ov a.2 ∧ a.1 = ws a.2 ∧ b ≤ a.1 ∧ Two n k ws ov1 S2 M2 a.1 ∧ (∀ t ∈ M, t.1 ≤ 2 * b) ∧ (∀ t ∈ M2, t ∈ M) := by
  have hsm := h.sm
  have hmm := h.mm
  have key : ∀ (S0 M0 : List (Nat × Nat)) (_ : ∀ t, t ∈ S ↔ t ∈ S0 ∨ (t = a ∧ a ∈ S)) (_ : ∀ t, t ∈ M ↔ t ∈ M0 ∨ (t = a ∧ a ∈ M)) (_ : S0.Pairwise Fst) (_ : M0.Pairwise Fst) (_ : a ∈ S ∨ a ∈ M) (_ : ∀ t, t ∈ S0 ∨ t ∈ M0 → Fst a t),
      Least k ws ov a.2 ∧ a.1 = ws a.2 ∧ b ≤ a.1 ∧ Two n k ws ov1 S0 M0 a.1 ∧ (∀ t ∈ M, t.1 ≤ 2 * b) ∧ (∀ t ∈ M0, t ∈ M) := by
    intro S0 M0 hS hM hS0 hM0 ha hF
    have ha1 : a.2 < k ∧ ov a.2 = 0 ∧ a.1 = ws a.2 := by
      rcases ha with ha | ha
      · have := hsm a ha
        exact ⟨by omega, this.2.1, this.2.2⟩
      · have := hmm a ha
        exact ⟨this.2.1, this.2.2.1, this.2.2.2⟩
    have hne : ∀ t, t ∈ S0 ∨ t ∈ M0 → t.2 ≠ a.2 := by
      intro t ht e
      have hF1 := hF t ht
      have ht1 : t.1 = ws t.2 := by
        rcases ht with ht | ht
        · exact (hsm t ((hS t).2 (.inl ht))).2.2
        · exact (hmm t ((hM t).2 (.inl ht))).2.2.2
      unfold Fst at hF1
      rw [ht1, ha1.2.2, e] at hF1
      omega
    refine ⟨⟨ha1.1, ha1.2.1, fun i hi h0 hia => ?_⟩, ha1.2.2, ?_, ⟨?_, ?_, hS0, ?_, ?_, hM0, ?_, ?_⟩, h.top, fun t ht => (hM t).2 (.inl ht)⟩
    · have h3 : (ws i, i) ∈ S0 ∨ (ws i, i) ∈ M0 := by
        rcases two_none h hi h0 with h4 | h4
        · rcases (hS _).1 h4 with h5 | h5
          · exact .inl h5
          · exact absurd (congrArg Prod.snd h5.1) hia
        · rcases (hM _).1 h4 with h5 | h5
          · exact .inr h5
          · exact absurd (congrArg Prod.snd h5.1) hia
      have h6 := hF _ h3
      unfold Fst at h6
      rw [ha1.2.2] at h6
      exact h6
    · exact h.low a ha
    · intro t ht
      have h3 := hsm t ((hS t).2 (.inl ht))
      refine ⟨h3.1, ?_, h3.2.2⟩
      rw [h1]
      simp [hne t (.inl ht), h3.2.1]
    · intro i hi h0
      rw [h1] at h0
      by_cases e : i = a.2
      · simp [e] at h0
        exact absurd h0 hk
      · simp [e] at h0
        rcases (hS _).1 (h.sa i hi h0) with h5 | h5
        · exact h5
        · exact absurd (congrArg Prod.snd h5.1) e
    · intro t ht
      have h3 := hmm t ((hM t).2 (.inl ht))
      refine ⟨h3.1, h3.2.1, ?_, h3.2.2.2⟩
      rw [h1]
      simp [hne t (.inr ht), h3.2.2.1]
    · intro i hi hik h0
      rw [h1] at h0
      by_cases e : i = a.2
      · simp [e] at h0
        exact absurd h0 hk
      · simp [e] at h0
        rcases (hM _).1 (h.ma i hi hik h0) with h5 | h5
        · exact h5
        · exact absurd (congrArg Prod.snd h5.1) e
    · intro t ht
      have := hF t ht
      unfold Fst at this
      omega
    · intro t ht
      have h3 := h.top t ((hM t).2 (.inl ht))
      have h4 := h.low a ha
      omega
  match S, M, h, hp, hsm, hmm, key with
  | [], [], h, hp, _, _, _ =>
    exfalso
    rcases two_none h hj h0 with h5 | h5 <;> exact absurd h5 List.not_mem_nil
  | s :: S, [], h, hp, hsm, hmm, key =>
    simp only [fpick, Prod.mk.injEq] at hp
    obtain ⟨rfl, rfl, rfl⟩ := hp
    have hso := List.pairwise_cons.1 h.so
    refine key S [] (fun t => ?_) (fun t => ?_) hso.2 List.Pairwise.nil (.inl List.mem_cons_self) (fun t ht => ?_)
    · rw [List.mem_cons]
      constructor
      · rintro (rfl | h3)
        · exact .inr ⟨rfl, List.mem_cons_self⟩
        · exact .inl h3
      · rintro (h3 | h3)
        · exact .inr h3
        · exact .inl h3.1
    · simp
    · rcases ht with ht | ht
      · exact hso.1 t ht
      · exact absurd ht List.not_mem_nil
  | [], m :: M, h, hp, hsm, hmm, key =>
    simp only [fpick, Prod.mk.injEq] at hp
    obtain ⟨rfl, rfl, rfl⟩ := hp
    have hmo := List.pairwise_cons.1 h.mo
    refine key [] M (fun t => ?_) (fun t => ?_) List.Pairwise.nil hmo.2 (.inr List.mem_cons_self) (fun t ht => ?_)
    · simp
    · rw [List.mem_cons]
      constructor
      · rintro (rfl | h3)
        · exact .inr ⟨rfl, List.mem_cons_self⟩
        · exact .inl h3
      · rintro (h3 | h3)
        · exact .inr h3
        · exact .inl h3.1
    · rcases ht with ht | ht
      · exact absurd ht List.not_mem_nil
      · exact hmo.1 t ht
  | s :: S, m :: M, h, hp, hsm, hmm, key =>
    have hso := List.pairwise_cons.1 h.so
    have hmo := List.pairwise_cons.1 h.mo
    have hs1 := hsm s List.mem_cons_self
    have hm1 := hmm m List.mem_cons_self
    simp only [fpick] at hp
    by_cases e : m.1 < s.1 ∨ (m.1 = s.1 ∧ m.2 < s.2)
    · rw [if_pos e] at hp
      simp only [Prod.mk.injEq] at hp
      obtain ⟨rfl, rfl, rfl⟩ := hp
      refine key (s :: S) M (fun t => ?_) (fun t => ?_) h.so hmo.2 (.inr List.mem_cons_self) (fun t ht => ?_)
      · constructor
        · exact .inl
        · rintro (h3 | ⟨rfl, h3⟩)
          · exact h3
          · exact h3
      · rw [List.mem_cons]
        constructor
        · rintro (rfl | h3)
          · exact .inr ⟨rfl, List.mem_cons_self⟩
          · exact .inl h3
        · rintro (h3 | h3)
          · exact .inr h3
          · exact .inl h3.1
      · rcases ht with ht | ht
        · rcases List.mem_cons.1 ht with rfl | ht
          · exact e
          · exact Fst.trans e (hso.1 t ht)
        · exact hmo.1 t ht
    · rw [if_neg e] at hp
      simp only [Prod.mk.injEq] at hp
      obtain ⟨rfl, rfl, rfl⟩ := hp
      have e2 : Fst s m := fst_total (x := m) (y := s) e (by omega)
      refine key S (m :: M) (fun t => ?_) (fun t => ?_) hso.2 h.mo (.inl List.mem_cons_self) (fun t ht => ?_)
      · rw [List.mem_cons]
        constructor
        · rintro (rfl | h3)
          · exact .inr ⟨rfl, List.mem_cons_self⟩
          · exact .inl h3
        · rintro (h3 | h3)
          · exact .inr h3
          · exact .inl h3.1
      · constructor
        · exact .inl
        · rintro (h3 | ⟨rfl, h3⟩)
          · exact h3
          · exact h3
      · rcases ht with ht | ht
        · exact hso.1 t ht
        · rcases List.mem_cons.1 ht with rfl | ht
          · exact e2
          · exact Fst.trans e2 (hmo.1 t ht)

set_option maxRecDepth 100000 in
/-- A round: two are picked, and the tree that is made stands last. -/
theorem two_round {n k : Nat} {ws ov ov1 ov2 : Nat → Nat} {S M S1 M1 S2 M2 : List (Nat × Nat)} {b : Nat} {w : List Nat} {act : List Tr} {len : Nat → Nat} (g : Grown n w k ws ov act len) (h : Two n k ws ov S M b) (hk2 : k + 1 < 2 * n)
    {x y : Nat × Nat} (hp : fpick S M = (x, S1, M1)) (hq : fpick S1 M1 = (y, S2, M2)) (h1 : ov1 = fun j => if j = x.2 then k else ov j) (h2 : ov2 = fun j => if j = y.2 then k else if j = x.2 then k else ov j) :
    (∃ act2 len2, Grown n w (k + 1) (fun j => if j = k then x.1 + y.1 else ws j) ov2 act2 len2) ∧ Two n (k + 1) (fun j => if j = k then x.1 + y.1 else ws j) ov2 S2 (M2 ++ [(x.1 + y.1, k)]) y.1 ∧ x.2 < k ∧ y.2 < k ∧ x.2 ≠ y.2 ∧ x.1 + y.1 ≤ w.sum := by
  have hk : k ≠ 0 := by have := g.pos; have := g.ge; omega
  obtain ⟨p, q, hpk, hqk, hpq, hp0, hq0⟩ := grown_two g hk2
  obtain ⟨l1, e1, b1, t1, u1, v1⟩ := two_pick h g.ge hk hpk hp0 hp h1
  obtain ⟨j, hjk, hj0⟩ : ∃ j, j < k ∧ ov1 j = 0 := by
    by_cases e : p = x.2
    · exact ⟨q, hqk, by rw [h1]; simp [hq0, show q ≠ x.2 by omega]⟩
    · exact ⟨p, hpk, by rw [h1]; simp [hp0, e]⟩
  have h21 : ov2 = fun j => if j = y.2 then k else ov1 j := by rw [h2, h1]
  obtain ⟨l2, e2, b2, t2, u2, v2⟩ := two_pick t1 g.ge hk hjk hj0 hq h21
  have hxy : x.2 ≠ y.2 := by
    intro e
    have := l2.2.1
    rw [h1, ← e] at this
    simp at this
    exact hk this
  have hy0 : ov y.2 = 0 := by
    have := l2.2.1
    rw [h1] at this
    simp [Ne.symm hxy] at this
    exact this
  have hg := grown_next g l1 h1 l2 h2
  rw [← e1, ← e2] at hg
  refine ⟨hg, ?_, l1.1, l2.1, hxy, ?_⟩
  · have hok : ov2 k = 0 := by
      have : ov k = 0 := by
        by_cases e : ov k = 0
        · exact e
        · have := g.par k e
          omega
      rw [h2]
      have h3 := l1.1
      have h4 := l2.1
      simp [show k ≠ x.2 by omega, show k ≠ y.2 by omega, this]
    have hge := g.ge
    refine ⟨?_, ?_, t2.so, ?_, ?_, ?_, ?_, ?_⟩
    · intro t ht
      have h3 := t2.sm t ht
      refine ⟨h3.1, h3.2.1, ?_⟩
      rw [if_neg (by omega)]
      exact h3.2.2
    · intro i hi h0
      rw [if_neg (by omega)]
      exact t2.sa i hi h0
    · intro t ht
      rcases List.mem_append.1 ht with ht | ht
      · have h3 := t2.mm t ht
        refine ⟨h3.1, by omega, h3.2.2.1, ?_⟩
        rw [if_neg (by omega)]
        exact h3.2.2.2
      · rw [List.mem_singleton] at ht
        subst ht
        refine ⟨hge, Nat.lt_succ_self k, hok, ?_⟩
        simp
    · intro i hi hik h0
      by_cases e : i = k
      · subst e
        simp
      · rw [if_neg e]
        exact List.mem_append_left _ (t2.ma i hi (by omega) h0)
    · refine List.pairwise_append.2 ⟨t2.mo, List.pairwise_singleton _ _, fun t ht u hu => ?_⟩
      rw [List.mem_singleton] at hu
      subst hu
      have h3 := t2.mm t ht
      have h4 : t.1 ≤ 2 * b := u1 t (v1 t (v2 t ht))
      show t.1 < x.1 + y.1 ∨ (t.1 = x.1 + y.1 ∧ t.2 < k)
      omega
    · intro t ht
      rcases ht with ht | ht
      · exact t2.low t (.inl ht)
      · rcases List.mem_append.1 ht with ht | ht
        · exact t2.low t (.inr ht)
        · rw [List.mem_singleton] at ht
          subst ht
          show y.1 ≤ x.1 + y.1
          omega
    · intro t ht
      rcases List.mem_append.1 ht with ht | ht
      · exact t2.top t ht
      · rw [List.mem_singleton] at ht
        subst ht
        show x.1 + y.1 ≤ 2 * y.1
        omega
  · rw [e1, e2]
    exact grown_weigh g l1.1 l2.1 hxy l1.2.1 hy0

/-- The rows at the start: each symbol, in order; no tree. -/
theorem two_start (w : List Nat) (S : List (Nat × Nat)) (hp : S.Perm ((List.range w.length).map fun i => (w.getD i 0, i))) (hs : S.Pairwise Fst) : Two w.length w.length (fun j => w.getD j 0) (fun _ => 0) S [] 0 := by
  refine ⟨?_, ?_, hs, ?_, ?_, List.Pairwise.nil, ?_, ?_⟩
  · intro t ht
    obtain ⟨i, hi, rfl⟩ := List.mem_map.1 (hp.mem_iff.1 ht)
    exact ⟨List.mem_range.1 hi, rfl, rfl⟩
  · intro j hj _
    exact hp.mem_iff.2 (List.mem_map.2 ⟨j, List.mem_range.2 hj, rfl⟩)
  · intro t ht
    exact absurd ht List.not_mem_nil
  · intro j h1 h2
    omega
  · intro t _
    exact Nat.zero_le _
  · intro t ht
    exact absurd ht List.not_mem_nil

/-- The way up, told from below. -/
theorem up_front {ov : Nat → Nat} {i r d : Nat} (h : Up ov (ov i) r d) (h0 : ov i ≠ 0) : Up ov i r (d + 1) := by
  obtain ⟨j, hj⟩ : ∃ j, j = ov i := ⟨_, rfl⟩
  rw [← hj] at h
  induction h with
  | here =>
    subst hj
    exact .next (.here i) h0
  | next h h1 ih => exact .next ih h1
theorem up_far {ov : Nat → Nat} (hp : ∀ j, ov j ≠ 0 → j < ov j) {i r d : Nat} (h : Up ov i r d) : i + d ≤ r := by
  induction h with
  | here => exact Nat.le_refl _
  | next h h0 ih =>
    have := hp _ h0
    omega
/-- How many trees each is in: one more than the one that it is in. -/
theorem depth_fun {n : Nat} {w : List Nat} {ws ov : Nat → Nat} {act : List Tr} {len : Nat → Nat} (g : Grown n w (2 * n - 1) ws ov act len) :
    ∃ dd : Nat → Nat, dd (2 * n - 2) = 0 ∧ (∀ j, j < 2 * n - 2 → j < ov j ∧ ov j ≤ 2 * n - 2 ∧ dd j = dd (ov j) + 1) ∧ (∀ j, dd j ≤ 2 * n) ∧ HLen w len ∧ ∀ i, i < n → len i = dd i := by
  have hn := g.pos
  obtain ⟨hl, hu⟩ := grown_end g (by omega)
  have hroot0 : ov (2 * n - 2) = 0 := by
    by_cases e : ov (2 * n - 2) = 0
    · exact e
    · have := g.par _ e
      omega
  have hroot : ∀ j, j < 2 * n - 2 → ov j ≠ 0 := by
    intro j hj h0
    have hc := g.count
    obtain ⟨t, ht, hn1⟩ := g.all j (by omega) h0
    obtain ⟨u, hu2, hn2⟩ := g.all (2 * n - 2) (by omega) hroot0
    have h1 : act.length = 1 := by omega
    match act, h1, ht, hu2 with
    | [z], _, ht, hu2 =>
      have e1 := List.mem_singleton.1 ht
      have e2 := List.mem_singleton.1 hu2
      rw [e1] at hn1
      rw [e2] at hn2
      omega
  have hex : ∀ q, q ≤ 2 * n - 2 → ∃ d, Up ov (2 * n - 2 - q) (2 * n - 2) d := by
    intro q
    induction q using Nat.strongRecOn with
    | _ q ih =>
      intro hq
      by_cases e : q = 0
      · subst e
        exact ⟨0, .here _⟩
      · have h0 := hroot (2 * n - 2 - q) (by omega)
        have h1 := g.par _ h0
        obtain ⟨d, hd⟩ := ih (2 * n - 2 - ov (2 * n - 2 - q)) (by omega) (by omega)
        rw [show 2 * n - 2 - (2 * n - 2 - ov (2 * n - 2 - q)) = ov (2 * n - 2 - q) by omega] at hd
        exact ⟨d + 1, up_front hd h0⟩
  have hex2 : ∀ j, ∃ d, d ≤ 2 * n ∧ (j ≤ 2 * n - 2 → Up ov j (2 * n - 2) d) := by
    intro j
    by_cases e : j ≤ 2 * n - 2
    · obtain ⟨d, hd⟩ := hex (2 * n - 2 - j) (by omega)
      rw [show 2 * n - 2 - (2 * n - 2 - j) = j by omega] at hd
      have := up_far (fun j h => (g.par j h).1) hd
      exact ⟨d, by omega, fun _ => hd⟩
    · exact ⟨0, by omega, fun h => absurd h e⟩
  refine ⟨fun j => (hex2 j).choose, ?_, ?_, fun j => (hex2 j).choose_spec.1, hl, ?_⟩
  · exact ((hex2 (2 * n - 2)).choose_spec.2 (Nat.le_refl _)).ends hroot0 (.here _) hroot0
  · intro j hj
    have h0 := hroot j hj
    have h1 := g.par j h0
    refine ⟨h1.1, by omega, ?_⟩
    exact ((hex2 j).choose_spec.2 (by omega)).ends hroot0 (up_front ((hex2 (ov j)).choose_spec.2 (by omega)) h0) hroot0
  · intro i hi
    obtain ⟨r, h1, h2⟩ := hu i hi
    exact h1.ends h2 ((hex2 i).choose_spec.2 (by omega)) hroot0

/-- Rows in the order by falling weights: a tree's place is how many stand ahead of it. -/
def Fall (x y : Nat × Nat) : Prop := y.1 < x.1 ∨ (x.1 = y.1 ∧ x.2 < y.2)
instance (x y : Nat × Nat) : Decidable (Fall x y) := by unfold Fall; infer_instance
set_option maxRecDepth 100000 in
theorem count_place : ∀ (S : List (Nat × Nat)), S.Pairwise Fall → ∀ i x, S[i]? = some x → S.countP (fun y => decide (Fall y x)) = i
  | [], _, i, x, h => by simp at h
  | y :: S, h, i, x, hx => by
    obtain ⟨h1, h2⟩ := List.pairwise_cons.1 h
    rw [List.countP_cons]
    match i, hx with
    | 0, hx =>
      simp at hx
      subst hx
      have h3 : S.countP (fun z => decide (Fall z y)) = 0 := by
        rw [List.countP_eq_zero]
        intro z hz
        have := h1 z hz
        simp only [decide_eq_true_eq]
        unfold Fall at *
        omega
      rw [h3]
      have : ¬ Fall y y := by unfold Fall; omega
      simp [this]
    | i + 1, hx =>
      simp at hx
      have h3 := count_place S h2 i x hx
      have h4 : Fall y x := h1 x (List.mem_of_getElem? hx)
      rw [h3]
      simp [h4]
set_option maxRecDepth 100000 in
theorem place_front (w : List Nat) (S : List (Nat × Nat)) (hp : S.Perm ((List.range w.length).map fun i => (w.getD i 0, i))) (hs : S.Pairwise Fall) (i : Nat) (x : Nat × Nat) (hx : S[i]? = some x) : x.2 < w.length ∧ front w x.2 = i := by
  obtain ⟨j, hj, rfl⟩ := List.mem_map.1 (hp.mem_iff.1 (List.mem_of_getElem? hx))
  refine ⟨List.mem_range.1 hj, ?_⟩
  have h1 := count_place S hs i _ hx
  rw [hp.countP_eq, List.countP_map] at h1
  unfold front
  rw [← h1]
  refine List.countP_congr fun q _ => ?_
  simp only [Function.comp, Fall]

end Go.Proofs.YtmgmgmbpldboiaaGreat
