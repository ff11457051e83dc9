/- cmp.Compare and cmp.Or over ints; two trees compared: lengths.rising, lengths.falling. No conditions. -/
import Derived.Test.YtgnlpbnodijkgaaAb
import Derived.Sort.Grow
import Derived.Deep.RegionHeld3
namespace Go.Proofs.Ytgnlpbnodijkgaa
open Go.RowKit Go.Sort

/-- Two ints compared. -/
def cmpI (a b : Int) : Int := if a < b then -1 else if b < a then 1 else 0
set_option maxHeartbeats 1600000 in
theorem cmpint_any (w : World) (a b : Int) : Calls Try.prog 70 #[.int .i64 a, .int .i64 b] w fun e w' => e = .returned (.int .i64 (cmpI a b)) ∧ w = w' := by
  obtain ⟨v, hv⟩ : ∃ v, v = cmpI a b := ⟨_, rfl⟩
  have HV := Lib.hid hv
  unfold cmpI at hv
  by_cases h1 : a < b
  · rw [if_pos h1] at hv
    have HW := Lib.hid hv
    clear hv
    have d1 : decide (a < b) = true := decide_eq_true h1
    go_enter Try.func70, Try.ntmps70
    go_wp2
    go_ret
    exact ⟨by rw [← HV.out, HW.out]; rfl, rfl⟩
  · by_cases h2 : b < a
    · rw [if_neg h1, if_pos h2] at hv
      have HW := Lib.hid hv
      clear hv
      have d1 : decide (a < b) = false := decide_eq_false h1
      have d2 : decide (b < a) = true := decide_eq_true h2
      go_enter Try.func70, Try.ntmps70
      go_wp2
      go_ret
      exact ⟨by rw [← HV.out, HW.out]; rfl, rfl⟩
    · rw [if_neg h1, if_neg h2] at hv
      have HW := Lib.hid hv
      clear hv
      have d1 : decide (a < b) = false := decide_eq_false h1
      have d2 : decide (b < a) = false := decide_eq_false h2
      go_enter Try.func70, Try.ntmps70
      go_wp2
      go_ret
      exact ⟨by rw [← HV.out, HW.out]; rfl, rfl⟩


theorem cell_pair0 (w : World) (u v : Value) (t : TypeId) : (w.alloc (.cells #[u, v] t)).cell? ⟨w.heap.size, 0, none⟩ = some u := by
  rw [blk_cell (blk_new w t _)]
  rfl
theorem cell_pair1 (w : World) (u v : Value) (t : TypeId) : (w.alloc (.cells #[u, v] t)).cell? ⟨w.heap.size, 1, none⟩ = some v := by
  rw [blk_cell (blk_new w t _)]
  rfl

theorem cell_alloc_lt (w : World) (o : Obj) (p : Addr) (h : p.block < w.heap.size) : (w.alloc o).cell? p = w.cell? p := ((Below.refl w.heap.size w).alloc (Nat.le_refl _) o).cell h

set_option maxHeartbeats 1600000 in
set_option maxRecDepth 100000 in
/-- The first that is not 0. -/
theorem or_any (w : World) (b off c : Nat) (u v : Int) (h0 : w.cell? ⟨b, off, none⟩ = some (.int .i64 u)) (h1 : w.cell? ⟨b, off + 1, none⟩ = some (.int .i64 v)) :
    Calls Try.prog 69 #[.slice (some ⟨b, off, none⟩) 2 c] w fun e w' => e = .returned (.int .i64 (if u = 0 then v else u)) ∧ w = w' := by
  by_cases e : u = 0
  · rw [if_pos e]
    have d1 : (u != 0) = false := by rw [e]; rfl
    have d1' : (u == 0) = true := by rw [e]; rfl
    have E := Lib.hid e
    clear e
    by_cases e2 : v = 0
    · have d2 : (v != 0) = false := by rw [e2]; rfl
      have d2' : (v == 0) = true := by rw [e2]; rfl
      have E2 := Lib.hid e2
      clear e2
      go_enter Try.func69, Try.ntmps69
      go_wp2_with fail
      go_loopw [5, 8] (fun x i wx => ∃ q : Nat, q ≤ 2 ∧ i = .int .i64 q ∧ wx = w) (fun _ i _ => 2 - (intOf i).toNat)
      case atStart => exact ⟨0, by omega, rfl, rfl⟩
      case round =>
        obtain ⟨q, hq, rfl, rfl⟩ := hrel
        match q, hq with
        | 0, _ =>
          go_wp2_with fail
          go_roundw
          case rel => exact ⟨1, by omega, by go_num, trivial⟩
          case measure => simp [intOf]
        | 1, _ =>
          go_wp2_with fail
          go_roundw
          case rel => exact ⟨2, by omega, by go_num, trivial⟩
          case measure => simp [intOf]
        | 2, _ =>
          go_wp2_with fail
          go_ret
          exact ⟨by rw [E2.out]; rfl, rfl⟩
    · have d2 : (v != 0) = true := by simpa using e2
      have d2' : (v == 0) = false := by simpa using e2
      clear e2
      go_enter Try.func69, Try.ntmps69
      go_wp2_with fail
      go_loopw [5, 8] (fun x i wx => ∃ q : Nat, q ≤ 1 ∧ i = .int .i64 q ∧ wx = w) (fun _ i _ => 2 - (intOf i).toNat)
      case atStart => exact ⟨0, by omega, rfl, rfl⟩
      case round =>
        obtain ⟨q, hq, rfl, rfl⟩ := hrel
        match q, hq with
        | 0, _ =>
          go_wp2_with fail
          go_roundw
          case rel => exact ⟨1, by omega, by go_num, trivial⟩
          case measure => simp [intOf]
        | 1, _ =>
          go_wp2_with fail
          go_ret
          exact ⟨rfl, rfl⟩
  · rw [if_neg e]
    have d1 : (u != 0) = true := by simpa using e
    have d1' : (u == 0) = false := by simpa using e
    clear e
    go_enter Try.func69, Try.ntmps69
    go_wp2_with fail
    go_loopw [5, 8] (fun x i wx => i = .int .i64 0 ∧ wx = w) (fun _ i _ => 2 - (intOf i).toNat)
    case atStart => exact ⟨rfl, rfl⟩
    case round =>
      obtain ⟨rfl, rfl⟩ := hrel
      go_wp2_with fail
      go_ret
      exact ⟨rfl, rfl⟩

/-- A tree's two cells. -/
def encT (x : Int × Int) : List Value := [.int .i64 x.1, .int .i64 x.2]
def riseI (x y : Int × Int) : Int := if cmpI x.1 y.1 = 0 then cmpI x.2 y.2 else cmpI x.1 y.1
def fallI (x y : Int × Int) : Int := if cmpI y.1 x.1 = 0 then cmpI x.2 y.2 else cmpI y.1 x.1

set_option maxHeartbeats 1600000 in
set_option maxRecDepth 100000 in
theorem rising_any (x y : Int × Int) (w : World) : Calls Try.prog 62 #[.agg #[.int .i64 x.1, .int .i64 x.2], .agg #[.int .i64 y.1, .int .i64 y.2]] w fun e w' => e = .returned (.int .i64 (riseI x y)) ∧ ∃ q os', w' = grow (w.drewN q) os' := by
  have HC := Lib.hid fun w1 : World => cmpint_any w1 x.1 y.1
  have HD := Lib.hid fun w1 : World => cmpint_any w1 x.2 y.2
  unfold riseI
  generalize cmpI x.1 y.1 = a at *
  generalize cmpI x.2 y.2 = b at *
  have HO := Lib.hid fun (w1 : World) (g : Nat) => or_any w1 g 0 2 a b
  generalize (if a = 0 then b else a) = r at *
  obtain ⟨x1, x2⟩ := x
  obtain ⟨y1, y2⟩ := y
  dsimp only at *
  go_enter Try.func62, Try.ntmps62
  go_wp2_with fail
  obtain ⟨w1, hw1⟩ : ∃ w1, w1 = (w.alloc (.cells #[.int .i64 x1, .int .i64 x2] 106)).alloc (.cells #[.int .i64 y1, .int .i64 y2] 106) := ⟨_, rfl⟩
  have q0 : w1.cell? ⟨w.heap.size, 0, none⟩ = some (.int .i64 x1) := by rw [hw1]; exact (cell_alloc_lt _ _ _ (by simp)).trans (cell_pair0 _ _ _ _)
  have q1 : w1.cell? ⟨w.heap.size, 1, none⟩ = some (.int .i64 x2) := by rw [hw1]; exact (cell_alloc_lt _ _ _ (by simp)).trans (cell_pair1 _ _ _ _)
  have q2 : w1.cell? ⟨w.heap.size + 1, 0, none⟩ = some (.int .i64 y1) := by rw [hw1]; simp
  have q3 : w1.cell? ⟨w.heap.size + 1, 1, none⟩ = some (.int .i64 y2) := by rw [hw1]; simp
  have HW : Hid (∃ os', w1 = grow w os') := Lib.hid ⟨_, by rw [hw1, alloc_eq_grow, alloc_eq_grow, grow_grow]⟩
  have hz : w1.heap.size = w.heap.size + 2 := by rw [hw1]; simp
  have z0 : w.heap.size < w1.heap.size := by omega
  have z1 : w.heap.size + 1 < w1.heap.size := by omega
  have o0 : w1.drew.cell? ⟨w.heap.size, 0, none⟩ = some (.int .i64 x1) := q0
  have o1 : w1.drew.cell? ⟨w.heap.size, 1, none⟩ = some (.int .i64 x2) := q1
  have o2 : w1.drew.cell? ⟨w.heap.size + 1, 0, none⟩ = some (.int .i64 y1) := q2
  have o3 : w1.drew.cell? ⟨w.heap.size + 1, 1, none⟩ = some (.int .i64 y2) := q3
  have p0 : (w1.alloc (.cells #[.int .i64 a, .int .i64 b] 3)).drew.cell? ⟨w.heap.size, 0, none⟩ = some (.int .i64 x1) := (cell_alloc_lt w1 _ ⟨w.heap.size, 0, none⟩ z0).trans q0
  have p1 : (w1.alloc (.cells #[.int .i64 a, .int .i64 b] 3)).drew.cell? ⟨w.heap.size, 1, none⟩ = some (.int .i64 x2) := (cell_alloc_lt w1 _ ⟨w.heap.size, 1, none⟩ z0).trans q1
  have p2 : (w1.alloc (.cells #[.int .i64 a, .int .i64 b] 3)).drew.cell? ⟨w.heap.size + 1, 0, none⟩ = some (.int .i64 y1) := (cell_alloc_lt w1 _ ⟨w.heap.size + 1, 0, none⟩ z1).trans q2
  have p3 : (w1.alloc (.cells #[.int .i64 a, .int .i64 b] 3)).drew.cell? ⟨w.heap.size + 1, 1, none⟩ = some (.int .i64 y2) := (cell_alloc_lt w1 _ ⟨w.heap.size + 1, 1, none⟩ z1).trans q3
  have r0 : (w1.alloc (.cells #[.int .i64 a, .int .i64 b] 3)).drew.cell? ⟨w1.heap.size, 0, none⟩ = some (.int .i64 a) := cell_pair0 w1 _ _ _
  have r1 : (w1.alloc (.cells #[.int .i64 a, .int .i64 b] 3)).drew.cell? ⟨w1.heap.size, 0 + 1, none⟩ = some (.int .i64 b) := cell_pair1 w1 _ _ _
  rw [← hw1]
  clear hw1 hz
  go_region_held3 (fun w' => w'.cell? ⟨w.heap.size, 0, none⟩ = some (.int .i64 x1) ∧ w'.cell? ⟨w.heap.size, 1, none⟩ = some (.int .i64 x2) ∧ w'.cell? ⟨w.heap.size + 1, 0, none⟩ = some (.int .i64 y1) ∧ w'.cell? ⟨w.heap.size + 1, 1, none⟩ = some (.int .i64 y2))
    (first | with_reducible exact ⟨q0, q1, q2, q3⟩ | with_reducible exact ⟨o0, o1, o2, o3⟩ | with_reducible exact ⟨p0, p1, p2, p3⟩)
    (first
      | (go_at_call 70; with_reducible refine (HC.out _).mono ?_; rintro e w2 ⟨rfl, rfl⟩)
      | (go_at_call 70; with_reducible refine (HD.out _).mono ?_; rintro e w2 ⟨rfl, rfl⟩)
      | (go_at_call 69; with_reducible refine (HO.out _ _ r0 r1).mono ?_; rintro e w2 ⟨rfl, rfl⟩))
  clear o0 o1 o2 o3 p0 p1 p2 p3 r0 r1 q0 q1 q2 q3 HO HC HD
  go_wp2_with fail
  go_ret
  obtain ⟨os', rfl⟩ := HW.out
  exact ⟨rfl, 1, _, by rw [alloc_eq_grow, drew_grow, drew_grow, grow_grow]; rfl⟩

end Go.Proofs.Ytgnlpbnodijkgaa
