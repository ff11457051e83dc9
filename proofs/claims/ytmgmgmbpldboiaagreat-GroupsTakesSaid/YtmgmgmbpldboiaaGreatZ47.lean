/- Aj: texts laid together, what is not used left out. -/
import Derived.Test.YtmgmgmbpldboiaaGreatZ46
import Derived.Laws.StructEq
namespace Go.Proofs.YtmgmgmbpldboiaaGreat
open Go.RowKit

/-- Is it the made row's head that is taken? -/
def fromMade (S M : List (Nat × Nat)) : Prop := Fst (hd M) (hd S)
set_option maxRecDepth 100000 in
theorem pick_made {S M : List (Nat × Nat)} (hS : ∀ t ∈ S, t.1 < 4611686018427387904) (h : fromMade S M) : M ≠ [] ∧ fpick S M = (hd M, S, M.drop 1) := by
  unfold fromMade Fst at h
  match S, M, hS, h with
  | [], [], _, h => simp [hd] at h
  | s :: S, [], hS, h =>
    have := hS s List.mem_cons_self
    simp [hd] at h
    omega
  | [], m :: M, _, _ => exact ⟨by simp, rfl⟩
  | s :: S, m :: M, _, h =>
    refine ⟨by simp, ?_⟩
    have h2 : m.1 < s.1 ∨ (m.1 = s.1 ∧ m.2 < s.2) := h
    show (if m.1 < s.1 ∨ (m.1 = s.1 ∧ m.2 < s.2) then (m, s :: S, M) else (s, S, m :: M)) = _
    rw [if_pos h2]
    rfl
set_option maxRecDepth 100000 in
theorem pick_symbol {S M : List (Nat × Nat)} (hM : ∀ t ∈ M, t.1 < 4611686018427387904) (hS : ∀ t ∈ S, t.1 < 4611686018427387904) (hne : S ≠ [] ∨ M ≠ []) (hap : ∀ t ∈ S, ∀ u ∈ M, t.2 ≠ u.2) (h : ¬ fromMade S M) :
    S ≠ [] ∧ fpick S M = (hd S, S.drop 1, M) ∧ ¬ ((hd S).1 = (hd M).1 ∧ (hd S).2 = (hd M).2) := by
  unfold fromMade Fst at h
  match S, M, hS, hM, hne, hap, h with
  | [], [], _, _, hne, _, _ => simp at hne
  | s :: S, [], hS, _, _, _, h =>
    have := hS s List.mem_cons_self
    refine ⟨by simp, rfl, ?_⟩
    show ¬ (s.1 = 9223372036854775807 ∧ s.2 = 0)
    omega
  | [], m :: M, _, hM, _, _, h =>
    have := hM m List.mem_cons_self
    exfalso
    simp [hd] at h
    omega
  | s :: S, m :: M, _, _, _, hap, h =>
    have hne := hap s List.mem_cons_self m List.mem_cons_self
    refine ⟨by simp, ?_, fun hc => hne hc.2⟩
    have h2 : ¬ (m.1 < s.1 ∨ (m.1 = s.1 ∧ m.2 < s.2)) := h
    show (if m.1 < s.1 ∨ (m.1 = s.1 ∧ m.2 < s.2) then (m, s :: S, M) else (s, S, m :: M)) = _
    rw [if_neg h2]
    rfl

theorem stepA {w1 W : World} (h : Step w1.heap.size [] [] w1 W) (o : Obj) : Step w1.heap.size [] [] w1 (W.alloc o) := h.alloc h.size o
theorem stepD {w1 W : World} (h : Step w1.heap.size [] [] w1 W) : Step w1.heap.size [] [] w1 W.drew := h.drew
set_option maxRecDepth 100000 in
theorem stepS {w1 W : World} {b o : Nat} (h : Step w1.heap.size [] [] w1 W) (hp : w1.heap.size ≤ b) (v : Value) : Step w1.heap.size [] [] w1 (W.setCell ⟨b, o, none⟩ v) :=
  h.after ((Step.refl w1.heap.size [b] [] W).set (p := ⟨b, o, none⟩) hp (by simp) v) (Nat.le_refl _) (fun i hi => .inr (by rw [List.mem_singleton.1 hi]; exact hp)) (fun t ht => absurd ht (by simp))
set_option maxRecDepth 100000 in
theorem stepC {w1 W W2 : World} (h : Step w1.heap.size [] [] w1 W) (hb : Below W.heap.size W W2) : Step w1.heap.size [] [] w1 W2 := h.after (step_of_below hb) h.size (fun i hi => absurd hi (by simp)) (fun t ht => absurd ht (by simp))
theorem blkA {W : World} {g : Nat} {t : TypeId} {cs : Array Value} (h : Blk W g t cs) (o : Obj) : Blk (W.alloc o) g t cs := (heap_alloc_old W o (blk_lt h)).trans h
theorem blkD {W : World} {g : Nat} {t : TypeId} {cs : Array Value} (h : Blk W g t cs) : Blk W.drew g t cs := h
theorem blkC {W W2 : World} (hb : Below W.heap.size W W2) {g : Nat} {t : TypeId} {cs : Array Value} (h : Blk W g t cs) : Blk W2 g t cs := (hb.block g (blk_lt h)).trans h
theorem heap_set_other (w : World) {b g o : Nat} (v : Value) (h : b ≠ g) : (w.setCell ⟨g, o, none⟩ v).heap[b]? = w.heap[b]? := Below.heap_setCell w ⟨g, o, none⟩ v b h
theorem blk_apart {W : World} {g g2 : Nat} {t t2 : TypeId} {cs cs2 : Array Value} (h : Blk W g t cs) (k : Blk W g2 t2 cs2) (ht : t ≠ t2) (e : g = g2) : False := by
  subst e
  unfold Blk at h k
  rw [h] at k
  injection k with k
  injection k with _ k2
  exact ht k2
theorem heldT : Tryz.prog.stoodInHeld 111 = false := by kernel_rfl
set_option maxRecDepth 100000 in
theorem fieldsT : Tryz.prog.underlying 111 = some (.struct (Tryz.prog.fieldsOf 111)) := by simp [Program.fieldsOf, Tryz.underlying111]
set_option maxRecDepth 100000 in
/-- A tree is equal to itself, and to no other. -/
theorem tree_same (a b : Int) (w : World) : (binOp .eql 111 (.agg #[.int .i64 a, .int .i64 b]) (.agg #[.int .i64 a, .int .i64 b])).run Tryz.prog w = .ok (.bool true) w := by
  rw [run_eql_struct, run_equalIn_agg w 9999 111 _ _ fieldsT heldT]
  simp [Program.fieldsOf, Tryz.underlying111, Op.eqFields, part, go_sem]
set_option maxRecDepth 100000 in
theorem tree_other (a b c d : Int) (h : ¬ (a = c ∧ b = d)) (w : World) : (binOp .eql 111 (.agg #[.int .i64 a, .int .i64 b]) (.agg #[.int .i64 c, .int .i64 d])).run Tryz.prog w = .ok (.bool false) w := by
  rw [run_eql_struct, run_equalIn_agg w 9999 111 _ _ fieldsT heldT]
  by_cases e : a = c
  · have e2 : b ≠ d := fun e2 => h ⟨e, e2⟩
    simp [Program.fieldsOf, Tryz.underlying111, Op.eqFields, part, go_sem, e, e2]
  · simp [Program.fieldsOf, Tryz.underlying111, Op.eqFields, part, go_sem, e]

set_option maxHeartbeats 3200000 in
set_option maxRecDepth 100000 in
theorem first_any (w : World) (B bS bM gS gM p q N : Nat) (AS : Option Addr) (LS LM : List (Nat × Nat))
    (hS : Blk w bS 107 #[.slice AS (LS.length - p : Nat) (LS.length - p : Nat)]) (hM : Blk w bM 107 #[.slice (some ⟨gM, q * 2, none⟩) (LM.length - q : Nat) (N - q : Nat)])
    (tS : TRow w gS LS) (tM : TRow w gM LM) (hAS : p < LS.length → AS = some ⟨gS, p * 2, none⟩) (hp : p ≤ LS.length) (hq : q ≤ LM.length) (hN : q + 2 ≤ N) (hLN : LM.length ≤ N) (hL : LS.length ≤ 1000000) (hN2 : N ≤ 1000000)
    (hbS : ∀ t ∈ LS, t.1 < 4611686018427387904) (hbM : ∀ t ∈ LM, t.1 < 4611686018427387904) (hap : ∀ t ∈ LS, ∀ u ∈ LM, t.2 ≠ u.2) (hne : p < LS.length ∨ q < LM.length) (hBS : B ≤ bS) (hBM : B ≤ bM) (hbb : bS ≠ bM) :
    Calls Tryz.prog 152 #[.pointer (some ⟨bS, 0, none⟩), .pointer (some ⟨bM, 0, none⟩)] w fun e w' => ∃ x : Nat × Nat, e = .returned (.agg #[.int .i64 x.1, .int .i64 x.2]) ∧ Step B [bS, bM] [] w w' ∧
      ((p < LS.length ∧ fpick (LS.drop p) (LM.drop q) = (x, LS.drop (p + 1), LM.drop q) ∧ (∃ A, Blk w' bS 107 #[.slice A (LS.length - (p + 1) : Nat) (LS.length - (p + 1) : Nat)] ∧ (p + 1 < LS.length → A = some ⟨gS, (p + 1) * 2, none⟩)) ∧ Blk w' bM 107 #[.slice (some ⟨gM, q * 2, none⟩) (LM.length - q : Nat) (N - q : Nat)]) ∨
       (q < LM.length ∧ fpick (LS.drop p) (LM.drop q) = (x, LS.drop p, LM.drop (q + 1)) ∧ Blk w' bS 107 #[.slice AS (LS.length - p : Nat) (LS.length - p : Nat)] ∧ Blk w' bM 107 #[.slice (some ⟨gM, (q + 1) * 2, none⟩) (LM.length - (q + 1) : Nat) (N - (q + 1) : Nat)])) := by
  have HHS := Lib.hid fun (w1 : World) (h : TRow w1 gS LS) => head_any w1 AS gS p (LS.length - p) LS h hAS hp hL
  have HHM := Lib.hid fun (w1 : World) (h : TRow w1 gM LM) => head_any w1 (some ⟨gM, q * 2, none⟩) gM q (N - q) LM h (fun _ => rfl) hq (by omega)
  have HMI := Lib.hid fun (w1 : World) (b : Nat) => minTwo_any w1 b 2 (hd (LS.drop p)) (hd (LM.drop q))
  obtain ⟨s, hs⟩ : ∃ s, s = hd (LS.drop p) := ⟨_, rfl⟩
  obtain ⟨m, hm⟩ : ∃ m, m = hd (LM.drop q) := ⟨_, rfl⟩
  obtain ⟨z, hz⟩ : ∃ z, z = lesser s m := ⟨_, rfl⟩
  obtain ⟨kS, hkS⟩ : ∃ k, k = LS.length - p := ⟨_, rfl⟩
  obtain ⟨kM, hkM⟩ : ∃ k, k = LM.length - q := ⟨_, rfl⟩
  obtain ⟨cM, hcM⟩ : ∃ k, k = N - q := ⟨_, rfl⟩
  rw [← hs] at HHS HMI
  rw [← hm] at HHM HMI
  rw [← hz] at HMI
  rw [← hkS] at HHS hS
  rw [← hkM, ← hcM] at HHM hM
  have TS := Lib.hid tS
  have TM := Lib.hid tM
  have HS := Lib.hid hS
  have HM := Lib.hid hM
  have sl0 : w.cell? ⟨bS, 0, none⟩ = some (.slice AS kS kS) := blk_cell hS 0
  have ml0 : w.cell? ⟨bM, 0, none⟩ = some (.slice (some ⟨gM, q * 2, none⟩) kM cM) := blk_cell hM 0
  have zS := blk_lt hS
  have zM := blk_lt hM
  -- the four of two heads
  have HMI2 : Hid (∀ (w1 : World) (b : Nat), w1.cell? ⟨b, 0, none⟩ = some (.int .i64 s.1) → w1.cell? ⟨b, 1, none⟩ = some (.int .i64 s.2) → w1.cell? ⟨b, 2, none⟩ = some (.int .i64 m.1) → w1.cell? ⟨b, 3, none⟩ = some (.int .i64 m.2) → Calls Tryz.prog 153 #[.slice (some ⟨b, 0, none⟩) 2 2, .func (.func 151) #[] #[]] w1 fun e w' => e = .returned (.agg #[.int .i64 z.1, .int .i64 z.2]) ∧ Below w1.heap.size w1 w') := Lib.hid fun w1 b => HMI.out w1 b
  have EQ : Hid (s = hd (LS.drop p) ∧ m = hd (LM.drop q) ∧ z = lesser s m ∧ kS = LS.length - p ∧ kM = LM.length - q ∧ cM = N - q) := Lib.hid ⟨hs, hm, hz, hkS, hkM, hcM⟩
  clear hS hM tS tM HMI hs hm hz hkS hkM hcM
  go_enter Tryz.func152, Tryz.ntmps152
  go_wp2_with fail
  obtain ⟨w1, hw1⟩ : ∃ w1, w1 = w.alloc (.cells #[.int .i64 0, .int .i64 0] 111) := ⟨_, rfl⟩
  have st0 : Step w.heap.size [] [] w w1 := by rw [hw1]; exact (Step.refl w.heap.size [] [] w).alloc (Nat.le_refl _) _
  have hr1 : Hid (Blk w1 w.heap.size 111 #[.int .i64 0, .int .i64 0]) := Lib.hid (by rw [hw1]; exact blk_new w _ _)
  have ST0 := Lib.hid st0
  have st1 : Step w1.heap.size [] [] w1 w1 := Step.refl _ _ _ _
  have z1 : w.heap.size < w1.heap.size := blk_lt hr1.out
  have CS : Hid (∀ W, Step w1.heap.size [] [] w1 W → W.cell? ⟨bS, 0, none⟩ = some (.slice AS kS kS)) := Lib.hid fun W h => (h.below.cell (p := ⟨bS, 0, none⟩) (Nat.lt_trans zS z1)).trans ((st0.below.cell (p := ⟨bS, 0, none⟩) zS).trans sl0)
  have CM : Hid (∀ W, Step w1.heap.size [] [] w1 W → W.cell? ⟨bM, 0, none⟩ = some (.slice (some ⟨gM, q * 2, none⟩) kM cM)) := Lib.hid fun W h => (h.below.cell (p := ⟨bM, 0, none⟩) (Nat.lt_trans zM z1)).trans ((st0.below.cell (p := ⟨bM, 0, none⟩) zM).trans ml0)
  have RS : Hid (∀ W, Step w1.heap.size [] [] w1 W → TRow W gS LS) := Lib.hid fun W h => h.trow (st0.trow TS.out (by simp)) (by simp)
  have RM : Hid (∀ W, Step w1.heap.size [] [] w1 W → TRow W gM LM) := Lib.hid fun W h => h.trow (st0.trow TM.out (by simp)) (by simp)
  have sl1 := CS.out w1 st1
  have ml1 := CM.out w1 st1
  rw [← hw1]
  clear hw1 st0 sl0 ml0
  go_cut [3] from 4 to 9 (fun s3 wx => ∃ h, s3 = .pointer (some ⟨h, 0, none⟩) ∧ Blk wx h 111 #[.int .i64 z.1, .int .i64 z.2] ∧ Step w1.heap.size [] [] w1 wx)
  case first =>
    go_region_held3 (fun w' => w'.cell? ⟨bS, 0, none⟩ = some (.slice AS kS kS) ∧ w'.cell? ⟨bM, 0, none⟩ = some (.slice (some ⟨gM, q * 2, none⟩) kM cM))
      (exact ⟨CS.out _ (by repeat (first | with_reducible assumption | with_reducible refine stepD ?_ | with_reducible refine stepA ?_ _ | with_reducible refine stepS ?_ ?_ _ | omega)), CM.out _ (by repeat (first | with_reducible assumption | with_reducible refine stepD ?_ | with_reducible refine stepA ?_ _ | with_reducible refine stepS ?_ ?_ _ | omega))⟩)
      (first
        | (go_at_call 154; with_reducible refine (HHS.out _ (RS.out _ (by repeat (first | with_reducible assumption | with_reducible refine stepD ?_ | with_reducible refine stepA ?_ _)))).mono ?_; rintro e w2 ⟨rfl, hb2⟩
           have st2 : Step w1.heap.size [] [] w1 w2 := stepC (by repeat (first | with_reducible assumption | with_reducible refine stepD ?_ | with_reducible refine stepA ?_ _)) hb2
           have z2 := st2.size
           (first
             | (with_reducible have hT := (blkC hb2 (blk_new _ _ _) : Blk w2 _ 111 #[.int .i64 0, .int .i64 0]); have hT0 := (blk_cell hT 0).trans (rfl : (#[.int .i64 0, .int .i64 0] : Array Value)[0]? = some (.int .i64 0)); have hT1 := (blk_cell hT 1).trans (rfl : (#[.int .i64 0, .int .i64 0] : Array Value)[1]? = some (.int .i64 0)); have hTf0 := blk_frozen hT 0; have hTf1 := blk_frozen hT 1; (try rw [World.size_alloc] at hT0 hT1 hTf0 hTf1))
             | (with_reducible have hT := (blkC hb2 (blkD (blk_new _ _ _)) : Blk w2 _ 111 #[.int .i64 0, .int .i64 0]); have hT0 := (blk_cell hT 0).trans (rfl : (#[.int .i64 0, .int .i64 0] : Array Value)[0]? = some (.int .i64 0)); have hT1 := (blk_cell hT 1).trans (rfl : (#[.int .i64 0, .int .i64 0] : Array Value)[1]? = some (.int .i64 0)); have hTf0 := blk_frozen hT 0; have hTf1 := blk_frozen hT 1; (try rw [World.size_alloc] at hT0 hT1 hTf0 hTf1))
             | (with_reducible have hT := (blkC hb2 (blkA (blk_new _ _ _) _) : Blk w2 _ 111 #[.int .i64 0, .int .i64 0]); have hT0 := (blk_cell hT 0).trans (rfl : (#[.int .i64 0, .int .i64 0] : Array Value)[0]? = some (.int .i64 0)); have hT1 := (blk_cell hT 1).trans (rfl : (#[.int .i64 0, .int .i64 0] : Array Value)[1]? = some (.int .i64 0)); have hTf0 := blk_frozen hT 0; have hTf1 := blk_frozen hT 1; (try rw [World.size_alloc] at hT0 hT1 hTf0 hTf1))
             | (with_reducible have hT := (blkC hb2 (blkD (blkA (blk_new _ _ _) _)) : Blk w2 _ 111 #[.int .i64 0, .int .i64 0]); have hT0 := (blk_cell hT 0).trans (rfl : (#[.int .i64 0, .int .i64 0] : Array Value)[0]? = some (.int .i64 0)); have hT1 := (blk_cell hT 1).trans (rfl : (#[.int .i64 0, .int .i64 0] : Array Value)[1]? = some (.int .i64 0)); have hTf0 := blk_frozen hT 0; have hTf1 := blk_frozen hT 1; (try rw [World.size_alloc] at hT0 hT1 hTf0 hTf1))
             | (with_reducible have hT := (blkC hb2 (hT) : Blk w2 _ 111 #[.int .i64 0, .int .i64 0]); have hT0 := (blk_cell hT 0).trans (rfl : (#[.int .i64 0, .int .i64 0] : Array Value)[0]? = some (.int .i64 0)); have hT1 := (blk_cell hT 1).trans (rfl : (#[.int .i64 0, .int .i64 0] : Array Value)[1]? = some (.int .i64 0)); have hTf0 := blk_frozen hT 0; have hTf1 := blk_frozen hT 1; (try rw [World.size_alloc] at hT0 hT1 hTf0 hTf1))
             | (with_reducible have hT := (blkC hb2 (blkD hT) : Blk w2 _ 111 #[.int .i64 0, .int .i64 0]); have hT0 := (blk_cell hT 0).trans (rfl : (#[.int .i64 0, .int .i64 0] : Array Value)[0]? = some (.int .i64 0)); have hT1 := (blk_cell hT 1).trans (rfl : (#[.int .i64 0, .int .i64 0] : Array Value)[1]? = some (.int .i64 0)); have hTf0 := blk_frozen hT 0; have hTf1 := blk_frozen hT 1; (try rw [World.size_alloc] at hT0 hT1 hTf0 hTf1))
             | (with_reducible have hT := (blkC hb2 (blkA hT _) : Blk w2 _ 111 #[.int .i64 0, .int .i64 0]); have hT0 := (blk_cell hT 0).trans (rfl : (#[.int .i64 0, .int .i64 0] : Array Value)[0]? = some (.int .i64 0)); have hT1 := (blk_cell hT 1).trans (rfl : (#[.int .i64 0, .int .i64 0] : Array Value)[1]? = some (.int .i64 0)); have hTf0 := blk_frozen hT 0; have hTf1 := blk_frozen hT 1; (try rw [World.size_alloc] at hT0 hT1 hTf0 hTf1))
             | (with_reducible have hT := (blkC hb2 (blkD (blkA hT _)) : Blk w2 _ 111 #[.int .i64 0, .int .i64 0]); have hT0 := (blk_cell hT 0).trans (rfl : (#[.int .i64 0, .int .i64 0] : Array Value)[0]? = some (.int .i64 0)); have hT1 := (blk_cell hT 1).trans (rfl : (#[.int .i64 0, .int .i64 0] : Array Value)[1]? = some (.int .i64 0)); have hTf0 := blk_frozen hT 0; have hTf1 := blk_frozen hT 1; (try rw [World.size_alloc] at hT0 hT1 hTf0 hTf1))
             | skip))
        | (go_at_call 154; with_reducible refine (HHM.out _ (RM.out _ (by repeat (first | with_reducible assumption | with_reducible refine stepD ?_ | with_reducible refine stepA ?_ _)))).mono ?_; rintro e w3 ⟨rfl, hb3⟩
           have st3 : Step w1.heap.size [] [] w1 w3 := stepC (by repeat (first | with_reducible assumption | with_reducible refine stepD ?_ | with_reducible refine stepA ?_ _)) hb3
           have z3 := st3.size
           (first
             | (with_reducible have hT := (blkC hb3 (blk_new _ _ _) : Blk w3 _ 111 #[.int .i64 0, .int .i64 0]); have hT0 := (blk_cell hT 0).trans (rfl : (#[.int .i64 0, .int .i64 0] : Array Value)[0]? = some (.int .i64 0)); have hT1 := (blk_cell hT 1).trans (rfl : (#[.int .i64 0, .int .i64 0] : Array Value)[1]? = some (.int .i64 0)); have hTf0 := blk_frozen hT 0; have hTf1 := blk_frozen hT 1; (try rw [World.size_alloc] at hT0 hT1 hTf0 hTf1))
             | (with_reducible have hT := (blkC hb3 (blkD (blk_new _ _ _)) : Blk w3 _ 111 #[.int .i64 0, .int .i64 0]); have hT0 := (blk_cell hT 0).trans (rfl : (#[.int .i64 0, .int .i64 0] : Array Value)[0]? = some (.int .i64 0)); have hT1 := (blk_cell hT 1).trans (rfl : (#[.int .i64 0, .int .i64 0] : Array Value)[1]? = some (.int .i64 0)); have hTf0 := blk_frozen hT 0; have hTf1 := blk_frozen hT 1; (try rw [World.size_alloc] at hT0 hT1 hTf0 hTf1))
             | (with_reducible have hT := (blkC hb3 (blkA (blk_new _ _ _) _) : Blk w3 _ 111 #[.int .i64 0, .int .i64 0]); have hT0 := (blk_cell hT 0).trans (rfl : (#[.int .i64 0, .int .i64 0] : Array Value)[0]? = some (.int .i64 0)); have hT1 := (blk_cell hT 1).trans (rfl : (#[.int .i64 0, .int .i64 0] : Array Value)[1]? = some (.int .i64 0)); have hTf0 := blk_frozen hT 0; have hTf1 := blk_frozen hT 1; (try rw [World.size_alloc] at hT0 hT1 hTf0 hTf1))
             | (with_reducible have hT := (blkC hb3 (blkD (blkA (blk_new _ _ _) _)) : Blk w3 _ 111 #[.int .i64 0, .int .i64 0]); have hT0 := (blk_cell hT 0).trans (rfl : (#[.int .i64 0, .int .i64 0] : Array Value)[0]? = some (.int .i64 0)); have hT1 := (blk_cell hT 1).trans (rfl : (#[.int .i64 0, .int .i64 0] : Array Value)[1]? = some (.int .i64 0)); have hTf0 := blk_frozen hT 0; have hTf1 := blk_frozen hT 1; (try rw [World.size_alloc] at hT0 hT1 hTf0 hTf1))
             | (with_reducible have hT := (blkC hb3 (hT) : Blk w3 _ 111 #[.int .i64 0, .int .i64 0]); have hT0 := (blk_cell hT 0).trans (rfl : (#[.int .i64 0, .int .i64 0] : Array Value)[0]? = some (.int .i64 0)); have hT1 := (blk_cell hT 1).trans (rfl : (#[.int .i64 0, .int .i64 0] : Array Value)[1]? = some (.int .i64 0)); have hTf0 := blk_frozen hT 0; have hTf1 := blk_frozen hT 1; (try rw [World.size_alloc] at hT0 hT1 hTf0 hTf1))
             | (with_reducible have hT := (blkC hb3 (blkD hT) : Blk w3 _ 111 #[.int .i64 0, .int .i64 0]); have hT0 := (blk_cell hT 0).trans (rfl : (#[.int .i64 0, .int .i64 0] : Array Value)[0]? = some (.int .i64 0)); have hT1 := (blk_cell hT 1).trans (rfl : (#[.int .i64 0, .int .i64 0] : Array Value)[1]? = some (.int .i64 0)); have hTf0 := blk_frozen hT 0; have hTf1 := blk_frozen hT 1; (try rw [World.size_alloc] at hT0 hT1 hTf0 hTf1))
             | (with_reducible have hT := (blkC hb3 (blkA hT _) : Blk w3 _ 111 #[.int .i64 0, .int .i64 0]); have hT0 := (blk_cell hT 0).trans (rfl : (#[.int .i64 0, .int .i64 0] : Array Value)[0]? = some (.int .i64 0)); have hT1 := (blk_cell hT 1).trans (rfl : (#[.int .i64 0, .int .i64 0] : Array Value)[1]? = some (.int .i64 0)); have hTf0 := blk_frozen hT 0; have hTf1 := blk_frozen hT 1; (try rw [World.size_alloc] at hT0 hT1 hTf0 hTf1))
             | (with_reducible have hT := (blkC hb3 (blkD (blkA hT _)) : Blk w3 _ 111 #[.int .i64 0, .int .i64 0]); have hT0 := (blk_cell hT 0).trans (rfl : (#[.int .i64 0, .int .i64 0] : Array Value)[0]? = some (.int .i64 0)); have hT1 := (blk_cell hT 1).trans (rfl : (#[.int .i64 0, .int .i64 0] : Array Value)[1]? = some (.int .i64 0)); have hTf0 := blk_frozen hT 0; have hTf1 := blk_frozen hT 1; (try rw [World.size_alloc] at hT0 hT1 hTf0 hTf1))
             | skip))
        | (go_at_call 153; refine (HMI2.out _ _ (by simp) (by simp) (by simp) (by simp)).mono ?_; rintro e w4 ⟨rfl, hb4⟩
           have st4 : Step w1.heap.size [] [] w1 w4 := stepC (by repeat (first | with_reducible assumption | with_reducible refine stepD ?_ | with_reducible refine stepA ?_ _)) hb4
           have z4 := st4.size
           (first
             | (with_reducible have hT := (blkC hb4 (blk_new _ _ _) : Blk w4 _ 111 #[.int .i64 0, .int .i64 0]); have hT0 := (blk_cell hT 0).trans (rfl : (#[.int .i64 0, .int .i64 0] : Array Value)[0]? = some (.int .i64 0)); have hT1 := (blk_cell hT 1).trans (rfl : (#[.int .i64 0, .int .i64 0] : Array Value)[1]? = some (.int .i64 0)); have hTf0 := blk_frozen hT 0; have hTf1 := blk_frozen hT 1; (try rw [World.size_alloc] at hT0 hT1 hTf0 hTf1))
             | (with_reducible have hT := (blkC hb4 (blkD (blk_new _ _ _)) : Blk w4 _ 111 #[.int .i64 0, .int .i64 0]); have hT0 := (blk_cell hT 0).trans (rfl : (#[.int .i64 0, .int .i64 0] : Array Value)[0]? = some (.int .i64 0)); have hT1 := (blk_cell hT 1).trans (rfl : (#[.int .i64 0, .int .i64 0] : Array Value)[1]? = some (.int .i64 0)); have hTf0 := blk_frozen hT 0; have hTf1 := blk_frozen hT 1; (try rw [World.size_alloc] at hT0 hT1 hTf0 hTf1))
             | (with_reducible have hT := (blkC hb4 (blkA (blk_new _ _ _) _) : Blk w4 _ 111 #[.int .i64 0, .int .i64 0]); have hT0 := (blk_cell hT 0).trans (rfl : (#[.int .i64 0, .int .i64 0] : Array Value)[0]? = some (.int .i64 0)); have hT1 := (blk_cell hT 1).trans (rfl : (#[.int .i64 0, .int .i64 0] : Array Value)[1]? = some (.int .i64 0)); have hTf0 := blk_frozen hT 0; have hTf1 := blk_frozen hT 1; (try rw [World.size_alloc] at hT0 hT1 hTf0 hTf1))
             | (with_reducible have hT := (blkC hb4 (blkD (blkA (blk_new _ _ _) _)) : Blk w4 _ 111 #[.int .i64 0, .int .i64 0]); have hT0 := (blk_cell hT 0).trans (rfl : (#[.int .i64 0, .int .i64 0] : Array Value)[0]? = some (.int .i64 0)); have hT1 := (blk_cell hT 1).trans (rfl : (#[.int .i64 0, .int .i64 0] : Array Value)[1]? = some (.int .i64 0)); have hTf0 := blk_frozen hT 0; have hTf1 := blk_frozen hT 1; (try rw [World.size_alloc] at hT0 hT1 hTf0 hTf1))
             | (with_reducible have hT := (blkC hb4 (hT) : Blk w4 _ 111 #[.int .i64 0, .int .i64 0]); have hT0 := (blk_cell hT 0).trans (rfl : (#[.int .i64 0, .int .i64 0] : Array Value)[0]? = some (.int .i64 0)); have hT1 := (blk_cell hT 1).trans (rfl : (#[.int .i64 0, .int .i64 0] : Array Value)[1]? = some (.int .i64 0)); have hTf0 := blk_frozen hT 0; have hTf1 := blk_frozen hT 1; (try rw [World.size_alloc] at hT0 hT1 hTf0 hTf1))
             | (with_reducible have hT := (blkC hb4 (blkD hT) : Blk w4 _ 111 #[.int .i64 0, .int .i64 0]); have hT0 := (blk_cell hT 0).trans (rfl : (#[.int .i64 0, .int .i64 0] : Array Value)[0]? = some (.int .i64 0)); have hT1 := (blk_cell hT 1).trans (rfl : (#[.int .i64 0, .int .i64 0] : Array Value)[1]? = some (.int .i64 0)); have hTf0 := blk_frozen hT 0; have hTf1 := blk_frozen hT 1; (try rw [World.size_alloc] at hT0 hT1 hTf0 hTf1))
             | (with_reducible have hT := (blkC hb4 (blkA hT _) : Blk w4 _ 111 #[.int .i64 0, .int .i64 0]); have hT0 := (blk_cell hT 0).trans (rfl : (#[.int .i64 0, .int .i64 0] : Array Value)[0]? = some (.int .i64 0)); have hT1 := (blk_cell hT 1).trans (rfl : (#[.int .i64 0, .int .i64 0] : Array Value)[1]? = some (.int .i64 0)); have hTf0 := blk_frozen hT 0; have hTf1 := blk_frozen hT 1; (try rw [World.size_alloc] at hT0 hT1 hTf0 hTf1))
             | (with_reducible have hT := (blkC hb4 (blkD (blkA hT _)) : Blk w4 _ 111 #[.int .i64 0, .int .i64 0]); have hT0 := (blk_cell hT 0).trans (rfl : (#[.int .i64 0, .int .i64 0] : Array Value)[0]? = some (.int .i64 0)); have hT1 := (blk_cell hT 1).trans (rfl : (#[.int .i64 0, .int .i64 0] : Array Value)[1]? = some (.int .i64 0)); have hTf0 := blk_frozen hT 0; have hTf1 := blk_frozen hT 1; (try rw [World.size_alloc] at hT0 hT1 hTf0 hTf1))
             | skip)))
    all_goals go_wp2_with fail
    all_goals go_meet
    all_goals refine ⟨_, rfl, ?_, (by repeat (first | with_reducible assumption | with_reducible refine stepD ?_ | with_reducible refine stepA ?_ _ | with_reducible refine stepS ?_ ?_ _ | omega))⟩
    all_goals (first | exact blk_new _ _ _ | exact blk_set (blk_set hT 0 _) 1 _ | (have h9 := blk_set (blk_set hT 0 (.int .i64 z.1)) 1 (.int .i64 z.2); simp only [World.size_alloc] at h9; exact h9))
  case rest =>
    obtain ⟨h, rfl, ht, hst⟩ := hcut
    have ht0 : wc.cell? ⟨h, 0, none⟩ = some (.int .i64 z.1) := blk_cell ht 0
    have ht1 : wc.cell? ⟨h, 1, none⟩ = some (.int .i64 z.2) := blk_cell ht 1
    have mlc := CM.out wc hst
    have hd0 : wc.drew.cell? ⟨h, 0, none⟩ = some (.int .i64 z.1) := ht0
    have hd1 : wc.drew.cell? ⟨h, 1, none⟩ = some (.int .i64 z.2) := ht1
    have mld : wc.drew.cell? ⟨bM, 0, none⟩ = some (.slice (some ⟨gM, q * 2, none⟩) kM cM) := mlc
    have zh := blk_lt ht
    have zMc : bM < wc.heap.size := Nat.lt_of_lt_of_le (Nat.lt_trans zM z1) hst.size
    have HT := Lib.hid ht
    have rMd : TRow wc.drew gM LM := RM.out _ (stepD hst)
    clear ht sl1 ml1
    obtain ⟨e1, e2, e3, e4, e5, e6⟩ := EQ.out
    by_cases hf : fromMade (LS.drop p) (LM.drop q)
    · have hz : z = m := by
        rw [e3]
        unfold lesser
        rw [if_pos ((rise_fst m s).2 (by rw [e1, e2]; exact hf))]
      subst hz
      have hpk := pick_made (fun t ht => hbS t (List.mem_of_mem_drop ht)) hf
      have q13 := tree_same (z.1 : Int) (z.2 : Int)
      have hlq : q < LM.length := by
        rcases Nat.lt_or_ge q LM.length with h1 | h1
        · exact h1
        · exact absurd (List.drop_eq_nil_of_le h1) hpk.1
      have hkm : 1 ≤ kM := by omega
      have hcm : kM ≤ cM := by omega
      have hcm2 : 2 ≤ cM := by omega
      have PK := Lib.hid hpk
      have EQ2 : Hid (kS = LS.length - p ∧ kM = LM.length - q ∧ cM = N - q) := Lib.hid ⟨e4, e5, e6⟩
      have E0 := Lib.hid e2
      clear hpk hf e1 e2 e3 e4 e5 e6
      go_wp2_with fail
      go_region_held3 (fun w' => w'.cell? ⟨h, 0, none⟩ = some (.int .i64 z.1) ∧ w'.cell? ⟨h, 1, none⟩ = some (.int .i64 z.2) ∧ w'.cell? ⟨bM, 0, none⟩ = some (.slice (some ⟨gM, q * 2, none⟩) kM cM))
        (first | with_reducible exact ⟨ht0, ht1, mlc⟩ | with_reducible exact ⟨hd0, hd1, mld⟩ | with_reducible exact ⟨he0, he1, mle⟩)
        (first
          | (go_at_call 154; with_reducible refine (HHM.out _ rMd).mono ?_; rintro e w5 ⟨rfl, hb5⟩
             have he0 : w5.cell? ⟨h, 0, none⟩ = some (.int .i64 z.1) := (hb5.cell (p := ⟨h, 0, none⟩) zh).trans hd0
             have he1 : w5.cell? ⟨h, 1, none⟩ = some (.int .i64 z.2) := (hb5.cell (p := ⟨h, 1, none⟩) zh).trans hd1
             have mle : w5.cell? ⟨bM, 0, none⟩ = some (.slice (some ⟨gM, q * 2, none⟩) kM cM) := (hb5.cell (p := ⟨bM, 0, none⟩) zMc).trans mld
             have st5 : Step w1.heap.size [] [] w1 w5 := stepC (stepD hst) hb5))
      have M5 : Blk w5 bM 107 #[.slice (some ⟨gM, q * 2, none⟩) kM cM] := st5.blk (ST0.out.blk HM.out (by simp) (by simp)) (by simp) (by simp)
      have S5 : Blk w5 bS 107 #[.slice AS kS kS] := st5.blk (ST0.out.blk HS.out (by simp) (by simp)) (by simp) (by simp)
      have R5 : Blk w5 w.heap.size 111 #[.int .i64 0, .int .i64 0] := st5.blk hr1.out (by simp) (by simp)
      have T5 : Blk w5 h 111 #[.int .i64 z.1, .int .i64 z.2] := blkC hb5 HT.out
      have fM5 := blk_frozen M5 0
      clear hb5 mlc mld hd0 hd1 ht0 ht1
      obtain ⟨w6, hw6⟩ : ∃ w6, w6 = w5.setCell ⟨bM, 0, none⟩ (.slice (some ⟨gM, q * 2 + 2, none⟩) (kM - 1) (cM - 1)) := ⟨_, rfl⟩
      have st6 : Step B [bS, bM] [] w5 w6 := by rw [hw6]; exact (Step.refl B [bS, bM] [] w5).set (p := ⟨bM, 0, none⟩) (by first | exact hBS | exact hBM) (by simp) _
      have N6 : Blk w6 bM 107 #[(.slice (some ⟨gM, q * 2 + 2, none⟩) (kM - 1) (cM - 1))] := by rw [hw6]; exact blk_set M5 0 _
      have O6 : Blk w6 bS 107 #[.slice AS kS kS] := by
        rw [hw6]
        exact (heap_set_other w5 _ hbb).trans S5
      have hne6 : h ≠ bM := fun e => blk_apart T5 M5 (by decide) e
      have hne7 : w.heap.size ≠ bM := fun e => blk_apart R5 M5 (by decide) e
      have T6 : Blk w6 h 111 #[.int .i64 z.1, .int .i64 z.2] := by rw [hw6]; exact (heap_set_other w5 _ hne6).trans T5
      have R6 : Blk w6 w.heap.size 111 #[.int .i64 0, .int .i64 0] := by rw [hw6]; exact (heap_set_other w5 _ hne7).trans R5
      have c60 : (w5.setCell ⟨bM, 0, none⟩ (.slice (some ⟨gM, q * 2 + 2, none⟩) (kM - 1) (cM - 1))).cell? ⟨h, 0, none⟩ = some (.int .i64 z.1) := by rw [← hw6]; exact blk_cell T6 0
      have c61 : (w5.setCell ⟨bM, 0, none⟩ (.slice (some ⟨gM, q * 2 + 2, none⟩) (kM - 1) (cM - 1))).cell? ⟨h, 1, none⟩ = some (.int .i64 z.2) := by rw [← hw6]; exact blk_cell T6 1
      have r60 : (w5.setCell ⟨bM, 0, none⟩ (.slice (some ⟨gM, q * 2 + 2, none⟩) (kM - 1) (cM - 1))).cell? ⟨w.heap.size, 0, none⟩ = some (.int .i64 0) := by rw [← hw6]; exact blk_cell R6 0
      have r61 : (w5.setCell ⟨bM, 0, none⟩ (.slice (some ⟨gM, q * 2 + 2, none⟩) (kM - 1) (cM - 1))).cell? ⟨w.heap.size, 1, none⟩ = some (.int .i64 0) := by rw [← hw6]; exact blk_cell R6 1
      have f60 : (w5.setCell ⟨bM, 0, none⟩ (.slice (some ⟨gM, q * 2 + 2, none⟩) (kM - 1) (cM - 1))).frozen? ⟨w.heap.size, 0, none⟩ = false := by rw [← hw6]; exact blk_frozen R6 0
      have f61 : (w5.setCell ⟨bM, 0, none⟩ (.slice (some ⟨gM, q * 2 + 2, none⟩) (kM - 1) (cM - 1))).frozen? ⟨w.heap.size, 1, none⟩ = false := by rw [← hw6]; exact blk_frozen R6 1
      have R7 := blk_set (blk_set R6 0 (.int .i64 z.1)) 1 (.int .i64 z.2)
      have ST : Hid (Step B [bS, bM] [] w ((w6.setCell ⟨w.heap.size, 0, none⟩ (.int .i64 z.1)).setCell ⟨w.heap.size, 1, none⟩ (.int .i64 z.2))) := Lib.hid (by
        have a1 : Step B [bS, bM] [] w w1 := ST0.out.mono (by omega) (by simp) (by simp)
        have a2 : Step B [bS, bM] [] w w5 := a1.after st5 (by omega) (by simp) (by simp)
        have a3 : Step B [bS, bM] [] w w6 := a2.trans st6
        exact a3.after (((Step.refl B [w.heap.size] [] w6).set (p := ⟨w.heap.size, 0, none⟩) (by show B ≤ w.heap.size; omega) (by simp) _).set (p := ⟨w.heap.size, 1, none⟩) (by show B ≤ w.heap.size; omega) (by simp) _) (Nat.le_refl _) (by intro i hi; rw [List.mem_singleton.1 hi]; exact .inr (Nat.le_refl _)) (by simp))
      have N7 : Hid (Blk ((w6.setCell ⟨w.heap.size, 0, none⟩ (.int .i64 z.1)).setCell ⟨w.heap.size, 1, none⟩ (.int .i64 z.2)) bM 107 #[(.slice (some ⟨gM, q * 2 + 2, none⟩) (kM - 1) (cM - 1))]) := Lib.hid ((heap_set_other _ _ hne7.symm).trans ((heap_set_other _ _ hne7.symm).trans N6))
      have hneo : bS ≠ w.heap.size := fun e => blk_apart R6 O6 (by decide) e.symm
      have O7 : Hid (Blk ((w6.setCell ⟨w.heap.size, 0, none⟩ (.int .i64 z.1)).setCell ⟨w.heap.size, 1, none⟩ (.int .i64 z.2)) bS 107 #[.slice AS kS kS]) := Lib.hid ((heap_set_other _ _ hneo).trans ((heap_set_other _ _ hneo).trans O6))
      have q0 := (blk_cell R7 0).trans (rfl : _ = some (Value.int .i64 z.1))
      have q1 := (blk_cell R7 1).trans (rfl : _ = some (Value.int .i64 z.2))
      rw [hw6] at ST N7 O7 q0 q1
      clear R7 R6 T6 O6 N6 st6 hw6 M5 S5 R5 T5
      go_wp2_with fail
      (try simp only [Exit.inBlock, Exit.then])
      refine bodyPost_ret (v := .agg #[.int .i64 z.1, .int .i64 z.2]) ?_ rfl ?_
      · simp [results, Tryz.results152, go_sem, q0, q1]
      · obtain ⟨e1, e2, e3⟩ := EQ2.out
        refine ⟨z, rfl, ST.out, .inr ⟨hlq, ?_, ?_, ?_⟩⟩
        · rw [PK.out.2, List.drop_drop, ← E0.out]
        · rw [← e1]
          exact O7.out
        · rw [show LM.length - (q + 1) = kM - 1 by omega, show N - (q + 1) = cM - 1 by omega, show (q + 1) * 2 = q * 2 + 2 by omega]
          exact N7.out
    · have hz : z = s := by
        rw [e3]
        unfold lesser
        rw [if_neg (mt (rise_fst m s).1 (by rw [e1, e2]; exact hf))]
      subst hz
      have hpk := pick_symbol (fun t ht => hbM t (List.mem_of_mem_drop ht)) (fun t ht => hbS t (List.mem_of_mem_drop ht)) (by
        rcases hne with h1 | h1
        · left
          intro h2
          have := congrArg List.length h2
          rw [List.length_drop, List.length_nil] at this
          omega
        · right
          intro h2
          have := congrArg List.length h2
          rw [List.length_drop, List.length_nil] at this
          omega) (fun t ht u hu => hap t (List.mem_of_mem_drop ht) u (List.mem_of_mem_drop hu)) hf
      have hlp : p < LS.length := by
        rcases Nat.lt_or_ge p LS.length with h1 | h1
        · exact h1
        · exact absurd (List.drop_eq_nil_of_le h1) hpk.1
      have hA := hAS hlp
      subst hA
      have q13 := tree_other (z.1 : Int) (z.2 : Int) (m.1 : Int) (m.2 : Int) (by
        have h3 := hpk.2.2
        rw [← e1, ← e2] at h3
        omega)
      have hks : 1 ≤ kS := by omega
      have PK := Lib.hid hpk
      have EQ2 : Hid (kS = LS.length - p ∧ kM = LM.length - q ∧ cM = N - q) := Lib.hid ⟨e4, e5, e6⟩
      have E0 := Lib.hid e1
      clear hpk hf e1 e2 e3 e4 e5 e6
      go_wp2_with fail
      go_region_held3 (fun w' => w'.cell? ⟨h, 0, none⟩ = some (.int .i64 z.1) ∧ w'.cell? ⟨h, 1, none⟩ = some (.int .i64 z.2) ∧ w'.cell? ⟨bM, 0, none⟩ = some (.slice (some ⟨gM, q * 2, none⟩) kM cM))
        (first | with_reducible exact ⟨ht0, ht1, mlc⟩ | with_reducible exact ⟨hd0, hd1, mld⟩ | with_reducible exact ⟨he0, he1, mle⟩)
        (first
          | (go_at_call 154; with_reducible refine (HHM.out _ rMd).mono ?_; rintro e w5 ⟨rfl, hb5⟩
             have he0 : w5.cell? ⟨h, 0, none⟩ = some (.int .i64 z.1) := (hb5.cell (p := ⟨h, 0, none⟩) zh).trans hd0
             have he1 : w5.cell? ⟨h, 1, none⟩ = some (.int .i64 z.2) := (hb5.cell (p := ⟨h, 1, none⟩) zh).trans hd1
             have mle : w5.cell? ⟨bM, 0, none⟩ = some (.slice (some ⟨gM, q * 2, none⟩) kM cM) := (hb5.cell (p := ⟨bM, 0, none⟩) zMc).trans mld
             have st5 : Step w1.heap.size [] [] w1 w5 := stepC (stepD hst) hb5))
      have M5 : Blk w5 bM 107 #[.slice (some ⟨gM, q * 2, none⟩) kM cM] := st5.blk (ST0.out.blk HM.out (by simp) (by simp)) (by simp) (by simp)
      have S5 : Blk w5 bS 107 #[.slice (some ⟨gS, p * 2, none⟩) kS kS] := st5.blk (ST0.out.blk HS.out (by simp) (by simp)) (by simp) (by simp)
      have R5 : Blk w5 w.heap.size 111 #[.int .i64 0, .int .i64 0] := st5.blk hr1.out (by simp) (by simp)
      have T5 : Blk w5 h 111 #[.int .i64 z.1, .int .i64 z.2] := blkC hb5 HT.out
      have fS5 := blk_frozen S5 0
      have sl5 : w5.cell? ⟨bS, 0, none⟩ = some (.slice (some ⟨gS, p * 2, none⟩) kS kS) := blk_cell S5 0
      clear hb5 mlc mld hd0 hd1 ht0 ht1
      by_cases hk1 : kS = 1
      · subst hk1
        obtain ⟨w6, hw6⟩ : ∃ w6, w6 = w5.setCell ⟨bS, 0, none⟩ (.slice (some ⟨gS, p * 2, none⟩) 0 0) := ⟨_, rfl⟩
        have st6 : Step B [bS, bM] [] w5 w6 := by rw [hw6]; exact (Step.refl B [bS, bM] [] w5).set (p := ⟨bS, 0, none⟩) (by first | exact hBS | exact hBM) (by simp) _
        have N6 : Blk w6 bS 107 #[(.slice (some ⟨gS, p * 2, none⟩) 0 0)] := by rw [hw6]; exact blk_set S5 0 _
        have O6 : Blk w6 bM 107 #[.slice (some ⟨gM, q * 2, none⟩) kM cM] := by
          rw [hw6]
          exact (heap_set_other w5 _ hbb.symm).trans M5
        have hne6 : h ≠ bS := fun e => blk_apart T5 S5 (by decide) e
        have hne7 : w.heap.size ≠ bS := fun e => blk_apart R5 S5 (by decide) e
        have T6 : Blk w6 h 111 #[.int .i64 z.1, .int .i64 z.2] := by rw [hw6]; exact (heap_set_other w5 _ hne6).trans T5
        have R6 : Blk w6 w.heap.size 111 #[.int .i64 0, .int .i64 0] := by rw [hw6]; exact (heap_set_other w5 _ hne7).trans R5
        have c60 : (w5.setCell ⟨bS, 0, none⟩ (.slice (some ⟨gS, p * 2, none⟩) 0 0)).cell? ⟨h, 0, none⟩ = some (.int .i64 z.1) := by rw [← hw6]; exact blk_cell T6 0
        have c61 : (w5.setCell ⟨bS, 0, none⟩ (.slice (some ⟨gS, p * 2, none⟩) 0 0)).cell? ⟨h, 1, none⟩ = some (.int .i64 z.2) := by rw [← hw6]; exact blk_cell T6 1
        have r60 : (w5.setCell ⟨bS, 0, none⟩ (.slice (some ⟨gS, p * 2, none⟩) 0 0)).cell? ⟨w.heap.size, 0, none⟩ = some (.int .i64 0) := by rw [← hw6]; exact blk_cell R6 0
        have r61 : (w5.setCell ⟨bS, 0, none⟩ (.slice (some ⟨gS, p * 2, none⟩) 0 0)).cell? ⟨w.heap.size, 1, none⟩ = some (.int .i64 0) := by rw [← hw6]; exact blk_cell R6 1
        have f60 : (w5.setCell ⟨bS, 0, none⟩ (.slice (some ⟨gS, p * 2, none⟩) 0 0)).frozen? ⟨w.heap.size, 0, none⟩ = false := by rw [← hw6]; exact blk_frozen R6 0
        have f61 : (w5.setCell ⟨bS, 0, none⟩ (.slice (some ⟨gS, p * 2, none⟩) 0 0)).frozen? ⟨w.heap.size, 1, none⟩ = false := by rw [← hw6]; exact blk_frozen R6 1
        have R7 := blk_set (blk_set R6 0 (.int .i64 z.1)) 1 (.int .i64 z.2)
        have ST : Hid (Step B [bS, bM] [] w ((w6.setCell ⟨w.heap.size, 0, none⟩ (.int .i64 z.1)).setCell ⟨w.heap.size, 1, none⟩ (.int .i64 z.2))) := Lib.hid (by
          have a1 : Step B [bS, bM] [] w w1 := ST0.out.mono (by omega) (by simp) (by simp)
          have a2 : Step B [bS, bM] [] w w5 := a1.after st5 (by omega) (by simp) (by simp)
          have a3 : Step B [bS, bM] [] w w6 := a2.trans st6
          exact a3.after (((Step.refl B [w.heap.size] [] w6).set (p := ⟨w.heap.size, 0, none⟩) (by show B ≤ w.heap.size; omega) (by simp) _).set (p := ⟨w.heap.size, 1, none⟩) (by show B ≤ w.heap.size; omega) (by simp) _) (Nat.le_refl _) (by intro i hi; rw [List.mem_singleton.1 hi]; exact .inr (Nat.le_refl _)) (by simp))
        have N7 : Hid (Blk ((w6.setCell ⟨w.heap.size, 0, none⟩ (.int .i64 z.1)).setCell ⟨w.heap.size, 1, none⟩ (.int .i64 z.2)) bS 107 #[(.slice (some ⟨gS, p * 2, none⟩) 0 0)]) := Lib.hid ((heap_set_other _ _ hne7.symm).trans ((heap_set_other _ _ hne7.symm).trans N6))
        have hneo : bM ≠ w.heap.size := fun e => blk_apart R6 O6 (by decide) e.symm
        have O7 : Hid (Blk ((w6.setCell ⟨w.heap.size, 0, none⟩ (.int .i64 z.1)).setCell ⟨w.heap.size, 1, none⟩ (.int .i64 z.2)) bM 107 #[.slice (some ⟨gM, q * 2, none⟩) kM cM]) := Lib.hid ((heap_set_other _ _ hneo).trans ((heap_set_other _ _ hneo).trans O6))
        have q0 := (blk_cell R7 0).trans (rfl : _ = some (Value.int .i64 z.1))
        have q1 := (blk_cell R7 1).trans (rfl : _ = some (Value.int .i64 z.2))
        rw [hw6] at ST N7 O7 q0 q1
        clear R7 R6 T6 O6 N6 st6 hw6 M5 S5 R5 T5
        go_wp2_with fail
        (try simp only [Exit.inBlock, Exit.then])
        refine bodyPost_ret (v := .agg #[.int .i64 z.1, .int .i64 z.2]) ?_ rfl ?_
        · simp [results, Tryz.results152, go_sem, q0, q1]
        · obtain ⟨e1, e2, e3⟩ := EQ2.out
          refine ⟨z, rfl, ST.out, .inl ⟨hlp, ?_, ⟨some ⟨gS, p * 2, none⟩, ?_, fun h => by omega⟩, ?_⟩⟩
          · rw [PK.out.2.1, List.drop_drop, ← E0.out]
          · rw [show LS.length - (p + 1) = 0 by omega]
            exact N7.out
          · rw [← e2, ← e3]
            exact O7.out
      · have hk2 : 2 ≤ kS := by omega
        obtain ⟨w6, hw6⟩ : ∃ w6, w6 = w5.setCell ⟨bS, 0, none⟩ (.slice (some ⟨gS, p * 2 + 2, none⟩) (kS - 1) (kS - 1)) := ⟨_, rfl⟩
        have st6 : Step B [bS, bM] [] w5 w6 := by rw [hw6]; exact (Step.refl B [bS, bM] [] w5).set (p := ⟨bS, 0, none⟩) (by first | exact hBS | exact hBM) (by simp) _
        have N6 : Blk w6 bS 107 #[(.slice (some ⟨gS, p * 2 + 2, none⟩) (kS - 1) (kS - 1))] := by rw [hw6]; exact blk_set S5 0 _
        have O6 : Blk w6 bM 107 #[.slice (some ⟨gM, q * 2, none⟩) kM cM] := by
          rw [hw6]
          exact (heap_set_other w5 _ hbb.symm).trans M5
        have hne6 : h ≠ bS := fun e => blk_apart T5 S5 (by decide) e
        have hne7 : w.heap.size ≠ bS := fun e => blk_apart R5 S5 (by decide) e
        have T6 : Blk w6 h 111 #[.int .i64 z.1, .int .i64 z.2] := by rw [hw6]; exact (heap_set_other w5 _ hne6).trans T5
        have R6 : Blk w6 w.heap.size 111 #[.int .i64 0, .int .i64 0] := by rw [hw6]; exact (heap_set_other w5 _ hne7).trans R5
        have c60 : (w5.setCell ⟨bS, 0, none⟩ (.slice (some ⟨gS, p * 2 + 2, none⟩) (kS - 1) (kS - 1))).cell? ⟨h, 0, none⟩ = some (.int .i64 z.1) := by rw [← hw6]; exact blk_cell T6 0
        have c61 : (w5.setCell ⟨bS, 0, none⟩ (.slice (some ⟨gS, p * 2 + 2, none⟩) (kS - 1) (kS - 1))).cell? ⟨h, 1, none⟩ = some (.int .i64 z.2) := by rw [← hw6]; exact blk_cell T6 1
        have r60 : (w5.setCell ⟨bS, 0, none⟩ (.slice (some ⟨gS, p * 2 + 2, none⟩) (kS - 1) (kS - 1))).cell? ⟨w.heap.size, 0, none⟩ = some (.int .i64 0) := by rw [← hw6]; exact blk_cell R6 0
        have r61 : (w5.setCell ⟨bS, 0, none⟩ (.slice (some ⟨gS, p * 2 + 2, none⟩) (kS - 1) (kS - 1))).cell? ⟨w.heap.size, 1, none⟩ = some (.int .i64 0) := by rw [← hw6]; exact blk_cell R6 1
        have f60 : (w5.setCell ⟨bS, 0, none⟩ (.slice (some ⟨gS, p * 2 + 2, none⟩) (kS - 1) (kS - 1))).frozen? ⟨w.heap.size, 0, none⟩ = false := by rw [← hw6]; exact blk_frozen R6 0
        have f61 : (w5.setCell ⟨bS, 0, none⟩ (.slice (some ⟨gS, p * 2 + 2, none⟩) (kS - 1) (kS - 1))).frozen? ⟨w.heap.size, 1, none⟩ = false := by rw [← hw6]; exact blk_frozen R6 1
        have R7 := blk_set (blk_set R6 0 (.int .i64 z.1)) 1 (.int .i64 z.2)
        have ST : Hid (Step B [bS, bM] [] w ((w6.setCell ⟨w.heap.size, 0, none⟩ (.int .i64 z.1)).setCell ⟨w.heap.size, 1, none⟩ (.int .i64 z.2))) := Lib.hid (by
          have a1 : Step B [bS, bM] [] w w1 := ST0.out.mono (by omega) (by simp) (by simp)
          have a2 : Step B [bS, bM] [] w w5 := a1.after st5 (by omega) (by simp) (by simp)
          have a3 : Step B [bS, bM] [] w w6 := a2.trans st6
          exact a3.after (((Step.refl B [w.heap.size] [] w6).set (p := ⟨w.heap.size, 0, none⟩) (by show B ≤ w.heap.size; omega) (by simp) _).set (p := ⟨w.heap.size, 1, none⟩) (by show B ≤ w.heap.size; omega) (by simp) _) (Nat.le_refl _) (by intro i hi; rw [List.mem_singleton.1 hi]; exact .inr (Nat.le_refl _)) (by simp))
        have N7 : Hid (Blk ((w6.setCell ⟨w.heap.size, 0, none⟩ (.int .i64 z.1)).setCell ⟨w.heap.size, 1, none⟩ (.int .i64 z.2)) bS 107 #[(.slice (some ⟨gS, p * 2 + 2, none⟩) (kS - 1) (kS - 1))]) := Lib.hid ((heap_set_other _ _ hne7.symm).trans ((heap_set_other _ _ hne7.symm).trans N6))
        have hneo : bM ≠ w.heap.size := fun e => blk_apart R6 O6 (by decide) e.symm
        have O7 : Hid (Blk ((w6.setCell ⟨w.heap.size, 0, none⟩ (.int .i64 z.1)).setCell ⟨w.heap.size, 1, none⟩ (.int .i64 z.2)) bM 107 #[.slice (some ⟨gM, q * 2, none⟩) kM cM]) := Lib.hid ((heap_set_other _ _ hneo).trans ((heap_set_other _ _ hneo).trans O6))
        have q0 := (blk_cell R7 0).trans (rfl : _ = some (Value.int .i64 z.1))
        have q1 := (blk_cell R7 1).trans (rfl : _ = some (Value.int .i64 z.2))
        rw [hw6] at ST N7 O7 q0 q1
        clear R7 R6 T6 O6 N6 st6 hw6 M5 S5 R5 T5
        go_wp2_with fail
        (try simp only [Exit.inBlock, Exit.then])
        refine bodyPost_ret (v := .agg #[.int .i64 z.1, .int .i64 z.2]) ?_ rfl ?_
        · simp [results, Tryz.results152, go_sem, q0, q1]
        · obtain ⟨e1, e2, e3⟩ := EQ2.out
          refine ⟨z, rfl, ST.out, .inl ⟨hlp, ?_, ⟨some ⟨gS, (p + 1) * 2, none⟩, ?_, fun _ => rfl⟩, ?_⟩⟩
          · rw [PK.out.2.1, List.drop_drop, ← E0.out]
          · rw [show LS.length - (p + 1) = kS - 1 by omega, show (p + 1) * 2 = p * 2 + 2 by omega]
            exact N7.out
          · rw [← e2, ← e3]
            exact O7.out

end Go.Proofs.YtmgmgmbpldboiaaGreat
