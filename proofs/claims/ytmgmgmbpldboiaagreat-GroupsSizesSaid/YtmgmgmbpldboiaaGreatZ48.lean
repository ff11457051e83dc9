/- Ak: texts laid together, what is not used left out. -/
import Derived.Test.YtmgmgmbpldboiaaGreatZ47
namespace Go.Proofs.YtmgmgmbpldboiaaGreat
open Go.RowKit

theorem size_drew (w : World) : w.drew.heap.size = w.heap.size := rfl
theorem belowD {w W : World} (h : Below w.heap.size w W) : Below w.heap.size w W.drew := h.drew
theorem belowA {w W : World} (h : Below w.heap.size w W) (o : Obj) : Below w.heap.size w (W.alloc o) := h.alloc h.size o
theorem belowS {w W : World} {b o : Nat} (h : Below w.heap.size w W) (hp : w.heap.size ≤ b) (v : Value) : Below w.heap.size w (W.setCell ⟨b, o, none⟩ v) := h.setCell (p := ⟨b, o, none⟩) hp v
theorem belowC {w W W2 : World} (h : Below w.heap.size w W) (hb : Below W.heap.size W W2) : Below w.heap.size w W2 := h.trans (hb.mono h.size)
theorem blkN {W : World} {g : Nat} {t : TypeId} {cs : Array Value} (h : g = W.heap.size) : Blk (W.alloc (.cells cs t)) g t cs := by
  subst h
  exact blk_new W t cs
theorem blkS {W : World} {g : Nat} {t : TypeId} (h : Blk W g t #[.slice none 0 0]) (v : Value) : Blk (W.setCell ⟨g, 0, none⟩ v) g t #[v] := blk_set h 0 v
theorem blkO {W : World} {g b o : Nat} {t : TypeId} {cs : Array Value} (h : Blk W g t cs) (hne : g ≠ b) (v : Value) : Blk (W.setCell ⟨b, o, none⟩ v) g t cs := (heap_set_other W v hne).trans h
theorem tcapA {W : World} {g N : Nat} {T : List (Nat × Nat)} (h : TCap W g N T) (o : Obj) : TCap (W.alloc o) g N T := by
  obtain ⟨cs, h1, h2⟩ := h
  exact ⟨cs, blkA h1 o, h2⟩
theorem tcapO {W : World} {g N b o : Nat} {T : List (Nat × Nat)} (h : TCap W g N T) (hne : g ≠ b) (v : Value) : TCap (W.setCell ⟨b, o, none⟩ v) g N T := by
  obtain ⟨cs, h1, h2⟩ := h
  exact ⟨cs, blkO h1 hne v, h2⟩
set_option maxRecDepth 100000 in
theorem tcapB {W : World} {g m : Nat} (h : Blk W g 111 (madeCells #[.int .i64 0, .int .i64 0] (m * 2))) : TCap W g m [] := ⟨_, h, by rw [size_madeCells], fun i hi => absurd hi (by simp)⟩

/-- The two rows are laid, each in a box of its own. -/
def Laid (w wx : World) (n : Nat) (T : List (Nat × Nat)) (s3 s4 : Value) : Prop := ∃ bS bM gS gM, s3 = .pointer (some ⟨bS, 0, none⟩) ∧ s4 = .pointer (some ⟨bM, 0, none⟩) ∧ Blk wx bS 107 #[.slice (some ⟨gS, 0, none⟩) n n] ∧ Blk wx bM 107 #[.slice (some ⟨gM, 0, none⟩) 0 n] ∧
  TCap wx gS n T ∧ TCap wx gM n [] ∧ Below w.heap.size w wx ∧ bS ≠ bM ∧ gS ≠ gM ∧ w.heap.size ≤ bS ∧ w.heap.size ≤ bM ∧ w.heap.size ≤ gS ∧ w.heap.size ≤ gM

theorem first_one (w : World) (B bS bM gS gM p q N : Nat) (AS : Option Addr) (LS LM : List (Nat × Nat))
    (hS : Blk w bS 107 #[.slice AS (LS.length - p : Nat) (LS.length - p : Nat)]) (hM : Blk w bM 107 #[.slice (some ⟨gM, q * 2, none⟩) (LM.length - q : Nat) (N - q : Nat)])
    (tS : TRow w gS LS) (tM : TRow w gM LM) (hAS : p < LS.length → AS = some ⟨gS, p * 2, none⟩) (hp : p ≤ LS.length) (hq : q ≤ LM.length) (hN : q + 2 ≤ N) (hLN : LM.length ≤ N) (hL : LS.length ≤ 1000000) (hN2 : N ≤ 1000000)
    (hbS : ∀ t ∈ LS, t.1 < 4611686018427387904) (hbM : ∀ t ∈ LM, t.1 < 4611686018427387904) (hap : ∀ t ∈ LS, ∀ u ∈ LM, t.2 ≠ u.2) (hne : p < LS.length ∨ q < LM.length) (hBS : B ≤ bS) (hBM : B ≤ bM) (hbb : bS ≠ bM) :
    Calls Tryz.prog 152 #[.pointer (some ⟨bS, 0, none⟩), .pointer (some ⟨bM, 0, none⟩)] w fun e w' => ∃ (x : Nat × Nat) (p1 q1 : Nat) (A1 : Option Addr), e = .returned (.agg #[.int .i64 x.1, .int .i64 x.2]) ∧ Step B [bS, bM] [] w w' ∧
      fpick (LS.drop p) (LM.drop q) = (x, LS.drop p1, LM.drop q1) ∧ p1 ≤ LS.length ∧ q1 ≤ LM.length ∧ (p1 < LS.length → A1 = some ⟨gS, p1 * 2, none⟩) ∧ Blk w' bS 107 #[.slice A1 (LS.length - p1 : Nat) (LS.length - p1 : Nat)] ∧ Blk w' bM 107 #[.slice (some ⟨gM, q1 * 2, none⟩) (LM.length - q1 : Nat) (N - q1 : Nat)] := by
  refine (first_any w B bS bM gS gM p q N AS LS LM hS hM tS tM hAS hp hq hN hLN hL hN2 hbS hbM hap hne hBS hBM hbb).mono ?_
  rintro e w' ⟨x, he, hst, ⟨h1, h2, ⟨A1, h3, h4⟩, h5⟩ | ⟨h1, h2, h3, h4⟩⟩
  · exact ⟨x, p + 1, q, A1, he, hst, h2, h1, hq, h4, h3, h5⟩
  · exact ⟨x, p, q + 1, AS, he, hst, h2, hp, h1, hAS, h3, h4⟩

/-- The state of join ahead of number k. -/
structure JInv (w wx : World) (W : List Nat) (n bS bM gS gM gI : Nat) (LS LM : List (Nat × Nat)) (k p q b : Nat) (AS : Option Addr) (ws ov : Nat → Nat) (act : List Tr) (len : Nat → Nat) : Prop where
  boxS : Blk wx bS 107 #[.slice AS (LS.length - p : Nat) (LS.length - p : Nat)]
  boxM : Blk wx bM 107 #[.slice (some ⟨gM, q * 2, none⟩) (LM.length - q : Nat) (n - q : Nat)]
  rowS : TRow wx gS LS
  rowM : TCap wx gM n LM
  at_ : p < LS.length → AS = some ⟨gS, p * 2, none⟩
  hp : p ≤ LS.length
  hq : q ≤ LM.length
  hm : LM.length + n = k
  hk : k ≤ 2 * n - 1
  two : Two n k ws ov (LS.drop p) (LM.drop q) b
  grown : Grown n W k ws ov act len
  row : FRow wx w.heap.size gI (2 * n - 1) (2 * n - 1) ov
  low : ∀ t ∈ LM, t.1 ≤ W.sum ∧ n ≤ t.2
  below : Below w.heap.size w wx

set_option maxHeartbeats 6400000 in
set_option maxRecDepth 100000 in
theorem join_any (w : World) (A : Option Addr) (n c : Nat) (f : Nat → Nat) (hL : IntsIn w A n ((List.range n).map f)) (h2 : 2 ≤ n) (hn : n ≤ 258) (hf : ∀ i, i < n → 1 ≤ f i ∧ f i ≤ 1073741824) :
    Calls Tryz.prog 138 #[.slice A n c] w fun e w' => ∃ g ov ws act len, e = .returned (.slice (some ⟨g, 0, none⟩) (2 * n - 1 : Nat) (2 * n - 1 : Nat)) ∧ Grown n ((List.range n).map f) (2 * n - 1) ws ov act len ∧ FRow w' w.heap.size g (2 * n - 1) (2 * n - 1) ov ∧ Below w.heap.size w w' := by
  have HA0 := fun (w1 : World) (h : IntsIn w1 A n ((List.range n).map f)) => alone_any w1 A n c f h (by omega) (by omega)
  obtain ⟨T, hT⟩ : ∃ T, T = (List.range n).map fun i => (f i, i) := ⟨_, rfl⟩
  rw [← hT] at HA0
  have HA := Lib.hid HA0
  have HT := Lib.hid hT
  have hmk : ∀ w1 : World, (Instr.makeSlice 107 (.int .i64 0) (.int .i64 n)).run Tryz.prog w1 = .ok (.slice (some ⟨w1.heap.size, 0, none⟩) 0 n) (w1.alloc (.cells (madeCells #[.int .i64 0, .int .i64 0] (n * 2)) 111)) := fun w1 => make_trees w1 0 n (Nat.zero_le _) (by omega)
  have HI := Lib.hid fun (w1 : World) (hb : Below w.heap.size w w1) => ints_low hL hb
  have st1 : Step w.heap.size [] [] w w := Step.refl _ _ _ _
  clear hL HA0 hT
  go_enter Tryz.func138, Tryz.ntmps138
  go_wp2_with fail
  go_cut [3, 4] from 10 to 14 (fun s3 s4 wx => Laid w wx n T s3 s4)
  case first =>
    go_region_held3 (fun w' => True)
      (trivial)
      (first
        | (go_at_call 81; with_reducible refine (HA.out _ (HI.out _ (by repeat (first | with_reducible exact st1.below | with_reducible assumption | with_reducible refine belowD ?_ | with_reducible refine belowA ?_ _)))).mono ?_; rintro e w2 ⟨rfl, ht2, hb2⟩
           have bl2 : Below w.heap.size w w2 := belowC (by repeat (first | with_reducible exact st1.below | with_reducible assumption | with_reducible refine belowD ?_ | with_reducible refine belowA ?_ _)) hb2
           have z2 := ht2.row.lt
           (first
             | (with_reducible (have h1 := blkC hb2 (blk_new _ _ _); have h2 := blkC hb2 (blkA (blk_new _ _ _) _); have h3 := blkC hb2 (blkA (blkA (blk_new _ _ _) _) _)); (try (have c1 := (blk_cell h1 0).trans (rfl : (#[.slice none 0 0] : Array Value)[0]? = some (.slice none 0 0)); have f1 := blk_frozen h1 0; have ca1 := fun (o : Obj) => (blk_cell (blkA h1 o) 0).trans (rfl : (#[.slice none 0 0] : Array Value)[0]? = some (.slice none 0 0)); have fa1 := fun (o : Obj) => blk_frozen (blkA h1 o) 0; have cb1 := fun (o o2 : Obj) => (blk_cell (blkA (blkA h1 o) o2) 0).trans (rfl : (#[.slice none 0 0] : Array Value)[0]? = some (.slice none 0 0)); have fb1 := fun (o o2 : Obj) => blk_frozen (blkA (blkA h1 o) o2) 0)); (try (have c2 := (blk_cell h2 0).trans (rfl : (#[.slice none 0 0] : Array Value)[0]? = some (.slice none 0 0)); have f2 := blk_frozen h2 0; have ca2 := fun (o : Obj) => (blk_cell (blkA h2 o) 0).trans (rfl : (#[.slice none 0 0] : Array Value)[0]? = some (.slice none 0 0)); have fa2 := fun (o : Obj) => blk_frozen (blkA h2 o) 0; have cb2 := fun (o o2 : Obj) => (blk_cell (blkA (blkA h2 o) o2) 0).trans (rfl : (#[.slice none 0 0] : Array Value)[0]? = some (.slice none 0 0)); have fb2 := fun (o o2 : Obj) => blk_frozen (blkA (blkA h2 o) o2) 0)); (try (have c3 := (blk_cell h3 0).trans (rfl : (#[.slice none 0 0] : Array Value)[0]? = some (.slice none 0 0)); have f3 := blk_frozen h3 0; have ca3 := fun (o : Obj) => (blk_cell (blkA h3 o) 0).trans (rfl : (#[.slice none 0 0] : Array Value)[0]? = some (.slice none 0 0)); have fa3 := fun (o : Obj) => blk_frozen (blkA h3 o) 0; have cb3 := fun (o o2 : Obj) => (blk_cell (blkA (blkA h3 o) o2) 0).trans (rfl : (#[.slice none 0 0] : Array Value)[0]? = some (.slice none 0 0)); have fb3 := fun (o o2 : Obj) => blk_frozen (blkA (blkA h3 o) o2) 0)); simp only [World.size_alloc, size_drew] at *; (try (have cp12 := fun (v : Value) (o : Obj) => (blk_cell (blkA (blkO (b := w.heap.size + 1) (o := 0) h1 (by omega) v) o) 0).trans (rfl : (#[.slice none 0 0] : Array Value)[0]? = some (.slice none 0 0)); have fp12 := fun (v : Value) (o : Obj) => blk_frozen (blkA (blkO (b := w.heap.size + 1) (o := 0) h1 (by omega) v) o) 0)); (try (have cp13 := fun (v : Value) (o : Obj) => (blk_cell (blkA (blkO (b := w.heap.size) (o := 0) h1 (by omega) v) o) 0).trans (rfl : (#[.slice none 0 0] : Array Value)[0]? = some (.slice none 0 0)); have fp13 := fun (v : Value) (o : Obj) => blk_frozen (blkA (blkO (b := w.heap.size) (o := 0) h1 (by omega) v) o) 0)); (try (have cp21 := fun (v : Value) (o : Obj) => (blk_cell (blkA (blkO (b := w.heap.size + 1 + 1) (o := 0) h2 (by omega) v) o) 0).trans (rfl : (#[.slice none 0 0] : Array Value)[0]? = some (.slice none 0 0)); have fp21 := fun (v : Value) (o : Obj) => blk_frozen (blkA (blkO (b := w.heap.size + 1 + 1) (o := 0) h2 (by omega) v) o) 0)); (try (have cp23 := fun (v : Value) (o : Obj) => (blk_cell (blkA (blkO (b := w.heap.size) (o := 0) h2 (by omega) v) o) 0).trans (rfl : (#[.slice none 0 0] : Array Value)[0]? = some (.slice none 0 0)); have fp23 := fun (v : Value) (o : Obj) => blk_frozen (blkA (blkO (b := w.heap.size) (o := 0) h2 (by omega) v) o) 0)); (try (have cp31 := fun (v : Value) (o : Obj) => (blk_cell (blkA (blkO (b := w.heap.size + 1 + 1) (o := 0) h3 (by omega) v) o) 0).trans (rfl : (#[.slice none 0 0] : Array Value)[0]? = some (.slice none 0 0)); have fp31 := fun (v : Value) (o : Obj) => blk_frozen (blkA (blkO (b := w.heap.size + 1 + 1) (o := 0) h3 (by omega) v) o) 0)); (try (have cp32 := fun (v : Value) (o : Obj) => (blk_cell (blkA (blkO (b := w.heap.size + 1) (o := 0) h3 (by omega) v) o) 0).trans (rfl : (#[.slice none 0 0] : Array Value)[0]? = some (.slice none 0 0)); have fp32 := fun (v : Value) (o : Obj) => blk_frozen (blkA (blkO (b := w.heap.size + 1) (o := 0) h3 (by omega) v) o) 0)))
             | (with_reducible (have h1 := blkC hb2 (blkD (blk_new _ _ _)); have h2 := blkC hb2 (blkD (blkA (blk_new _ _ _) _)); have h3 := blkC hb2 (blkD (blkA (blkA (blk_new _ _ _) _) _))); (try (have c1 := (blk_cell h1 0).trans (rfl : (#[.slice none 0 0] : Array Value)[0]? = some (.slice none 0 0)); have f1 := blk_frozen h1 0; have ca1 := fun (o : Obj) => (blk_cell (blkA h1 o) 0).trans (rfl : (#[.slice none 0 0] : Array Value)[0]? = some (.slice none 0 0)); have fa1 := fun (o : Obj) => blk_frozen (blkA h1 o) 0; have cb1 := fun (o o2 : Obj) => (blk_cell (blkA (blkA h1 o) o2) 0).trans (rfl : (#[.slice none 0 0] : Array Value)[0]? = some (.slice none 0 0)); have fb1 := fun (o o2 : Obj) => blk_frozen (blkA (blkA h1 o) o2) 0)); (try (have c2 := (blk_cell h2 0).trans (rfl : (#[.slice none 0 0] : Array Value)[0]? = some (.slice none 0 0)); have f2 := blk_frozen h2 0; have ca2 := fun (o : Obj) => (blk_cell (blkA h2 o) 0).trans (rfl : (#[.slice none 0 0] : Array Value)[0]? = some (.slice none 0 0)); have fa2 := fun (o : Obj) => blk_frozen (blkA h2 o) 0; have cb2 := fun (o o2 : Obj) => (blk_cell (blkA (blkA h2 o) o2) 0).trans (rfl : (#[.slice none 0 0] : Array Value)[0]? = some (.slice none 0 0)); have fb2 := fun (o o2 : Obj) => blk_frozen (blkA (blkA h2 o) o2) 0)); (try (have c3 := (blk_cell h3 0).trans (rfl : (#[.slice none 0 0] : Array Value)[0]? = some (.slice none 0 0)); have f3 := blk_frozen h3 0; have ca3 := fun (o : Obj) => (blk_cell (blkA h3 o) 0).trans (rfl : (#[.slice none 0 0] : Array Value)[0]? = some (.slice none 0 0)); have fa3 := fun (o : Obj) => blk_frozen (blkA h3 o) 0; have cb3 := fun (o o2 : Obj) => (blk_cell (blkA (blkA h3 o) o2) 0).trans (rfl : (#[.slice none 0 0] : Array Value)[0]? = some (.slice none 0 0)); have fb3 := fun (o o2 : Obj) => blk_frozen (blkA (blkA h3 o) o2) 0)); simp only [World.size_alloc, size_drew] at *; (try (have cp12 := fun (v : Value) (o : Obj) => (blk_cell (blkA (blkO (b := w.heap.size + 1) (o := 0) h1 (by omega) v) o) 0).trans (rfl : (#[.slice none 0 0] : Array Value)[0]? = some (.slice none 0 0)); have fp12 := fun (v : Value) (o : Obj) => blk_frozen (blkA (blkO (b := w.heap.size + 1) (o := 0) h1 (by omega) v) o) 0)); (try (have cp13 := fun (v : Value) (o : Obj) => (blk_cell (blkA (blkO (b := w.heap.size) (o := 0) h1 (by omega) v) o) 0).trans (rfl : (#[.slice none 0 0] : Array Value)[0]? = some (.slice none 0 0)); have fp13 := fun (v : Value) (o : Obj) => blk_frozen (blkA (blkO (b := w.heap.size) (o := 0) h1 (by omega) v) o) 0)); (try (have cp21 := fun (v : Value) (o : Obj) => (blk_cell (blkA (blkO (b := w.heap.size + 1 + 1) (o := 0) h2 (by omega) v) o) 0).trans (rfl : (#[.slice none 0 0] : Array Value)[0]? = some (.slice none 0 0)); have fp21 := fun (v : Value) (o : Obj) => blk_frozen (blkA (blkO (b := w.heap.size + 1 + 1) (o := 0) h2 (by omega) v) o) 0)); (try (have cp23 := fun (v : Value) (o : Obj) => (blk_cell (blkA (blkO (b := w.heap.size) (o := 0) h2 (by omega) v) o) 0).trans (rfl : (#[.slice none 0 0] : Array Value)[0]? = some (.slice none 0 0)); have fp23 := fun (v : Value) (o : Obj) => blk_frozen (blkA (blkO (b := w.heap.size) (o := 0) h2 (by omega) v) o) 0)); (try (have cp31 := fun (v : Value) (o : Obj) => (blk_cell (blkA (blkO (b := w.heap.size + 1 + 1) (o := 0) h3 (by omega) v) o) 0).trans (rfl : (#[.slice none 0 0] : Array Value)[0]? = some (.slice none 0 0)); have fp31 := fun (v : Value) (o : Obj) => blk_frozen (blkA (blkO (b := w.heap.size + 1 + 1) (o := 0) h3 (by omega) v) o) 0)); (try (have cp32 := fun (v : Value) (o : Obj) => (blk_cell (blkA (blkO (b := w.heap.size + 1) (o := 0) h3 (by omega) v) o) 0).trans (rfl : (#[.slice none 0 0] : Array Value)[0]? = some (.slice none 0 0)); have fp32 := fun (v : Value) (o : Obj) => blk_frozen (blkA (blkO (b := w.heap.size + 1) (o := 0) h3 (by omega) v) o) 0)))
             | (with_reducible (have h1 := blkC hb2 (blk_new _ _ _); have h2 := blkC hb2 (blkA (blk_new _ _ _) _)); (try (have c1 := (blk_cell h1 0).trans (rfl : (#[.slice none 0 0] : Array Value)[0]? = some (.slice none 0 0)); have f1 := blk_frozen h1 0; have ca1 := fun (o : Obj) => (blk_cell (blkA h1 o) 0).trans (rfl : (#[.slice none 0 0] : Array Value)[0]? = some (.slice none 0 0)); have fa1 := fun (o : Obj) => blk_frozen (blkA h1 o) 0; have cb1 := fun (o o2 : Obj) => (blk_cell (blkA (blkA h1 o) o2) 0).trans (rfl : (#[.slice none 0 0] : Array Value)[0]? = some (.slice none 0 0)); have fb1 := fun (o o2 : Obj) => blk_frozen (blkA (blkA h1 o) o2) 0)); (try (have c2 := (blk_cell h2 0).trans (rfl : (#[.slice none 0 0] : Array Value)[0]? = some (.slice none 0 0)); have f2 := blk_frozen h2 0; have ca2 := fun (o : Obj) => (blk_cell (blkA h2 o) 0).trans (rfl : (#[.slice none 0 0] : Array Value)[0]? = some (.slice none 0 0)); have fa2 := fun (o : Obj) => blk_frozen (blkA h2 o) 0; have cb2 := fun (o o2 : Obj) => (blk_cell (blkA (blkA h2 o) o2) 0).trans (rfl : (#[.slice none 0 0] : Array Value)[0]? = some (.slice none 0 0)); have fb2 := fun (o o2 : Obj) => blk_frozen (blkA (blkA h2 o) o2) 0)); simp only [World.size_alloc, size_drew] at *; (try (have cp12 := fun (v : Value) (o : Obj) => (blk_cell (blkA (blkO (b := w.heap.size) (o := 0) h1 (by omega) v) o) 0).trans (rfl : (#[.slice none 0 0] : Array Value)[0]? = some (.slice none 0 0)); have fp12 := fun (v : Value) (o : Obj) => blk_frozen (blkA (blkO (b := w.heap.size) (o := 0) h1 (by omega) v) o) 0)); (try (have cp21 := fun (v : Value) (o : Obj) => (blk_cell (blkA (blkO (b := w.heap.size + 1) (o := 0) h2 (by omega) v) o) 0).trans (rfl : (#[.slice none 0 0] : Array Value)[0]? = some (.slice none 0 0)); have fp21 := fun (v : Value) (o : Obj) => blk_frozen (blkA (blkO (b := w.heap.size + 1) (o := 0) h2 (by omega) v) o) 0)))
             | (with_reducible (have h1 := blkC hb2 (blkD (blk_new _ _ _)); have h2 := blkC hb2 (blkD (blkA (blk_new _ _ _) _))); (try (have c1 := (blk_cell h1 0).trans (rfl : (#[.slice none 0 0] : Array Value)[0]? = some (.slice none 0 0)); have f1 := blk_frozen h1 0; have ca1 := fun (o : Obj) => (blk_cell (blkA h1 o) 0).trans (rfl : (#[.slice none 0 0] : Array Value)[0]? = some (.slice none 0 0)); have fa1 := fun (o : Obj) => blk_frozen (blkA h1 o) 0; have cb1 := fun (o o2 : Obj) => (blk_cell (blkA (blkA h1 o) o2) 0).trans (rfl : (#[.slice none 0 0] : Array Value)[0]? = some (.slice none 0 0)); have fb1 := fun (o o2 : Obj) => blk_frozen (blkA (blkA h1 o) o2) 0)); (try (have c2 := (blk_cell h2 0).trans (rfl : (#[.slice none 0 0] : Array Value)[0]? = some (.slice none 0 0)); have f2 := blk_frozen h2 0; have ca2 := fun (o : Obj) => (blk_cell (blkA h2 o) 0).trans (rfl : (#[.slice none 0 0] : Array Value)[0]? = some (.slice none 0 0)); have fa2 := fun (o : Obj) => blk_frozen (blkA h2 o) 0; have cb2 := fun (o o2 : Obj) => (blk_cell (blkA (blkA h2 o) o2) 0).trans (rfl : (#[.slice none 0 0] : Array Value)[0]? = some (.slice none 0 0)); have fb2 := fun (o o2 : Obj) => blk_frozen (blkA (blkA h2 o) o2) 0)); simp only [World.size_alloc, size_drew] at *; (try (have cp12 := fun (v : Value) (o : Obj) => (blk_cell (blkA (blkO (b := w.heap.size) (o := 0) h1 (by omega) v) o) 0).trans (rfl : (#[.slice none 0 0] : Array Value)[0]? = some (.slice none 0 0)); have fp12 := fun (v : Value) (o : Obj) => blk_frozen (blkA (blkO (b := w.heap.size) (o := 0) h1 (by omega) v) o) 0)); (try (have cp21 := fun (v : Value) (o : Obj) => (blk_cell (blkA (blkO (b := w.heap.size + 1) (o := 0) h2 (by omega) v) o) 0).trans (rfl : (#[.slice none 0 0] : Array Value)[0]? = some (.slice none 0 0)); have fp21 := fun (v : Value) (o : Obj) => blk_frozen (blkA (blkO (b := w.heap.size + 1) (o := 0) h2 (by omega) v) o) 0)))
             | (with_reducible (have h1 := blkC hb2 (blk_new _ _ _)); (try (have c1 := (blk_cell h1 0).trans (rfl : (#[.slice none 0 0] : Array Value)[0]? = some (.slice none 0 0)); have f1 := blk_frozen h1 0; have ca1 := fun (o : Obj) => (blk_cell (blkA h1 o) 0).trans (rfl : (#[.slice none 0 0] : Array Value)[0]? = some (.slice none 0 0)); have fa1 := fun (o : Obj) => blk_frozen (blkA h1 o) 0; have cb1 := fun (o o2 : Obj) => (blk_cell (blkA (blkA h1 o) o2) 0).trans (rfl : (#[.slice none 0 0] : Array Value)[0]? = some (.slice none 0 0)); have fb1 := fun (o o2 : Obj) => blk_frozen (blkA (blkA h1 o) o2) 0)); simp only [World.size_alloc, size_drew] at *)
             | (with_reducible (have h1 := blkC hb2 (blkD (blk_new _ _ _))); (try (have c1 := (blk_cell h1 0).trans (rfl : (#[.slice none 0 0] : Array Value)[0]? = some (.slice none 0 0)); have f1 := blk_frozen h1 0; have ca1 := fun (o : Obj) => (blk_cell (blkA h1 o) 0).trans (rfl : (#[.slice none 0 0] : Array Value)[0]? = some (.slice none 0 0)); have fa1 := fun (o : Obj) => blk_frozen (blkA h1 o) 0; have cb1 := fun (o o2 : Obj) => (blk_cell (blkA (blkA h1 o) o2) 0).trans (rfl : (#[.slice none 0 0] : Array Value)[0]? = some (.slice none 0 0)); have fb1 := fun (o o2 : Obj) => blk_frozen (blkA (blkA h1 o) o2) 0)); simp only [World.size_alloc, size_drew] at *)
             | (simp only [size_drew] at *)
             | skip)))
    all_goals go_wp2_with fail
    all_goals go_meet
    all_goals refine ⟨_, _, _, _, rfl, rfl, by (repeat (first | with_reducible assumption | (with_reducible refine blkN ?_; (simp; done)) | with_reducible refine blkA ?_ _ | with_reducible refine blkS ?_ _ | (with_reducible refine blkO ?_ ?_ _; rotate_left; omega))), by (repeat (first | with_reducible assumption | (with_reducible refine blkN ?_; (simp; done)) | with_reducible refine blkA ?_ _ | with_reducible refine blkS ?_ _ | (with_reducible refine blkO ?_ ?_ _; rotate_left; omega))), by (repeat (first | with_reducible assumption | with_reducible refine tcapA ?_ _ | (with_reducible refine tcapO ?_ ?_ _; rotate_left; omega))), tcapB (by (repeat (first | with_reducible assumption | (with_reducible refine blkN ?_; (simp; done)) | with_reducible refine blkA ?_ _ | with_reducible refine blkS ?_ _ | (with_reducible refine blkO ?_ ?_ _; rotate_left; omega)))), by (repeat (first | with_reducible exact st1.below | with_reducible assumption | with_reducible refine belowD ?_ | with_reducible refine belowA ?_ _ | (with_reducible refine belowS ?_ ?_ _; rotate_left; omega))), ?_, ?_, ?_, ?_, ?_, ?_⟩
    all_goals omega
  case rest =>
    obtain ⟨bS, bM, gS, gM, rfl, rfl, hBS, hBM, hTS, hTM, hb, hne, hng, zbS, zbM, zgS, zgM⟩ := hcut
    have hTl : T.length = n := by rw [HT.out]; simp
    have hTn : (T.map Prod.snd).Nodup := by
      rw [HT.out, List.map_map]
      have : (Prod.snd ∘ fun i => (f i, i)) = id := rfl
      rw [this, List.map_id]
      exact List.nodup_range
    have hsrt := sort_rising wc w.heap.size gS n T hTS.row zgS (by omega) hTn
    rw [hTl] at hsrt
    have HSRT := Lib.hid hsrt
    have cS := blk_cell hBS 0
    have fS := blk_frozen hBS 0
    have cS' : wc.cell? ⟨bS, 0, none⟩ = some (.slice (some ⟨gS, 0, none⟩) n n) := cS
    have HBM := Lib.hid hBM
    have HBS := Lib.hid hBS
    have HTM := Lib.hid hTM
    have HTS := Lib.hid hTS
    have HB := Lib.hid hb
    clear hsrt cS hBS hBM hTS hTM hb hmk st1 HA
    go_wp2_with fail
    refine HSRT.out.mono ?_
    rintro e w3 ⟨rfl, LS, hperm, hsort, hrow, hst⟩
    obtain ⟨N, hN⟩ : ∃ N, N = 2 * n - 1 := ⟨_, rfl⟩
    have hNz : (2 : Int) * (n : Int) - 1 = (N : Int) := by omega
    have hN3 : 3 ≤ N := by omega
    have hN5 : N ≤ 515 := by omega
    have hmk := make_noughts w3 N (by omega)
    have hmw := made_noughts w3 w.heap.size N (by have := HB.out.size; have := hst.size; omega) (by omega)
    have HN := Lib.hid hN
    have HMW := Lib.hid hmw
    have HST := Lib.hid hst
    have HROW := Lib.hid hrow
    have HSORT := Lib.hid hsort
    have HPERM := Lib.hid hperm
    have HW : Hid (((List.range n).map f).sum ≤ 1099511627776) := Lib.hid (sum_small n f hn fun j hj => (hf j hj).2)
    have HLS : Hid (LS.length = n ∧ (∀ t ∈ LS, t.1 ≤ 1073741824 ∧ t.2 < n)) := Lib.hid (by
      refine ⟨by rw [hperm.length_eq, hTl], fun t ht => ?_⟩
      have h3 := hperm.mem_iff.1 ht
      rw [HT.out] at h3
      obtain ⟨i, hi, rfl⟩ := List.mem_map.1 h3
      exact ⟨(hf i (List.mem_range.1 hi)).2, List.mem_range.1 hi⟩)
    have HJ : Hid (JInv w (w3.alloc (.cells (madeCells #[.int .i64 0] N) 3)) ((List.range n).map f) n bS bM gS gM w3.heap.size LS [] n 0 0 0 (some ⟨gS, 0, none⟩) (fun j => ((List.range n).map f).getD j 0) (fun _ => 0) (leaves ((List.range n).map f)) (fun _ => 0)) := Lib.hid (by
      have hsg : ∀ b, Blk wc b 107 #[.slice (some ⟨gS, 0, none⟩) n n] ∨ Blk wc b 107 #[.slice (some ⟨gM, 0, none⟩) 0 n] → b ∉ [gS] := by
        rintro b hb hm
        rw [List.mem_singleton] at hm
        obtain ⟨cs, h1, _⟩ := HTS.out
        rcases hb with hb | hb <;> exact blk_apart hb h1 (by decide) hm
      have hWl : ((List.range n).map f).length = n := by simp
      constructor
      case boxS =>
        rw [HLS.out.1]
        exact blkA (HST.out.blk HBS.out (hsg bS (.inl HBS.out)) (by simp)) _
      case boxM => exact blkA (HST.out.blk HBM.out (hsg bM (.inr HBM.out)) (by simp)) _
      case rowS =>
        obtain ⟨cs, h1, h3⟩ := HROW.out
        exact ⟨cs, blkA h1 _, h3⟩
      case rowM => exact tcapA (HST.out.tcap HTM.out (by rw [List.mem_singleton]; exact hng.symm)) _
      case at_ => exact fun _ => rfl
      case hp => exact Nat.zero_le _
      case hq => exact Nat.zero_le _
      case hm => simp
      case hk => omega
      case two =>
        have h3 := two_start ((List.range n).map f) LS (by
          rw [hWl]
          refine HPERM.out.trans ?_
          rw [HT.out]
          have : ((List.range n).map fun i => (f i, i)) = (List.range n).map fun i => (((List.range n).map f).getD i 0, i) := List.map_congr_left fun i hi => by rw [range_getD n f i (List.mem_range.1 hi)]
          rw [this]) HSORT.out
        rw [hWl] at h3
        exact h3
      case grown =>
        have h3 := grown_start ((List.range n).map f) (by rw [hWl]; omega)
        rw [hWl] at h3
        exact h3
      case row => rw [← HN.out]; exact HMW.out
      case low => exact fun t ht => absurd ht (by simp)
      case below => exact (HB.out.trans HST.out.below).alloc (by have := HB.out.size; have := HST.out.size; omega) _)
    generalize hWE : (List.range n).map f = W at *
    have HWE := Lib.hid hWE
    clear hWE
    clear hN hmw hst hrow hsort hperm
    go_wp2_with fail
    clear hmk HMW HST HROW HSORT HPERM HSRT HB HBS HBM HTM HTS
    go_loopw [7, 8, 9] (fun v s8 s9 wx => ∃ (k p q b : Nat) (LM : List (Nat × Nat)) (AS : Option Addr) (ws ov : Nat → Nat) (act : List Tr) (len : Nat → Nat), v = .int .i64 k ∧ JInv w wx W n bS bM gS gM w3.heap.size LS LM k p q b AS ws ov act len) (fun v _ _ _ => N - (intOf v).toNat)
    case atStart => exact ⟨n, 0, 0, 0, [], _, _, _, _, _, rfl, HJ.out⟩
    case round =>
      clear HJ
      rename World => w4
      obtain ⟨k, p, q, b, LM, AS, ws, ov, act, len, rfl, J⟩ := hrel
      have hkN := J.hk
      rw [← HN.out] at hkN
      by_cases e : k < N
      · have dk : decide ((k : Int) < (N : Int)) = true := decide_eq_true (by omega)
        have hk2 : k + 1 < 2 * n := by have := HN.out; omega
        have hLSn := HLS.out.1
        have hms := J.hm
        have hq0 := J.hq
        obtain ⟨a1, a2, ha1, ha2, ha12, ha10, ha20⟩ := grown_two J.grown hk2
        have hne0 : p < LS.length ∨ q < LM.length := by
          rcases two_none J.two ha1 ha10 with h | h
          · have := List.length_pos_of_mem h
            rw [List.length_drop] at this
            omega
          · have := List.length_pos_of_mem h
            rw [List.length_drop] at this
            omega
        have hLMb : ∀ t ∈ LM, t.1 < 4611686018427387904 := fun t ht => by
          have := (J.low t ht).1
          have := HW.out
          omega
        have hLSb : ∀ t ∈ LS, t.1 < 4611686018427387904 := fun t ht => by
          have := (HLS.out.2 t ht).1
          omega
        have hap : ∀ t ∈ LS, ∀ u ∈ LM, t.2 ≠ u.2 := fun t ht u hu => by
          have := (HLS.out.2 t ht).2
          have := (J.low u hu).2
          omega
        have HF := Lib.hid (first_one w4 w.heap.size bS bM gS gM p q n AS LS LM J.boxS J.boxM J.rowS J.rowM.row J.at_ J.hp J.hq (by omega) (by omega) (by omega) (by omega) hLSb hLMb hap hne0 zbS zbM hne)
        have HSEC : Hid (∀ (w5 : World) (x : Nat × Nat) (p1 q1 : Nat) (A1 : Option Addr), Step w.heap.size [bS, bM] [] w4 w5 → fpick (LS.drop p) (LM.drop q) = (x, LS.drop p1, LM.drop q1) → p1 ≤ LS.length → q1 ≤ LM.length → (p1 < LS.length → A1 = some ⟨gS, p1 * 2, none⟩) → Blk w5 bS 107 #[.slice A1 (LS.length - p1 : Nat) (LS.length - p1 : Nat)] → Blk w5 bM 107 #[.slice (some ⟨gM, q1 * 2, none⟩) (LM.length - q1 : Nat) (n - q1 : Nat)] →
            Calls Tryz.prog 152 #[.pointer (some ⟨bS, 0, none⟩), .pointer (some ⟨bM, 0, none⟩)] w5 fun e w' => ∃ (y : Nat × Nat) (p2 q2 : Nat) (A2 : Option Addr), e = .returned (.agg #[.int .i64 y.1, .int .i64 y.2]) ∧ Step w.heap.size [bS, bM] [] w5 w' ∧
              fpick (LS.drop p1) (LM.drop q1) = (y, LS.drop p2, LM.drop q2) ∧ p2 ≤ LS.length ∧ q2 ≤ LM.length ∧ (p2 < LS.length → A2 = some ⟨gS, p2 * 2, none⟩) ∧ Blk w' bS 107 #[.slice A2 (LS.length - p2 : Nat) (LS.length - p2 : Nat)] ∧ Blk w' bM 107 #[.slice (some ⟨gM, q2 * 2, none⟩) (LM.length - q2 : Nat) (n - q2 : Nat)]) := Lib.hid (by
          intro w5 x p1 q1 A1 hst hpk h1 h3 h4 h5 h6
          have hgS : gS ∉ [bS, bM] := by
            intro hm
            obtain ⟨cs, hc, _⟩ := J.rowS
            rcases List.mem_cons.1 hm with hm | hm
            · exact blk_apart hc J.boxS (by decide) hm
            · exact blk_apart hc J.boxM (by decide) (List.mem_singleton.1 hm)
          have hgM : gM ∉ [bS, bM] := by
            intro hm
            obtain ⟨cs, hc, _⟩ := J.rowM
            rcases List.mem_cons.1 hm with hm | hm
            · exact blk_apart hc J.boxS (by decide) hm
            · exact blk_apart hc J.boxM (by decide) (List.mem_singleton.1 hm)
          have hk0 : k ≠ 0 := by omega
          have htw := (two_pick J.two J.grown.ge hk0 ha1 ha10 hpk rfl).2.2.2.1
          have hne1 : p1 < LS.length ∨ q1 < LM.length := by
            obtain ⟨i, hi, hi0⟩ : ∃ i, i < k ∧ (fun j => if j = x.2 then k else ov j) i = 0 := by
              by_cases ex : a1 = x.2
              · exact ⟨a2, ha2, by show (if a2 = x.2 then k else ov a2) = 0; rw [if_neg (by omega)]; exact ha20⟩
              · exact ⟨a1, ha1, by show (if a1 = x.2 then k else ov a1) = 0; rw [if_neg ex]; exact ha10⟩
            rcases two_none htw hi hi0 with h | h
            · have := List.length_pos_of_mem h
              rw [List.length_drop] at this
              omega
            · have := List.length_pos_of_mem h
              rw [List.length_drop] at this
              omega
          exact first_one w5 w.heap.size bS bM gS gM p1 q1 n A1 LS LM h5 h6 (hst.trow J.rowS hgS) (hst.tcap J.rowM hgM).row h4 h1 h3 (by omega) (by omega) (by omega) (by omega) hLSb hLMb hap hne1 zbS zbM hne)
        have HJ := Lib.hid J
        clear J hLMb hLSb hap
        go_wp2_with fail
        refine HF.out.mono ?_
        rintro e5 w5 ⟨x, p1, q1, A1, rfl, hst1, hpk1, hp1, hq1, hA1, hbS1, hbM1⟩
        have HF2 := Lib.hid (HSEC.out w5 x p1 q1 A1 hst1 hpk1 hp1 hq1 hA1 hbS1 hbM1)
        have HP1 := Lib.hid hpk1
        have HST1 := Lib.hid hst1
        clear hpk1 hst1 hA1 hbS1 hbM1 HSEC
        go_wp2_with fail
        refine HF2.out.mono ?_
        rintro e6 w6 ⟨y, p2, q2, A2, rfl, hst2, hpk2, hp2, hq2, hA2, hbS2, hbM2⟩
        have hround := two_round HJ.out.grown HJ.out.two hk2 HP1.out hpk2 rfl rfl
        have hst12 : Step w.heap.size [bS, bM] [] w4 w6 := HST1.out.trans hst2
        have hrI : w3.heap.size ∉ [bS, bM] := by
          have h1 := row_ne HJ.out.row HJ.out.boxS (by decide) w3.heap.size rfl
          have h3 := row_ne HJ.out.row HJ.out.boxM (by decide) w3.heap.size rfl
          simp [h1, h3]
        have hrow6 : FRow w6 w.heap.size w3.heap.size N N ov := by
          have := HJ.out.row
          rw [← HN.out] at this
          exact hst12.row this (fun g hg => by simp [Value.ownBlock] at hg; rw [← hg]; exact hrI) (by simp)
        have hgS : gS ∉ [bS, bM] := by
          intro hm
          obtain ⟨cs, hc, _⟩ := HJ.out.rowS
          rcases List.mem_cons.1 hm with hm | hm
          · exact blk_apart hc HJ.out.boxS (by decide) hm
          · exact blk_apart hc HJ.out.boxM (by decide) (List.mem_singleton.1 hm)
        have hgM : gM ∉ [bS, bM] := by
          intro hm
          obtain ⟨cs, hc, _⟩ := HJ.out.rowM
          rcases List.mem_cons.1 hm with hm | hm
          · exact blk_apart hc HJ.out.boxS (by decide) hm
          · exact blk_apart hc HJ.out.boxM (by decide) (List.mem_singleton.1 hm)
        have hgIM : w3.heap.size ≠ gM := by
          obtain ⟨cs, hc, _⟩ := HJ.out.rowM
          exact row_ne HJ.out.row hc (by decide) w3.heap.size rfl
        have HS6 := Lib.hid (hst12.trow HJ.out.rowS hgS)
        have HM6 := Lib.hid (hst12.tcap HJ.out.rowM hgM)
        have HB6 := Lib.hid (HJ.out.below.trans hst12.below)
        have z6 : w.heap.size ≤ w6.heap.size := HB6.out.size
        have hgI6 : w3.heap.size < w6.heap.size := hrow6.lt.2
        have hgIB : w.heap.size ≤ w3.heap.size := hrow6.lt.1
        obtain ⟨⟨act2, len2, hg2⟩, ht2, hx, hy, hxy, hsum⟩ := hround
        have hxN : x.2 < N := by omega
        have hyN : y.2 < N := by omega
        have HG2 := Lib.hid hg2
        have HT2 := Lib.hid ht2
        have HP2 := Lib.hid hpk2
        have HBS2 := Lib.hid hbS2
        have HBM2 := Lib.hid hbM2
        have HA2 := Lib.hid hA2
        have HR6 := Lib.hid hrow6
        clear hg2 ht2 hpk2 hbS2 hbM2 hA2 hrow6 hst12 hst2 HST1 HP1 HF HF2
        obtain ⟨x0, x1⟩ := x
        obtain ⟨y0, y1⟩ := y
        dsimp only at hx hy hxy hsum hxN hyN
        -- the world with both trees in boxes
        have hrow7 : FRow ((w6.alloc (.cells #[.int .i64 x0, .int .i64 x1] 111)).alloc (.cells #[.int .i64 y0, .int .i64 y1] 111)) w.heap.size w3.heap.size N N ov := (HR6.out.alloc _).alloc _
        have b7 := blk_two w6 (.int .i64 x0) (.int .i64 x1) (.int .i64 y0) (.int .i64 y1) 111
        have k0 := (blk_cell b7.1 0).trans (rfl : _ = some (Value.int .i64 x0))
        have k1 := (blk_cell b7.1 1).trans (rfl : _ = some (Value.int .i64 x1))
        have k2 := (blk_cell b7.2 0).trans (rfl : _ = some (Value.int .i64 y0))
        have k3 := (blk_cell b7.2 1).trans (rfl : _ = some (Value.int .i64 y1))
        have c1 := hrow7.cell x1 hxN
        have c2 := hrow7.cell y1 hyN
        have f1 := hrow7.frozen x1
        have f2 := hrow7.frozen y1
        have hx0I : (0 : Int) ≤ (x1 : Int) := by omega
        have hxNI : (x1 : Int) < (N : Int) := by omega
        have hy0I : (0 : Int) ≤ (y1 : Int) := by omega
        have hyNI : (y1 : Int) < (N : Int) := by omega
        have HR7 := Lib.hid hrow7
        have B7 := Lib.hid b7
        clear hrow7 b7
        go_wp2_with fail
        have ST7 : Hid (Step w.heap.size [] [] w6 ((w6.alloc (.cells #[.int .i64 x0, .int .i64 x1] 111)).alloc (.cells #[.int .i64 y0, .int .i64 y1] 111))) := Lib.hid (((Step.refl w.heap.size [] [] w6).alloc z6 _).alloc (by simp; omega) _)
        obtain ⟨w7, hw7⟩ : ∃ w7, w7 = (w6.alloc (.cells #[.int .i64 x0, .int .i64 x1] 111)).alloc (.cells #[.int .i64 y0, .int .i64 y1] 111) := ⟨_, rfl⟩
        rw [← hw7] at HR7 B7 k0 k1 k2 k3 c1 c2 f1 f2 ST7
        rw [← hw7]
        clear hw7
        have hs1 := (HR7.out.drew 1).set x1 k
        have hs2 := hs1.set y1 k
        have c2s := hs1.cell y1 hyN
        have f2s := hs1.frozen y1
        have HS2 := Lib.hid hs2
        clear hs1 hs2
        change (w7.drew.setCell ⟨w3.heap.size, x1, none⟩ (.int .i64 (k : Nat))).cell? ⟨w3.heap.size, y1, none⟩ = _ at c2s
        change (w7.drew.setCell ⟨w3.heap.size, x1, none⟩ (.int .i64 (k : Nat))).frozen? ⟨w3.heap.size, y1, none⟩ = _ at f2s
        change Hid (FRow ((w7.drew.setCell ⟨w3.heap.size, x1, none⟩ (.int .i64 (k : Nat))).setCell ⟨w3.heap.size, y1, none⟩ (.int .i64 (k : Nat))) w.heap.size w3.heap.size N N _) at HS2
        go_region
        obtain ⟨w8, hw8⟩ : ∃ w8, w8 = ((w7.setCell ⟨w3.heap.size, x1, none⟩ (.int .i64 (k : Nat))).setCell ⟨w3.heap.size, y1, none⟩ (.int .i64 (k : Nat))).drew := ⟨_, rfl⟩
        have HS8 : Hid (FRow w8 w.heap.size w3.heap.size N N fun j => if j = y1 then k else if j = x1 then k else ov j) := Lib.hid (by rw [hw8]; exact HS2.out)
        have hIS : bS ≠ w3.heap.size := fun h => by simp [h] at hrI
        have hIM : bM ≠ w3.heap.size := fun h => by simp [h] at hrI
        have hgSI : gS ≠ w3.heap.size := by
          obtain ⟨cs, hc, _⟩ := HJ.out.rowS
          exact fun h => row_ne HJ.out.row hc (by decide) w3.heap.size rfl h.symm
        have hgSM2 : gS ≠ gM ∧ gS ≠ bM ∧ gM ≠ bM ∧ bS ≠ gM := by
          simp only [List.mem_cons, List.not_mem_nil, or_false, not_or] at hgS hgM
          exact ⟨hng, hgS.2, hgM.2, fun h => hgM.1 h.symm⟩
        have up8 : ∀ {g : Nat} {t : TypeId} {cs : Array Value}, Blk w6 g t cs → g ≠ w3.heap.size → Blk w8 g t cs := fun h h3 => by
          rw [hw8]
          exact blkD (blkO (blkO (ST7.out.blk h (by simp) (by simp)) h3 _) h3 _)
        have up78 : ∀ {g : Nat} {t : TypeId} {cs : Array Value}, Blk w7 g t cs → g ≠ w3.heap.size → Blk w8 g t cs := fun h h3 => by
          rw [hw8]
          exact blkD (blkO (blkO h h3 _) h3 _)
        have BS8 := Lib.hid (up8 HBS2.out hIS)
        have bM8 := up8 HBM2.out hIM
        have ba8 := up78 B7.out.1 (by omega)
        have bb8 := up78 B7.out.2 (by omega)
        have RS8 : Hid (TRow w8 gS LS) := Lib.hid (by
          obtain ⟨cs, h1, h3⟩ := HS6.out
          exact ⟨cs, up8 h1 hgSI, h3⟩)
        have RM8 : Hid (TCap w8 gM n LM) := Lib.hid (by
          obtain ⟨cs, h1, h3⟩ := HM6.out
          exact ⟨cs, up8 h1 hgIM.symm, h3⟩)
        have BE8 : Hid (Below w.heap.size w w8) := Lib.hid (by
          rw [hw8]
          exact (((HB6.out.trans ST7.out.below).setCell (p := ⟨w3.heap.size, x1, none⟩) hgIB _).setCell (p := ⟨w3.heap.size, y1, none⟩) hgIB _).drew)
        rw [← hw8]
        clear hw8 up8 up78 HS2 c2s f2s c1 c2 f1 f2 k0 k1 k2 k3 HR7 B7 ST7 HB6 HS6 HM6 HR6 HBS2 HBM2
        obtain ⟨lm, hlm⟩ : ∃ lm, lm = LM.length - q2 := ⟨_, rfl⟩
        obtain ⟨cm, hcm⟩ : ∃ cm, cm = n - q2 := ⟨_, rfl⟩
        obtain ⟨z, hz⟩ : ∃ z, z = x0 + y0 := ⟨_, rfl⟩
        rw [← hlm, ← hcm] at bM8
        have hzz : (x0 : Int) + (y0 : Int) = (z : Int) := by omega
        have hzb : z ≤ 1099511627776 := by have := HW.out; omega
        have hlc : lm + 1 ≤ cm := by omega
        have hoff : q2 * 2 + lm * 2 = LM.length * 2 := by omega
        have hLMn : LM.length < n := by omega
        have r0 := (blk_cell ba8 0).trans (rfl : _ = some (Value.int .i64 x0))
        have r1 := (blk_cell bb8 0).trans (rfl : _ = some (Value.int .i64 y0))
        have r2 := (blk_cell bM8 0).trans (rfl : _ = some (Value.slice (some ⟨gM, q2 * 2, none⟩) lm cm))
        obtain ⟨i3, h3, hz0, hz1, hz2⟩ := info_parts Tryz.infoTree
        have hrun : (Builtin.append_ #[107, 107] 107 #[.slice (some ⟨gM, q2 * 2, none⟩) lm cm, .slice (some ⟨w8.heap.size, 0, none⟩) 1 1]).run Tryz.prog (w8.alloc (.cells #[.int .i64 z, .int .i64 k] 111)) = .ok (.slice (some ⟨gM, q2 * 2, none⟩) (lm + 1) cm) (((w8.alloc (.cells #[.int .i64 z, .int .i64 k] 111)).setCell ⟨gM, LM.length * 2, none⟩ (.int .i64 z)).setCell ⟨gM, LM.length * 2 + 1, none⟩ (.int .i64 k)) := by
          have hT9 := tcapA RM8.out (.cells #[.int .i64 z, .int .i64 k] 111)
          have h9 := run_append_room_cells (P := Tryz.prog) (w8.alloc (.cells #[.int .i64 z, .int .i64 k] 111)) 107 107 111 i3 Tryz.underlying107 h3 gM (q2 * 2) lm cm ⟨w8.heap.size, 0, none⟩ 1 1 [.int .i64 z, .int .i64 k] (by rw [hz1]; rfl) (two_new w8 _ _ _)
            (fun u hu => by simp at hu; rcases hu with rfl | rfl <;> rfl) hlc
            (fun jj hj => by rw [hz1, hoff]; exact (hT9.there _ (by simp at hj; omega)).1) (fun jj hj => by rw [hz1, hoff]; exact (hT9.there _ (by simp at hj; omega)).2)
          rw [hz1, hoff] at h9
          exact h9
        have HRUN := Lib.hid hrun
        have fM8 := blk_frozen bM8 0
        have BM8 := Lib.hid bM8
        have HLM := Lib.hid hlm
        have HCM := Lib.hid hcm
        have HZ := Lib.hid hz
        have HOFF := Lib.hid hoff
        have hM10 : Blk (((w8.alloc (.cells #[.int .i64 z, .int .i64 k] 111)).setCell ⟨gM, LM.length * 2, none⟩ (.int .i64 z)).setCell ⟨gM, LM.length * 2 + 1, none⟩ (.int .i64 k)) bM 107 #[.slice (some ⟨gM, q2 * 2, none⟩) lm cm] := blkO (blkO (blkA bM8 _) hgSM2.2.2.1.symm _) hgSM2.2.2.1.symm _
        have m10 := (blk_cell hM10 0).trans (rfl : _ = some (Value.slice (some ⟨gM, q2 * 2, none⟩) lm cm))
        have f10 := blk_frozen hM10 0
        have HEND : Hid (JInv w ((((w8.alloc (.cells #[.int .i64 z, .int .i64 k] 111)).setCell ⟨gM, LM.length * 2, none⟩ (.int .i64 z)).setCell ⟨gM, LM.length * 2 + 1, none⟩ (.int .i64 k)).setCell ⟨bM, 0, none⟩ (.slice (some ⟨gM, q2 * 2, none⟩) (lm + 1 : Nat) cm)) W n bS bM gS gM w3.heap.size LS (LM ++ [(z, k)]) (k + 1) p2 q2 y0 A2 (fun j => if j = k then x0 + y0 else ws j) (fun j => if j = y1 then k else if j = x1 then k else ov j) act2 len2) := Lib.hid (by
          have hz8 := BE8.out.size
          have hdrop : (LM ++ [(z, k)]).drop q2 = LM.drop q2 ++ [(z, k)] := List.drop_append_of_le_length hq2
          constructor
          case boxS => exact blkO (blkO (blkO (blkA BS8.out _) hgSM2.2.2.2 _) hgSM2.2.2.2 _) hne _
          case boxM =>
            rw [show (LM ++ [(z, k)]).length - q2 = lm + 1 by rw [List.length_append, List.length_singleton]; omega, ← hcm]
            exact blk_set hM10 0 _
          case rowS =>
            obtain ⟨cs, h1, h4⟩ := RS8.out
            exact ⟨cs, blkO (blkO (blkO (blkA h1 _) hgSM2.1 _) hgSM2.1 _) hgSM2.2.1 _, h4⟩
          case rowM => exact tcapO ((tcapA RM8.out _).store (z, k) hLMn) hgSM2.2.2.1 _
          case at_ => exact HA2.out
          case hp => exact hp2
          case hq => rw [List.length_append, List.length_singleton]; omega
          case hm => rw [List.length_append, List.length_singleton]; omega
          case hk => omega
          case two => rw [hdrop, hz]; exact HT2.out
          case grown => exact HG2.out
          case row =>
            rw [← HN.out]
            exact (((HS8.out.alloc _).other hgIM.symm _ _).other hgIM.symm _ _).other hIM _ _
          case low =>
            intro t ht
            rcases List.mem_append.1 ht with ht | ht
            · exact HJ.out.low t ht
            · rw [List.mem_singleton.1 ht]
              exact ⟨by show z ≤ _; omega, HJ.out.grown.ge⟩
          case below => exact ((((BE8.out.alloc hz8 _).setCell (p := ⟨gM, LM.length * 2, none⟩) zgM _).setCell (p := ⟨gM, LM.length * 2 + 1, none⟩) zgM _).setCell (p := ⟨bM, 0, none⟩) zbM _))
        clear hrun ba8 bb8 bM8 hM10 hlm hcm hz hoff h3 hz0 hz1 hz2
        go_wp2_with (at_builtin; refine Lib.wpList_append_run _ rfl (.tmp 45) (.tmp 53) 107 107 rfl (.slice (some ⟨gM, q2 * 2, none⟩) lm cm) (.slice (some ⟨w8.heap.size, 0, none⟩) 1 1) rfl rfl _ _ HRUN.out ?_)
        go_roundw
        case rel => exact ⟨k + 1, p2, q2, y0, LM ++ [(z, k)], A2, _, _, act2, len2, by go_num, HEND.out⟩
        case measure => simp [intOf]; omega
      · have hkN2 : k = N := by omega
        subst hkN2
        have dk : decide ((k : Int) < (k : Int)) = false := decide_eq_false (by omega)
        have HG := Lib.hid J.grown
        have HR := Lib.hid J.row
        have HBE := Lib.hid J.below
        clear J
        go_wp2_with fail
        go_ret
        rw [← HN.out]
        rw [← HN.out] at HR
        refine ⟨w3.heap.size, ov, ws, act, len, rfl, ?_, HR.out, HBE.out⟩
        rw [HWE.out]
        exact HG.out

end Go.Proofs.YtmgmgmbpldboiaaGreat
