/- How the laws' arguments read: a slice of structs of two fields is nil, or so many pairs of cells. No conditions. -/
import Derived.Test.YtelgmihemnidkaaL
import Derived.Deep.SlicePairs
namespace Go.Proofs.Ytelgmihemnidkaa
open Go.ChangeShapes Go.WideShapes Go.ChangeAt Go.RowKit Go.Deep

/-- The slice '.slice A n c' holds n pairs: X i, Y i. -/
def PairsIn (w : World) (B : Nat) (A : Option Addr) (n : Nat) (X Y : Nat → Value) : Prop :=
  0 < n → ∃ b off, A = some ⟨b, off, none⟩ ∧ b < B ∧ ∀ i, i < n → w.cell? ⟨b, off + i * 2, none⟩ = some (X i) ∧ w.cell? ⟨b, off + i * 2 + 1, none⟩ = some (Y i)

theorem PairsIn.below {w w' : World} {B : Nat} {A : Option Addr} {n : Nat} {X Y : Nat → Value} (h : PairsIn w B A n X Y) (hb : Below B w w') : PairsIn w' B A n X Y := by
  intro hn
  obtain ⟨b, off, rfl, hlt, hc⟩ := h hn
  exact ⟨b, off, rfl, hlt, fun i hi => ⟨(hb.cell (p := ⟨b, _, none⟩) hlt).trans (hc i hi).1, (hb.cell (p := ⟨b, _, none⟩) hlt).trans (hc i hi).2⟩⟩

theorem addr_of_cell {w : World} {a : Addr} {v : Value} (h : w.cell? a = some v) : a = ⟨a.block, a.off, none⟩ := by
  unfold World.cell? at h
  split at h
  · split at h
    · cases h
    · rename_i hs
      cases a with
      | mk b o s =>
        cases s with
        | none => rfl
        | some s => simp at hs
  · cases h

theorem open_pairs {H : Type} {enc : TypeId × Value → H} {W : World} {t e : TypeId} {f0 f1 : Field} {A : Option Addr} {n c : Nat} {d : DataW H} {ps : List MemPlace}
    (ht : Try.prog.underlying t = some (.slice e)) (he : Try.prog.underlying e = some (.struct #[f0, f1])) (ce : Try.prog.cellsOf e = 2) (o0 : f0.offset = 0) (o1 : f1.offset = 1) (c0 : Try.prog.cellsOf f0.type = 1) (c1 : Try.prog.cellsOf f1.type = 1)
    (h : DataW.Trod enc Try.prog W 0 (fun _ => true) true t (.slice A n c) d ps) :
    ∃ (X Y : Nat → Value), n ≤ c ∧ n ≤ maxLen ∧ PairsIn W W.heap.size A n X Y ∧
      ∀ i, i < n → (∃ D0 k, DataW.trod enc Try.prog W 0 (fun _ => true) true k f0.type [X i] = some D0) ∧ ∃ D1 k, DataW.trod enc Try.prog W 0 (fun _ => true) true k f1.type [Y i] = some D1 := by
  obtain ⟨fuel, h⟩ := h
  rcases open_slice_pairs ht he ce o0 o1 c0 c1 h with ⟨hc, _⟩ | ⟨a, len, cap, m, k, V0, V1, D0, D1, P0, P1, hcs, _, hl, hm, hmeq, _, hall⟩
  · simp [Value.cells] at hc
    obtain ⟨rfl, rfl, rfl⟩ := hc
    exact ⟨fun _ => .bool false, fun _ => .bool false, Nat.le_refl _, by unfold maxLen; omega, fun h => by omega, fun i h => by omega⟩
  · simp [Value.cells] at hcs
    obtain ⟨rfl, rfl, rfl⟩ := hcs
    simp only [if_true] at hmeq
    subst hmeq
    refine ⟨V0, V1, hl, by omega, ?_, fun i hi => ⟨⟨_, _, (hall i (by omega)).2.2.1⟩, ⟨_, _, (hall i (by omega)).2.2.2⟩⟩⟩
    intro hn
    have h0 := (hall 0 (by omega)).1
    rw [Nat.zero_mul, Addr.add_zero'] at h0
    have ha := addr_of_cell h0
    refine ⟨a.block, a.off, by rw [← ha], World.block_lt_of_cell? W a h0, fun i hi => ?_⟩
    obtain ⟨h1, h2, _⟩ := hall i (by omega)
    rw [ha, Addr.add_lit] at h1 h2
    exact ⟨h1, h2⟩

theorem Try.cells31 : Try.prog.cellsOf 31 = 2 := by kernel_rfl
theorem Try.cells43 : Try.prog.cellsOf 43 = 2 := by kernel_rfl
theorem Try.cells54 : Try.prog.cellsOf 54 = 2 := by kernel_rfl
theorem Try.cells29 : Try.prog.cellsOf 29 = 1 := by kernel_rfl
theorem Try.cells3 : Try.prog.cellsOf 3 = 1 := by kernel_rfl
theorem Try.cells4 : Try.prog.cellsOf 4 = 1 := by kernel_rfl
theorem Try.cells9 : Try.prog.cellsOf 9 = 1 := by kernel_rfl

/-- []Put: so many numbers and widths. -/
theorem open_puts {H : Type} {enc : TypeId × Value → H} {W : World} {A : Option Addr} {n c : Nat} {d : DataW H} {ps : List MemPlace}
    (h : DataW.Trod enc Try.prog W 0 (fun _ => true) true 22 (.slice A n c) d ps) :
    ∃ (V : Nat → Nat) (N : Nat → Int), n ≤ c ∧ n ≤ maxLen ∧ PairsIn W W.heap.size A n (fun i => .int .u64 (V i)) (fun i => .int .i64 (N i)) ∧ (∀ i, i < n → V i < 2 ^ 64) ∧ ∀ i, i < n → -9223372036854775808 ≤ N i ∧ N i ≤ 9223372036854775807 := by
  obtain ⟨X, Y, h1, h2, h3, h4⟩ := open_pairs Try.underlying22 Try.underlying31 Try.cells31 rfl rfl Try.cells29 Try.cells3 h
  have hx : ∀ i, i < n → ∃ k, X i = .int .u64 k ∧ (Lit.int .u64 k).wf = true := fun i hi => by
    obtain ⟨⟨D, k, t0⟩, _⟩ := h4 i hi
    obtain ⟨j, e1, _, hw⟩ := DataW.trod_int Try.underlying29 t0
    simp only [List.cons.injEq, and_true] at e1
    exact ⟨j, e1, hw⟩
  have hy : ∀ i, i < n → ∃ k, Y i = .int .i64 k ∧ (Lit.int .i64 k).wf = true := fun i hi => by
    obtain ⟨_, D, k, t0⟩ := h4 i hi
    obtain ⟨j, e1, _, hw⟩ := DataW.trod_int Try.underlying3 t0
    simp only [List.cons.injEq, and_true] at e1
    exact ⟨j, e1, hw⟩
  refine ⟨fun i => (intOf (X i)).toNat, fun i => intOf (Y i), h1, h2, ?_, ?_, ?_⟩
  · intro hn
    obtain ⟨b, off, hA, hb, hc⟩ := h3 hn
    refine ⟨b, off, hA, hb, fun i hi => ?_⟩
    obtain ⟨g1, g2⟩ := hc i hi
    obtain ⟨k, e1, w1⟩ := hx i hi
    obtain ⟨j, e2, _⟩ := hy i hi
    have := bounds_u64 w1
    have i1 : intOf (X i) = k := by rw [e1]; rfl
    have i2 : intOf (Y i) = j := by rw [e2]; rfl
    rw [g1, g2]
    show some (X i) = some (.int .u64 ((intOf (X i)).toNat : Int)) ∧ some (Y i) = some (.int .i64 (intOf (Y i)))
    rw [i1, i2, e1, e2, Int.toNat_of_nonneg this.1]
    exact ⟨rfl, rfl⟩
  · intro i hi
    obtain ⟨k, e1, w1⟩ := hx i hi
    have := bounds_u64 w1
    simp only [e1, intOf]
    omega
  · intro i hi
    obtain ⟨j, e2, w2⟩ := hy i hi
    have := bounds_i64 w2
    simp only [e2, intOf]
    exact this

end Go.Proofs.Ytelgmihemnidkaa
