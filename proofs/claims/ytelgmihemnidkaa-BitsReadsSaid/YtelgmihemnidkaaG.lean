/- The law BitsReads, for every text, place and list of questions: a reader tells the document's bits and counts. No conditions. -/
import Derived.Test.YtelgmihemnidkaaQ
import Derived.Deep.RegionHeld3
namespace Go.Proofs.Ytelgmihemnidkaa
open Go.ChangeShapes Go.WideShapes Go.ChangeAt Go.RowKit Go.Deep

/-- []Ask: so many questions. -/
theorem open_asks {H : Type} {enc : TypeId × Value → H} {W : World} {A : Option Addr} {n c : Nat} {d : DataW H} {ps : List MemPlace}
    (h : DataW.Trod enc Try.prog W 0 (fun _ => true) true 38 (.slice A n c) d ps) :
    ∃ (U : Nat → Bool) (N : Nat → Int), n ≤ c ∧ n ≤ maxLen ∧ PairsIn W W.heap.size A n (fun i => .bool (U i)) (fun i => .int .i64 (N i)) ∧ ∀ i, i < n → -9223372036854775808 ≤ N i ∧ N i ≤ 9223372036854775807 := by
  obtain ⟨X, Y, h1, h2, h3, h4⟩ := open_pairs Try.underlying38 Try.underlying43 Try.cells43 rfl rfl Try.cells4 Try.cells3 h
  have hx : ∀ i, i < n → ∃ k, X i = .bool k := fun i hi => by
    obtain ⟨⟨D, k, t0⟩, _⟩ := h4 i hi
    obtain ⟨j, e1, _⟩ := DataW.trod_bool Try.underlying4 t0
    simp only [List.cons.injEq, and_true] at e1
    exact ⟨j, e1⟩
  have hy : ∀ i, i < n → ∃ k, Y i = .int .i64 k ∧ (Lit.int .i64 k).wf = true := fun i hi => by
    obtain ⟨_, D, k, t0⟩ := h4 i hi
    obtain ⟨j, e1, _, hw⟩ := DataW.trod_int Try.underlying3 t0
    simp only [List.cons.injEq, and_true] at e1
    exact ⟨j, e1, hw⟩
  refine ⟨fun i => match X i with | .bool b => b | _ => false, fun i => intOf (Y i), h1, h2, ?_, ?_⟩
  · intro hn
    obtain ⟨b, off, hA, hb, hc⟩ := h3 hn
    refine ⟨b, off, hA, hb, fun i hi => ?_⟩
    obtain ⟨g1, g2⟩ := hc i hi
    obtain ⟨k, e1⟩ := hx i hi
    obtain ⟨j, e2, _⟩ := hy i hi
    rw [g1, g2]
    refine ⟨?_, ?_⟩
    · simp only [e1]
    · show some (Y i) = some (.int .i64 (intOf (Y i)))
      rw [e2]
      rfl
  · intro i hi
    obtain ⟨j, e2, w2⟩ := hy i hi
    have := bounds_i64 w2
    simp only [e2, intOf]
    exact this

/-- A reader's answer to a count, and the document's, are one. -/
theorem unary_both (s : ByteArray) (hs : s.size ≤ 1000) (a : Nat) (ha : a ≤ 8 * s.size) (N : Int) (hN : N ≤ 9223372036854775807) :
    ∃ x y d : Nat, (∀ B w p, IsR B w p s a → Calls Try.prog 19 #[.pointer (some ⟨p, 0, none⟩), .int .i64 N] w (UnaryPost B w p s a d x y)) ∧
      (∀ w A c, IntsIn w A (8 * s.size) (bitsB s.data.toList) → Calls Try.prog 20 #[.slice A (8 * s.size) c, .int .i64 a, .int .i64 N] w fun e w' => e = .returned (.tuple #[.int .i64 x, .int .i64 y]) ∧ w = w') ∧
      ((y = 0 ∧ d = x + 1) ∨ (0 < y ∧ d = 0)) ∧ a + d ≤ 8 * s.size ∧ y ≤ 10 := by
  by_cases hneg : N < 0
  · refine ⟨0, 2, 0, fun B w p hR => ?_, fun w A c _ => runary_arg w A _ c a N hneg, .inr ⟨by omega, rfl⟩, ha, by omega⟩
    exact (unary_arg w p N (blk_cell hR.blk 0) hneg).mono fun e w' ⟨he, hw⟩ => ⟨he, hw ▸ hR, hw ▸ Step.refl _ _ _ _⟩
  · obtain ⟨most, rfl⟩ := Int.eq_ofNat_of_zero_le (show 0 ≤ N by omega)
    have hsz : (bitsB s.data.toList).length = 8 * s.size := by rw [bitsB_length]; rfl
    rcases unary_three most ((bitsB s.data.toList).drop a) ((bit01_bitsB _).drop a) with ⟨c, r, hc, hbits⟩ | ⟨c, hc, hbits⟩ | ⟨r, hbits⟩
    · refine ⟨c, 0, c + 1, fun B w p hR => unary_ok B w p s a c most r hR (by omega) hN hc hbits, fun w A cc hi => runary_any w A _ cc _ a c most c 0 hi (by omega) ha hN (.inl ⟨r, hc, hbits, rfl, rfl⟩), .inl ⟨rfl, rfl⟩, ?_, by omega⟩
      have := (zero_at hbits).2
      omega
    · exact ⟨0, 10, 0, fun B w p hR => unary_short B w p s a c most hR ha (by omega) hN hc hbits, fun w A cc hi => runary_any w A _ cc _ a c most 0 10 hi (by omega) ha hN (.inr (.inl ⟨hc, hbits, rfl, rfl⟩)), .inr ⟨by omega, rfl⟩, ha, by omega⟩
    · exact ⟨0, 3, 0, fun B w p hR => unary_big B w p s a most r hR (by omega) hN hbits, fun w A cc hi => runary_any w A _ cc _ a most most 0 3 hi (by omega) ha hN (.inr (.inr ⟨r, rfl, hbits, rfl, rfl⟩)), .inr ⟨by omega, rfl⟩, ha, by omega⟩

/-- A reader's answer to a taking, and the document's, are one. -/
theorem take_both (s : ByteArray) (hs : s.size ≤ 1000) (a : Nat) (ha : a ≤ 8 * s.size) (N : Int) :
    ∃ x y d : Nat, (∀ B w p, IsR B w p s a → Calls Try.prog 21 #[.pointer (some ⟨p, 0, none⟩), .int .i64 N] w (TakePost B w p s a d x y)) ∧
      (∀ w A c, 8 * s.size ≤ c → c ≤ maxLen → IntsIn w A (8 * s.size) (bitsB s.data.toList) → Calls Try.prog 22 #[.slice A (8 * s.size) c, .int .i64 a, .int .i64 N] w fun e w' => e = .returned (.tuple #[.int .u64 x, .int .i64 y]) ∧ w = w') ∧
      ((y = 0 ∧ N = d) ∨ (0 < y ∧ d = 0)) ∧ a + d ≤ 8 * s.size ∧ y ≤ 10 := by
  by_cases harg : N < 0 ∨ 64 < N
  · refine ⟨0, 2, 0, fun B w p hR => ?_, fun w A c _ _ _ => rtake_arg w A _ c a N harg, .inr ⟨by omega, rfl⟩, ha, by omega⟩
    exact (take_arg w p N (blk_cell hR.blk 0) harg).mono fun e w' ⟨he, hw⟩ => ⟨he, hw ▸ hR, hw ▸ Step.refl _ _ _ _⟩
  · obtain ⟨k, rfl⟩ := Int.eq_ofNat_of_zero_le (show 0 ≤ N by omega)
    by_cases hle : a + k ≤ 8 * s.size
    · exact ⟨_, 0, k, fun B w p hR => take_ok B w p s a k hR (by omega) (by omega) hle, fun w A c hc hm hi => rtake_ok w A _ c _ a k hi (bit01_bitsB _) hc hm (by omega) hle, .inl ⟨rfl, rfl⟩, hle, by omega⟩
    · exact ⟨0, 10, 0, fun B w p hR => take_short B w p s a k hR (by omega) (by omega) ha (by omega), fun w A c _ _ _ => rtake_short w A _ c a k (by omega) ha (by omega) (by omega), .inr ⟨by omega, rfl⟩, ha, by omega⟩

end Go.Proofs.Ytelgmihemnidkaa
