/- A writer and a reader as memory holds them. No conditions. -/
import Derived.Test.YticigahhdhindaaS
namespace Go.Proofs.Yticigahhdhindaa
open Go.RowKit

/-- At block p lies a writer that was made, with the bits L; its bytes lie in the slice v, from block B on. -/
structure IsW (B : Nat) (w : World) (p : Nat) (v : Value) (L : List Nat) : Prop where
  lo : B ≤ p
  blk : Blk w p 62 #[.bool true, v, .int .i64 L.length]
  row : w.ownsRow B 5 1 v (pack L).length ((pack L).map bv)
  bit : Bit01 L

/-- At block p lies a reader of s that was made, at bit number n. -/
structure IsR (B : Nat) (w : World) (p : Nat) (s : ByteArray) (n : Nat) : Prop where
  lo : B ≤ p
  blk : Blk w p 66 #[.bool true, .string s, .int .i64 n]

theorem IsW.step {B B' : Nat} {ps : List Nat} {ts : List TypeId} {w w' : World} {p : Nat} {v : Value} {L : List Nat} (h : IsW B w p v L) (hs : Step B' ps ts w w') (hp : p ∉ ps) (hv : ∀ k, v.ownBlock = some k → k ∉ ps) (ht : (62 : TypeId) ∉ ts) (ht' : (5 : TypeId) ∉ ts) : IsW B w' p v L :=
  ⟨h.lo, hs.blk h.blk hp ht, hs.row h.row hv ht', h.bit⟩
theorem IsR.step {B B' : Nat} {ps : List Nat} {ts : List TypeId} {w w' : World} {p : Nat} {s : ByteArray} {n : Nat} (h : IsR B w p s n) (hs : Step B' ps ts w w') (hp : p ∉ ps) (ht : (66 : TypeId) ∉ ts) : IsR B w' p s n :=
  ⟨h.lo, hs.blk h.blk hp ht⟩

set_option maxRecDepth 100000 in
theorem isW_new (w : World) (B : Nat) (hB : B ≤ w.heap.size) : IsW B (w.alloc (.cells #[.bool true, .slice none 0 0, .int .i64 0] 62)) w.heap.size (.slice none 0 0) [] :=
  ⟨hB, blk_new w 62 _, World.ownsRow_nil _ _ _ _, fun _ h => by simp at h⟩
theorem isR_new (w : World) (B : Nat) (hB : B ≤ w.heap.size) (s : ByteArray) (n : Nat) : IsR B (w.alloc (.cells #[.bool true, .string s, .int .i64 n] 66)) w.heap.size s n :=
  ⟨hB, blk_new w 66 _⟩
set_option maxRecDepth 100000 in
theorem IsW.alloc {B : Nat} {w : World} {p : Nat} {v : Value} {L : List Nat} (h : IsW B w p v L) (o : Obj) : IsW B (w.alloc o) p v L :=
  h.step ((Step.refl w.heap.size [] [] w).alloc (Nat.le_refl _) o) (by simp) (by simp) (by simp) (by simp)
set_option maxRecDepth 100000 in
theorem IsR.alloc {B : Nat} {w : World} {p : Nat} {s : ByteArray} {n : Nat} (h : IsR B w p s n) (o : Obj) : IsR B (w.alloc o) p s n :=
  h.step ((Step.refl w.heap.size [] [] w).alloc (Nat.le_refl _) o) (by simp) (by simp)
/-- A writer and a reader lie apart. -/
theorem wr_ne {B B' : Nat} {w : World} {p q : Nat} {v : Value} {L : List Nat} {s : ByteArray} {n : Nat} (h : IsW B w p v L) (k : IsR B' w q s n) : p ≠ q := by
  rintro rfl
  have h1 := h.blk
  have h2 := k.blk
  unfold Blk at h1 h2
  rw [h1] at h2
  injection h2 with h2
  injection h2 with _ h3
  exact absurd h3 (by decide)
set_option maxRecDepth 100000 in
/-- What a reader's call turns is none of a writer's. -/
theorem IsW.take {B B' : Nat} {w w' : World} {p q : Nat} {v : Value} {L : List Nat} {s : ByteArray} {n : Nat} (h : IsW B w p v L) (k : IsR B' w q s n) {C : Nat} (hs : Step C [q] [] w w') : IsW B w' p v L :=
  h.step hs (by simpa using wr_ne h k) (fun i hi => by simpa using row_ne h.row k.blk (by decide) i hi) (by simp) (by simp)
set_option maxRecDepth 100000 in
/-- What a writer's call turns is none of a reader's. -/
theorem IsR.put {B B' : Nat} {w w' : World} {p q : Nat} {v : Value} {L : List Nat} {s : ByteArray} {n : Nat} (k : IsR B w q s n) (h : IsW B' w p v L) {C : Nat} (hs : Step C [p] [5] w w') : IsR B w' q s n :=
  k.step hs (by simpa using (wr_ne h k).symm) (by decide)

end Go.Proofs.Yticigahhdhindaa
