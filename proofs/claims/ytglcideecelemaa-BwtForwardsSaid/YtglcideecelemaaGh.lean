/- The reference of rotate, walked: Order: lists of one each, merged two by two. Conditions: at most a million bytes. -/
import Derived.Test.YtglcideecelemaaGg
namespace Go.Proofs.Ytglcideecelemaa
open Go.RowKit

theorem infoSl : (Try.prog.info? 34).map (fun i => (i.zero, i.size, i.bytes)) = some (some (.slice none 0 0), 1, 24) := by kernel_rfl

theorem passL_append (s : List UInt8) (R : List (List Nat)) : ∀ (j : Nat) (P : List (List Nat)), P.length = 2 * j → passL s (P ++ R) = passL s P ++ passL s R
  | 0, P, h => by
    have : P = [] := List.eq_nil_of_length_eq_zero (by omega)
    subst this
    rfl
  | j + 1, P, h => by
    match P, h with
    | [], h => simp at h
    | [a], h => simp at h; omega
    | a :: b :: r, h =>
      simp only [List.length_cons] at h
      have := passL_append s R j r (by omega)
      show mergeL s a b :: passL s (r ++ R) = _
      rw [this]
      rfl

/-- Slices of numbers in a row, each of the call's own. -/
def Lists (w : World) (B : Nat) (xs : List Value) (Ls : List (List Nat)) : Prop :=
  xs.length = Ls.length ∧ ∀ (k : Nat) (L : List Nat), Ls[k]? = some L → ∃ A c, xs[k]? = some (.slice A L.length c) ∧ w.ownsRow B 3 1 (.slice A L.length c) L.length (L.map iv)
theorem own_low {w : World} {B B' : Nat} {e : TypeId} {size n : Nat} {v : Value} {xs : List Value} (h : w.ownsRow B e size v n xs) (hb : B' ≤ B) : w.ownsRow B' e size v n xs := by
  refine ⟨h.1, ?_⟩
  rcases h.2 with h1 | ⟨g, cap, cur, hv, hg, rest⟩
  · exact .inl h1
  · exact .inr ⟨g, cap, cur, hv, Nat.le_trans hb hg, rest⟩
theorem Lists.step {w w' : World} {B B' : Nat} {xs : List Value} {Ls : List (List Nat)} {ts : List TypeId} (h : Lists w B xs Ls) (hs : Step B' [] ts w w') (ht : 3 ∉ ts) : Lists w' B xs Ls :=
  ⟨h.1, fun k L hk => by
    obtain ⟨A, c, h1, h2⟩ := h.2 k L hk
    exact ⟨A, c, h1, hs.row h2 (fun _ _ => List.not_mem_nil) ht⟩⟩
theorem lists_nil (w : World) (B : Nat) : Lists w B [] [] := ⟨rfl, fun k L h => by simp at h⟩
theorem Lists.snoc {w : World} {B : Nat} {xs : List Value} {Ls : List (List Nat)} (h : Lists w B xs Ls) {A : Option Addr} {c : Nat} {L : List Nat} (hL : w.ownsRow B 3 1 (.slice A L.length c) L.length (L.map iv)) : Lists w B (xs ++ [.slice A L.length c]) (Ls ++ [L]) := by
  refine ⟨by rw [List.length_append, List.length_append, h.1]; rfl, fun k M hk => ?_⟩
  by_cases hlt : k < Ls.length
  · rw [List.getElem?_append_left hlt] at hk
    rw [List.getElem?_append_left (by rw [h.1]; exact hlt)]
    exact h.2 k M hk
  · rw [List.getElem?_append_right (by omega)] at hk
    have hk0 : k - Ls.length = 0 := by
      have := (List.getElem?_eq_some_iff.1 hk).1
      simp at this
      omega
    rw [hk0] at hk
    simp at hk
    subst hk
    rw [List.getElem?_append_right (by rw [h.1]; omega), h.1, hk0]
    exact ⟨A, c, rfl, hL⟩
theorem own_one (w : World) (B x : Nat) (hB : B ≤ w.heap.size) : (w.alloc (.cells #[.int .i64 x] 3)).ownsRow B 3 1 (.slice (some ⟨w.heap.size, 0, none⟩) [x].length 1) [x].length ([x].map iv) :=
  ⟨rfl, .inr ⟨w.heap.size, 1, #[.int .i64 x], rfl, hB, heap_alloc_new w _, Nat.le_refl _, by unfold maxLen; omega, rfl, rfl⟩⟩
theorem own_nums {w : World} {B n c : Nat} {A : Option Addr} {L : List Nat} (h : w.ownsRow B 3 1 (.slice A n c) n (L.map iv)) : Nums w A n c L := by
  obtain ⟨A', c', hv, h1, h2, _⟩ := own_slice h
  simp only [Value.slice.injEq] at hv
  obtain ⟨rfl, _, rfl⟩ := hv
  exact ⟨ints_of_own h, h1, h2⟩
theorem flat_two {P R : List (List Nat)} {a b : List Nat} {n : Nat} (h : (P ++ a :: b :: R).flatten.Perm (List.range n)) : (∀ x ∈ a, x < n) ∧ (∀ x ∈ b, x < n) ∧ a.length + b.length ≤ n := by
  refine ⟨fun x hx => ?_, fun x hx => ?_, ?_⟩
  · refine List.mem_range.1 (h.mem_iff.1 (List.mem_flatten.2 ⟨a, ?_, hx⟩))
    simp
  · refine List.mem_range.1 (h.mem_iff.1 (List.mem_flatten.2 ⟨b, ?_, hx⟩))
    simp
  · have := h.length_eq
    rw [List.length_range] at this
    simp only [List.flatten_append, List.flatten_cons, List.length_append] at this
    omega
theorem cell_one (w : World) (v : Value) (t : TypeId) : ∀ (j : Nat) (u : Value), [v][j]? = some u → (w.alloc (.cells #[v] t)).cell? ((⟨w.heap.size, 0, none⟩ : Addr).add j) = some u := by
  intro j u hu
  have hj : j = 0 := by
    have := (List.getElem?_eq_some_iff.1 hu).1
    simp at this
    exact this
  subst hj
  simp at hu
  subst hu
  rw [Addr.add_lit, blk_cell (blk_new w t _)]
  rfl

theorem cell_two (w : World) (o : Obj) (v : Value) (t : TypeId) : ∀ (j : Nat) (u : Value), [v][j]? = some u → ((w.alloc o).alloc (.cells #[v] t)).cell? ((⟨w.heap.size + 1, 0, none⟩ : Addr).add j) = some u := by
  have h := cell_one (w.alloc o) v t
  have e : (w.alloc o).heap.size = w.heap.size + 1 := by simp
  rwa [e] at h

/-- The numbers in order, in a slice of the call's own. -/
def ROrdPost (w : World) (s : List UInt8) (e : Ending) (w' : World) : Prop := ∃ A c L, e = .returned (.slice A L.length c) ∧ w'.ownsRow w.heap.size 3 1 (.slice A L.length c) L.length (L.map iv) ∧ IsOrd s L ∧ Below w.heap.size w w'

/-- The lists as they are between two rounds. -/
structure RRound (w wr : World) (s : List UInt8) (v : Value) (xs : List Value) (Ls : List (List Nat)) : Prop where
  row : wr.ownsRow w.heap.size 34 1 v Ls.length xs
  lists : Lists wr w.heap.size xs Ls
  parts : Parts s Ls
  perm : Ls.flatten.Perm (List.range s.length)
  below : Below w.heap.size w wr
/-- The lists as they are merged: the first P of them are. -/
structure RInner (w wr : World) (B : Nat) (s : List UInt8) (v : Value) (ys : List Value) (P : List (List Nat)) : Prop where
  row : wr.ownsRow B 34 1 v (passL s P).length ys
  lists : Lists wr w.heap.size ys (passL s P)

end Go.Proofs.Ytglcideecelemaa
