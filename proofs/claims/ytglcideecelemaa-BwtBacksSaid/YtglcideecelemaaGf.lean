/- Two lists of rotations in order, merged: plain. -/
import Derived.Test.YtglcideecelemaaGe
namespace Go.Proofs.Ytglcideecelemaa

def mergeL (s : List UInt8) : List Nat → List Nat → List Nat
  | [], b => b
  | x :: a, [] => x :: a
  | x :: a, y :: b => if RLt s x y then x :: mergeL s a (y :: b) else y :: mergeL s (x :: a) b
termination_by a b => a.length + b.length
theorem mergeL_none (s : List UInt8) (a : List Nat) : mergeL s a [] = a := by
  cases a <;> simp [mergeL]
theorem mergeL_nil (s : List UInt8) (b : List Nat) : mergeL s [] b = b := by simp [mergeL]
theorem mergeL_cons (s : List UInt8) (x y : Nat) (a b : List Nat) : mergeL s (x :: a) (y :: b) = if RLt s x y then x :: mergeL s a (y :: b) else y :: mergeL s (x :: a) b := by
  rw [mergeL]
theorem mergeL_perm (s : List UInt8) (n : Nat) : ∀ a b : List Nat, a.length + b.length ≤ n → (mergeL s a b).Perm (a ++ b) := by
  induction n with
  | zero =>
    intro a b h
    have h1 : a = [] := List.eq_nil_of_length_eq_zero (by omega)
    have h2 : b = [] := List.eq_nil_of_length_eq_zero (by omega)
    subst h1 h2
    rw [mergeL_nil]
    exact List.Perm.refl _
  | succ n ih =>
    intro a b h
    cases a with
    | nil => rw [mergeL_nil]; exact List.Perm.refl _
    | cons x a =>
      cases b with
      | nil => rw [mergeL_none, List.append_nil]
      | cons y b =>
        simp only [List.length_cons] at h
        rw [mergeL_cons]
        split
        · exact List.Perm.cons x (ih a (y :: b) (by simp only [List.length_cons]; omega))
        · exact (List.Perm.cons y (ih (x :: a) b (by simp only [List.length_cons]; omega))).trans List.perm_middle.symm
theorem mergeL_mem (s : List UInt8) (a b : List Nat) (z : Nat) : z ∈ mergeL s a b ↔ z ∈ a ∨ z ∈ b := by
  rw [(mergeL_perm s _ a b (Nat.le_refl _)).mem_iff, List.mem_append]
theorem mergeL_sorted (s : List UInt8) (n : Nat) : ∀ a b : List Nat, a.length + b.length ≤ n → a.Pairwise (RLt s) → b.Pairwise (RLt s) → (∀ x ∈ a, x ∉ b) → (mergeL s a b).Pairwise (RLt s) := by
  induction n with
  | zero =>
    intro a b h _ _ _
    have h1 : a = [] := List.eq_nil_of_length_eq_zero (by omega)
    have h2 : b = [] := List.eq_nil_of_length_eq_zero (by omega)
    subst h1 h2
    rw [mergeL_nil]
    exact List.Pairwise.nil
  | succ n ih =>
    intro a b h ha hb hd
    cases a with
    | nil => rw [mergeL_nil]; exact hb
    | cons x a =>
      cases b with
      | nil => rw [mergeL_none]; exact ha
      | cons y b =>
        simp only [List.length_cons] at h
        have ha' := List.pairwise_cons.1 ha
        have hb' := List.pairwise_cons.1 hb
        have hne : x ≠ y := fun e => hd x List.mem_cons_self (e ▸ List.mem_cons_self)
        rw [mergeL_cons]
        split
        · rename_i hlt
          refine List.pairwise_cons.2 ⟨fun z hz => ?_, ih a (y :: b) (by simp only [List.length_cons]; omega) ha'.2 hb (fun z hz => hd z (List.mem_cons_of_mem _ hz))⟩
          rcases (mergeL_mem s a (y :: b) z).1 hz with h1 | h1
          · exact ha'.1 z h1
          · rcases List.mem_cons.1 h1 with rfl | h2
            · exact hlt
            · exact hlt.trans (hb'.1 z h2)
        · rename_i hnl
          have hlt : RLt s y x := by
            rcases RLt.total s x y hne with h1 | h1
            · exact absurd h1 hnl
            · exact h1
          refine List.pairwise_cons.2 ⟨fun z hz => ?_, ih (x :: a) b (by simp only [List.length_cons]; omega) ha hb'.2 (fun z hz hzb => hd z hz (List.mem_cons_of_mem _ hzb))⟩
          rcases (mergeL_mem s (x :: a) b z).1 hz with h1 | h1
          · rcases List.mem_cons.1 h1 with rfl | h2
            · exact hlt
            · exact hlt.trans (ha'.1 z h2)
          · exact hb'.1 z h1

/-- Lists in order that have no number twice among them. -/
def Parts (s : List UInt8) (Ls : List (List Nat)) : Prop := (∀ L ∈ Ls, L.Pairwise (RLt s)) ∧ Ls.flatten.Nodup
/-- They are merged two by two. -/
def passL (s : List UInt8) : List (List Nat) → List (List Nat)
  | [] => []
  | [a] => [a]
  | a :: b :: r => mergeL s a b :: passL s r
theorem passL_two (s : List UInt8) (a b : List Nat) (r : List (List Nat)) : passL s (a :: b :: r) = mergeL s a b :: passL s r := rfl
theorem passL_perm (s : List UInt8) : ∀ Ls : List (List Nat), (passL s Ls).flatten.Perm Ls.flatten
  | [] => List.Perm.refl _
  | [a] => List.Perm.refl _
  | a :: b :: r => by
    rw [passL_two, List.flatten_cons, List.flatten_cons, List.flatten_cons, ← List.append_assoc]
    exact (mergeL_perm s _ a b (Nat.le_refl _)).append (passL_perm s r)
theorem passL_sorted (s : List UInt8) : ∀ Ls : List (List Nat), Parts s Ls → ∀ L ∈ passL s Ls, L.Pairwise (RLt s)
  | [], _ => fun L h => absurd h List.not_mem_nil
  | [a], h => h.1
  | a :: b :: r, h => by
    intro L hL
    have hn := h.2
    rw [List.flatten_cons, List.flatten_cons, ← List.append_assoc] at hn
    have hn1 := List.nodup_append.1 hn
    have hn2 := List.nodup_append.1 hn1.1
    rcases List.mem_cons.1 hL with rfl | hr
    · exact mergeL_sorted s _ a b (Nat.le_refl _) (h.1 a List.mem_cons_self) (h.1 b (List.mem_cons_of_mem _ List.mem_cons_self)) (fun x hx hxb => hn2.2.2 x hx x hxb rfl)
    · exact passL_sorted s r ⟨fun M hM => h.1 M (List.mem_cons_of_mem _ (List.mem_cons_of_mem _ hM)), hn1.2.1⟩ L hr
theorem passL_parts (s : List UInt8) (Ls : List (List Nat)) (h : Parts s Ls) : Parts s (passL s Ls) := ⟨passL_sorted s Ls h, (passL_perm s Ls).nodup_iff.2 h.2⟩
theorem passL_length (s : List UInt8) : ∀ Ls : List (List Nat), (passL s Ls).length = (Ls.length + 1) / 2
  | [] => rfl
  | [a] => by show 1 = (1 + 1) / 2; omega
  | a :: b :: r => by
    rw [passL_two, List.length_cons, passL_length s r, List.length_cons, List.length_cons]
    omega
/-- When one list is left, it is the order. -/
theorem parts_ord (s : List UInt8) (L : List Nat) (h : Parts s [L]) (hp : ([L] : List (List Nat)).flatten.Perm (List.range s.length)) : IsOrd s L := by
  refine sorted_perm (h.1 L List.mem_cons_self) ?_
  simpa using hp
theorem parts_ones (s : List UInt8) (n : Nat) : Parts s ((List.range n).map fun i => [i]) := by
  refine ⟨fun L hL => ?_, ?_⟩
  · obtain ⟨i, _, rfl⟩ := List.mem_map.1 hL
    exact List.pairwise_singleton _ _
  · rw [ones_flat]
    exact List.nodup_range
where
  ones_flat {n : Nat} : ((List.range n).map fun i => [i]).flatten = List.range n := by
    rw [← List.flatMap_def]
    simp

end Go.Proofs.Ytglcideecelemaa
