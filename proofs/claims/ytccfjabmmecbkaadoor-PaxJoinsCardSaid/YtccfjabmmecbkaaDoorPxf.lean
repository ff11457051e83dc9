/- Pax: pairs behind pairs in memory (append). Written ahead of stage 17. -/
import Derived.Test.YtccfjabmmecbkaaDoorPxc
import Derived.Deep.AppendLies
import Derived.Laws.OwnMore
namespace Go.Proofs.YtccfjabmmecbkaaDoor
open Go.RowKit

def cellsB (L : List PairB) : List Value := L.flatMap fun p => [.string p.1, .string p.2]
theorem cellsB_cons (p : PairB) (L : List PairB) : cellsB (p :: L) = .string p.1 :: .string p.2 :: cellsB L := rfl
theorem cellsB_append (L M : List PairB) : cellsB (L ++ M) = cellsB L ++ cellsB M := by
  unfold cellsB
  rw [List.flatMap_append]
theorem cellsB_length : ∀ L : List PairB, (cellsB L).length = L.length * 2
  | [] => rfl
  | p :: L => by
    rw [cellsB_cons, List.length_cons, List.length_cons, List.length_cons, cellsB_length L]
    omega
set_option maxRecDepth 100000 in
theorem cellsB_get : ∀ (L : List PairB) (j : Nat), j < L.length → (cellsB L)[j * 2]? = some (.string (L.getD j noB).1) ∧ (cellsB L)[j * 2 + 1]? = some (.string (L.getD j noB).2)
  | [], j, h => by cases h
  | p :: L, 0, _ => ⟨rfl, rfl⟩
  | p :: L, j + 1, h => by
    have := cellsB_get L j (by simpa using h)
    rw [show (j + 1) * 2 = j * 2 + 1 + 1 by omega]
    exact this
theorem pin_of_own {w : World} {B n c g : Nat} {L : List PairB} (h : w.ownsRow B 36 2 (.slice (some ⟨g, 0, none⟩) n c) n (cellsB L)) : PIn w (some ⟨g, 0, none⟩) n L := by
  have hl : L.length = n := by
    have := h.1
    rw [cellsB_length] at this
    omega
  refine ⟨hl, fun _ => ⟨g, 0, rfl, fun i hi => ?_⟩⟩
  obtain ⟨h1, h2⟩ := cellsB_get L i (by omega)
  rw [Nat.zero_add]
  exact ⟨by rw [World.ownsRow.cellAt h (i * 2) (by omega), h1], by rw [World.ownsRow.cellAt h (i * 2 + 1) (by omega), h2]⟩
set_option maxRecDepth 100000 in
theorem cellsB_one (L : List PairB) : ∀ u, u ∈ cellsB L → u.oneCell' = true := by
  intro u hu
  unfold cellsB at hu
  rw [List.mem_flatMap] at hu
  obtain ⟨p, _, hp⟩ := hu
  rcases List.mem_cons.1 hp with h | h
  · rw [h]; rfl
  · rw [List.mem_singleton.1 h]; rfl
set_option maxRecDepth 100000 in
theorem info_pair : ∃ i, Tryd.prog.info? 36 = some i ∧ i.zero = some (.agg #[.string ⟨#[]⟩, .string ⟨#[]⟩]) ∧ i.size = 2 ∧ i.bytes = 32 := by
  have h0 : (Tryd.prog.info? 36).map (·.zero) = some (some (.agg #[.string ⟨#[]⟩, .string ⟨#[]⟩])) := by kernel_rfl
  have h1 : (Tryd.prog.info? 36).map (·.size) = some 2 := by kernel_rfl
  have h2 : (Tryd.prog.info? 36).map (·.bytes) = some 32 := by kernel_rfl
  cases hq : Tryd.prog.info? 36 with
  | none => simp [hq] at h1
  | some i => exact ⟨i, rfl, by simpa [hq] using h0, by simpa [hq] using h1, by simpa [hq] using h2⟩
set_option maxRecDepth 100000 in
theorem append_pairs (w : World) (B : Nat) (v : Value) (n : Nat) (xs : List Value) (hown : w.ownsRow B 36 2 v n xs) (A : Option Addr) (k c : Nat) (L : List PairB) (hi : PIn w A k L) (hnk : n + k ≤ 1000000) (hB : B ≤ w.heap.size) :
    ∃ v' w', (Builtin.append_ #[22, 22] 22 #[v, .slice A k c]).run Tryd.prog w = .ok v' w' ∧ w'.ownsRow B 36 2 v' (n + k) (xs ++ cellsB L) ∧ w.grownBy w' v.ownBlock := by
  obtain ⟨i3, h3, hz0, hz1, hz2⟩ := info_pair
  have hl := hi.1
  rcases A with _ | ad
  · have hk : k = 0 := by
      rcases Nat.eq_zero_or_pos k with h0 | h0
      · exact h0
      · obtain ⟨b, off, h, _⟩ := hi.2 h0
        cases h
    subst hk
    have hL : L = [] := List.eq_nil_of_length_eq_zero hl
    subst hL
    refine ⟨v, w, ?_, by simpa [cellsB] using hown, ⟨rfl, rfl, rfl, Nat.le_refl _, fun _ _ _ => rfl⟩⟩
    rcases hown.2 with ⟨rfl, rfl⟩ | ⟨g, cap, cur, rfl, _, _, hnc, _⟩
    · simp [Builtin.append_, run_underlying Tryd.underlying22, sizeOf, typeInfo, h3, Builtin.lenOf, Builtin.firstCells]
    · simp [Builtin.append_, run_underlying Tryd.underlying22, sizeOf, typeInfo, h3, Builtin.lenOf, Builtin.firstCells, hnc, storeCells]
  · have hnews : ∀ j u, (cellsB L)[j]? = some u → w.cell? (ad.add j) = some u := by
      intro j u hu
      have hj : j < L.length * 2 := by
        have := (List.getElem?_eq_some_iff.1 hu).1
        rw [cellsB_length] at this
        exact this
      obtain ⟨b, off, he, hc⟩ := hi.2 (by omega)
      injection he with he
      subst he
      rw [Addr.add_lit]
      obtain ⟨h1, h2⟩ := hc (j / 2) (by omega)
      obtain ⟨g1, g2⟩ := cellsB_get L (j / 2) (by omega)
      rcases (show j = j / 2 * 2 ∨ j = j / 2 * 2 + 1 by omega) with hj2 | hj2
      · rw [hj2] at hu ⊢
        rw [g1] at hu
        rw [h1, hu]
      · rw [hj2] at hu ⊢
        rw [g2] at hu
        rw [← Nat.add_assoc, h2, hu]
    obtain ⟨v', w', h1, h2, h4, _⟩ := run_append_own (P := Tryd.prog) w B 22 22 36 i3 (.agg #[.string ⟨#[]⟩, .string ⟨#[]⟩]) 2 32 Tryd.underlying22 h3 hz0 hz1 hz2 rfl (by decide) v n xs hown ad k c (cellsB L) (by rw [cellsB_length, hl]) hnews
      (cellsB_one L) (by unfold maxLen; omega) (by omega) hB
    exact ⟨v', w', h1, h2, h4⟩
theorem flat_long : ∀ l : List PairL, l.length ≤ (flatP l).length
  | [] => Nat.le_refl _
  | p :: l => by
    have := flat_long l
    have h : 0 < (recL p).length := List.length_pos_iff.2 (recL_ne p)
    rw [flatP, List.length_append, List.length_cons]
    omega
end Go.Proofs.YtccfjabmmecbkaaDoor
