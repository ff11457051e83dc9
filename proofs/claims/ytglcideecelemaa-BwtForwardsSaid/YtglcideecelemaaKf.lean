/- A slice of ints is cloned. Conditions: at least one number, at most a million. -/
import Derived.Test.YtglcideecelemaaKe
import Derived.Lib.SliceRun
namespace Go.Proofs.Ytglcideecelemaa
open Go.RowKit

/-- What a clone is. -/
def ClonePost (w : World) (n : Nat) (L : List Nat) (e : Ending) (w' : World) : Prop :=
  ∃ g c, e = .returned (.slice (some ⟨g, 0, none⟩) n c) ∧ n ≤ c ∧ IRow w' g L ∧ w.heap.size ≤ g ∧ Below w.heap.size w w'

set_option maxHeartbeats 1600000 in
set_option maxRecDepth 100000 in
theorem clone_any (w : World) (g n c : Nat) (L : List Nat) (h : IRow w g L) (hl : L.length = n) (h0 : 0 < n) (hn : n ≤ 1000000) :
    Calls Try.prog 27 #[.slice (some ⟨g, 0, none⟩) n c] w (ClonePost w n L) := by
  obtain ⟨i3, h3, hz0, hz1, hz2⟩ := info_parts Try.info3
  have q30 : ∀ w1 : World, (binOp .eql 34 (.slice (some ⟨g, 0, none⟩) n c) (.slice none 0 0)).run Try.prog w1 = .ok (.bool false) w1 := fun w1 => Lib.run_eql_slice_nil w1 _ _ (some ⟨g, 0, none⟩) n c 0 0 Try.underlying34
  have HH := Lib.hid h
  clear h
  go_enter Try.func27, Try.ntmps27
  go_wp2_with (at_builtin; refine wpList_append_own_at _ rfl _ _ 34 rfl w.heap.size 3 i3 (.int .i64 0) 1 8 Try.underlying34 h3 hz0 hz1 hz2 rfl (by decide) _ 0 [] rfl (World.ownsRow_made w #[] 0 (Nat.le_refl _) (by unfold maxLen; omega) (by simp)) ⟨g, 0, none⟩ n c (L.map iv) rfl ?c0 ?c1 ?c2 ?c3 ?c4 ?c5 ?_)
  case c0 => simp [hl]
  case c1 =>
    intro j u hj
    have hjl : j < L.length := by
      have := (List.getElem?_eq_some_iff.1 hj).1
      simpa using this
    rw [Addr.add_lit, Nat.zero_add]
    have h1 := (((Step.refl w.heap.size [] [] w).alloc (Nat.le_refl _) (.cells #[] 3)).irow HH.out (by simp) (by simp)).cell hjl
    rw [h1, ← hj, List.getElem?_map, List.getElem?_eq_getElem hjl, List.getD_eq_getElem?_getD, List.getElem?_eq_getElem hjl]
    rfl
  case c2 => intro u hu; obtain ⟨q, _, rfl⟩ := List.mem_map.1 hu; rfl
  case c3 => unfold maxLen; omega
  case c4 => omega
  case c5 => simp
  intro v' w' hown hgrow _ hat
  have hbl : Below w.heap.size w w' := ((Below.refl _ _).alloc (Nat.le_refl _) _).grown hgrow (by simp) (fun k hk => by simp [Value.ownBlock] at hk; omega)
  obtain ⟨g2, c2, rfl, hc2, hB, hr, _⟩ := irow_of_own hown h0
  have HR := Lib.hid hr
  have HB := Lib.hid hbl
  clear hown hgrow hat hr hbl
  go_wp2_with fail
  go_ret
  exact ⟨g2, c2, rfl, hc2, HR.out, hB, HB.out⟩

end Go.Proofs.Ytglcideecelemaa
