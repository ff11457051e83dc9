/- The reference of paths: Parts, Under. Conditions: for Parts texts of at most a million bytes. Written ahead of stage 14. -/
import Derived.Test.YtiihkjloenlfmaaDoorPta
import Derived.Lib.AppendZeros
namespace Go.Proofs.YtiihkjloenlfmaaDoor
open Go.RowKit

/-- A list of texts that is read. -/
def SLn (w : World) (A : Option Addr) (n : Nat) (L : List (List UInt8)) : Prop := L.length = n ∧ (0 < n → ∃ b off, A = some ⟨b, off, none⟩ ∧ ∀ i, i < n → w.cell? ⟨b, off + i, none⟩ = some (sv (L.getD i [])))
theorem SLn.below {w w' : World} {A : Option Addr} {n : Nat} {L : List (List UInt8)} (h : SLn w A n L) (hb : Below w.heap.size w w') : SLn w' A n L := by
  refine ⟨h.1, fun hn => ?_⟩
  obtain ⟨b, off, rfl, hc⟩ := h.2 hn
  exact ⟨b, off, rfl, fun i hi => (hb.cell (p := ⟨b, off + i, none⟩) (World.block_lt_of_cell? w _ (hc i hi))).trans (hc i hi)⟩
set_option maxRecDepth 100000 in
theorem sln_of_own {w : World} {B n c g : Nat} {L : List (List UInt8)} (h : w.ownsRow B 9 1 (.slice (some ⟨g, 0, none⟩) n c) n (L.map sv)) : SLn w (some ⟨g, 0, none⟩) n L := by
  have hl : L.length = n := by
    have := h.1
    simpa using this
  refine ⟨hl, fun _ => ⟨g, 0, rfl, fun i hi => ?_⟩⟩
  rw [Nat.zero_add, World.ownsRow.cellAt h i (by omega), List.getElem?_map, List.getD_eq_getElem?_getD, List.getElem?_eq_getElem (by omega)]
  rfl
/-- A list of texts is answered. -/
def TextsPost (w : World) (L : List (List UInt8)) (e : Ending) (w' : World) : Prop := ∃ A n c, e = .returned (.slice A n c) ∧ n ≤ c ∧ c ≤ maxLen ∧ SLn w' A n L ∧ Below w.heap.size w w'
set_option maxRecDepth 100000 in
theorem info_str : ∃ i, Tryd.prog.info? 9 = some i ∧ i.zero = some (.string ⟨#[]⟩) ∧ i.size = 1 ∧ i.bytes = 16 := by
  have h0 : (Tryd.prog.info? 9).map (·.zero) = some (some (.string ⟨#[]⟩)) := by kernel_rfl
  have h1 : (Tryd.prog.info? 9).map (·.size) = some 1 := by kernel_rfl
  have h2 : (Tryd.prog.info? 9).map (·.bytes) = some 16 := by kernel_rfl
  cases hq : Tryd.prog.info? 9 with
  | none => simp [hq] at h1
  | some i => exact ⟨i, rfl, by simpa [hq] using h0, by simpa [hq] using h1, by simpa [hq] using h2⟩
set_option maxRecDepth 100000 in
theorem cell_alone (w : World) (v : Value) (t : TypeId) : ∀ (j : Nat) (u : Value), [v][j]? = some u → (w.alloc (.cells #[v] t)).cell? ((⟨w.heap.size, 0, none⟩ : Addr).add j) = some u := by
  intro j u hu
  have hj : j = 0 := by
    have := (List.getElem?_eq_some_iff.1 hu).1
    simp at this
    exact this
  subst hj
  have e : (⟨w.heap.size, 0, none⟩ : Addr).add 0 = ⟨w.heap.size, 0, none⟩ := by
    unfold Addr.add
    split <;> simp_all
  rw [e, World.cell?_alloc_new]
  simpa using hu
set_option maxRecDepth 100000 in
/-- A text behind a row of the call's own. -/
theorem text_one (w : World) (B g n c : Nat) (L : List (List UInt8)) (h : w.ownsRow B 9 1 (.slice (some ⟨g, 0, none⟩) n c) n (L.map sv)) (x : List UInt8) (hn : n ≤ 1000001) (hB : B ≤ w.heap.size) :
    ∃ g2 c2 w2, (Builtin.append_ #[68, 68] 68 #[.slice (some ⟨g, 0, none⟩) n c, .slice (some ⟨w.heap.size, 0, none⟩) 1 1]).run Tryd.prog (w.alloc (.cells #[.string (strP x)] 9)) = .ok (.slice (some ⟨g2, 0, none⟩) (n + 1) c2) w2 ∧
      w2.ownsRow B 9 1 (.slice (some ⟨g2, 0, none⟩) (n + 1) c2) (n + 1) ((L ++ [x]).map sv) ∧ Below B w w2 := by
  obtain ⟨i3, h3, hz0, hz1, hz2⟩ := info_str
  obtain ⟨v2, w2, hr, ho, hg, _, hat⟩ := run_append_own_at (P := Tryd.prog) (w.alloc (.cells #[.string (strP x)] 9)) B 68 68 9 i3 (.string ⟨#[]⟩) 1 16 Tryd.underlying68 h3 hz0 hz1 hz2 rfl (by decide) _ _ _ (h.alloc _) ⟨w.heap.size, 0, none⟩ 1 1 [sv x] rfl (cell_alone w (sv x) 9)
    (fun u hu => by rw [List.mem_singleton.1 hu]; rfl) (by unfold maxLen; omega) (by omega) (by simp; omega)
  obtain ⟨A, c2, rfl, hc, hm, hA⟩ := own_slice ho
  obtain ⟨g2, rfl⟩ := hA (by omega)
  refine ⟨g2, c2, w2, hr, by rw [List.map_append]; exact ho, ?_⟩
  refine ((Below.refl B w).alloc hB _).grown hg (by simp; omega) fun k hk => ?_
  have hlt := World.ownsRow.lt h g rfl
  have : g = k := by simpa [Value.ownBlock] using hk
  omega
theorem set_last (D : List (List UInt8)) (x y : List UInt8) : ((D ++ [x]).map sv).set D.length (sv y) = (D ++ [y]).map sv := by
  rw [List.map_append, List.map_append, List.set_append_right _ _ (by rw [List.length_map]; exact Nat.le_refl _), List.length_map, Nat.sub_self]
  rfl
theorem byte_ext (t : ByteArray) (i : Nat) (h : i < t.size) : t.extract i (i + 1) = strP [t.data.toList.getD i 0] := by
  apply ByteArray.ext
  apply Array.toList_inj.1
  rw [ext_list]
  show _ = [t.data.toList.getD i 0]
  have hl : i < t.data.toList.length := h
  rw [List.drop_take, show i + 1 - i = 1 by omega, List.drop_eq_getElem_cons hl, List.getD_eq_getElem?_getD, List.getElem?_eq_getElem hl]
  rfl
theorem byte_at (t : ByteArray) (i : Nat) (h : i < t.size) : t.data.toList.getD i 0 = t[i] := by
  rw [List.getD_eq_getElem?_getD, List.getElem?_eq_getElem (by show i < t.size; exact h)]
  rfl
theorem drop_next (l : List UInt8) (i : Nat) (h : i < l.length) : l.drop i = l.getD i 0 :: l.drop (i + 1) := by
  rw [List.drop_eq_getElem_cons h, List.getD_eq_getElem?_getD, List.getElem?_eq_getElem h]
  rfl

end Go.Proofs.YtiihkjloenlfmaaDoor
