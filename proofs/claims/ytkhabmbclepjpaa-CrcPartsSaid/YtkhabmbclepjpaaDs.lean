/- The law CrcParts, for every list of texts. No conditions. -/
import Derived.Test.YtkhabmbclepjpaaDp
namespace Go.Proofs.Ytkhabmbclepjpaa.CrcParts
open Go.ChangeShapes Go.WideShapes Go.ChangeAt Go.RowKit

theorem addr_of_cell {w : World} {a : Addr} {v : Value} (h : w.cell? a = some v) : a = ⟨a.block, a.off, none⟩ := by
  unfold World.cell? at h
  split at h
  · split at h
    · cases h
    · rename_i hs
      cases a with
      | mk b o s =>
        cases s with
        | none => rfl
        | some s => simp at hs
  · cases h

theorem mem_weightsAll {H : Type} {e : TypeId} {x : Nat} {d : DataW H} : ∀ {l : List (DataW H)}, d ∈ l → x ∈ d.weights Try.prog e → x ∈ DataW.weightsAll Try.prog e l
  | [], h, _ => by simp at h
  | y :: l, h, hx => by
    simp only [DataW.weightsAll, List.mem_append]
    rcases List.mem_cons.1 h with rfl | h
    · exact .inl hx
    · exact .inr (mem_weightsAll h hx)

/-- []string: so many texts, none of them greater than the reach. -/
theorem open_texts {H : Type} {enc : TypeId × Value → H} {W : World} {A : Option Addr} {n c : Nat} {d : DataW H} {ps : List MemPlace}
    (h : DataW.Trod enc Try.prog W 0 (fun _ => true) true 32 (.slice A n c) d ps) (hw : ∀ x ∈ d.weights Try.prog 32, x ≤ reachBytes) :
    ∃ T : Nat → ByteArray, TextsIn W W.heap.size A n T ∧ (∀ i, i < n → (T i).size ≤ 140737488355328) ∧ n ≤ 9223372036854775807 := by
  obtain ⟨fuel, h⟩ := h
  rcases open_strings Try.underlying32 Try.underlying9 (by kernel_rfl) h with ⟨hc, _⟩ | ⟨a, len, cap, ss, hcs, _, hl, hm, hz, hx, hcell, _⟩
  · simp [Value.cells] at hc
    obtain ⟨rfl, rfl, rfl⟩ := hc
    exact ⟨fun _ => ByteArray.empty, fun h => by omega, fun i h => by omega, by omega⟩
  · simp [Value.cells] at hcs
    obtain ⟨rfl, rfl, rfl⟩ := hcs
    simp only [if_true] at hz
    have hd : d = .slice (strs (ss.take n)) (strs (ss.drop n)) := congrArg Prod.fst hx
    refine ⟨fun i => ss.getD i ByteArray.empty, fun hn => ?_, fun i hi => ?_, by unfold maxLen at hm; omega⟩
    · have h0 := hcell 0 (by omega)
      rw [Addr.add_zero'] at h0
      have ha := addr_of_cell h0
      refine ⟨a.block, a.off, by rw [← ha], World.block_lt_of_cell? W a h0, fun i hi => ?_⟩
      have h1 := hcell i (by omega)
      rw [ha, Addr.add_lit] at h1
      exact h1
    · have hmem : (ss.getD i ByteArray.empty).data.toList.length ∈ d.weights Try.prog 32 := by
        rw [hd]
        simp only [DataW.weights, Try.underlying32, List.mem_cons, List.mem_append]
        refine .inr (.inl (mem_weightsAll (d := .lit (.string (ss.getD i ByteArray.empty).data.toList)) ?_ ?_))
        · refine List.mem_map.2 ⟨ss.getD i ByteArray.empty, ?_, rfl⟩
          rw [List.getD_eq_getElem?_getD, List.getElem?_eq_getElem (by omega)]
          exact List.mem_iff_getElem?.2 ⟨i, by rw [List.getElem?_take_of_lt hi, List.getElem?_eq_getElem (by omega)]; rfl⟩
        · simp [DataW.weights]
      have hb := hw _ hmem
      have hr := reachBytes_lt
      show (ss.getD i ByteArray.empty).data.toList.length ≤ _
      omega

set_option maxRecDepth 100000 in
theorem lifted (os : Os) (started : os.Started) (H : Type) (enc : TypeId × Value → H) :
    ReturnsInHanded {} Try.checked os 7 .any (Rows.crcPartsSpec.pre6 enc Try.prog Try.f7 Rows.crcPartsRow.domain false) (Rows.crcPartsSpec.post enc Try.prog Try.f7 false true false false) := by
  refine returnsInHanded_of_change_sized (C := Try.checked) own started (by kernel_rfl) Try.func7
    (ChangeSpec.witness6 (enc := enc) (C := Try.checked) false ⟨#[], #[.slice none 0 0], []⟩ 8 (by kernel_rfl) (by kernel_rfl) (by kernel_rfl) (by kernel_rfl)) ?_
  intro W base args ds gs before hval0 hW hcnd hsz0 _
  have hsz : (DataW.weightsEach Try.prog (Try.f7.params.toList ++ Rows.crcPartsSpec.plain.varTypes Try.prog) (ds ++ gs)).all (· ≤ reachBytes) = true := hsz0
  have hval : ∀ (j : Nat) t v, Try.f7.params[j]? = some t → args[j]? = some v → Value.okWide Try.prog W .any base t v := hval0
  have hW' := hW
  obtain ⟨p, q, hA0, hV, rfl, hfz, hnd⟩ := hW
  have hA : DataW.TrodAll enc Try.prog W 0 (fun _ => true) true Try.f7.params.toList args.toList ds p := hA0
  rw [Try.params7] at hA hval hsz
  obtain ⟨v0, vs0, d0, ds0, p0, q0, hargs, rfl, rfl, h0, r0⟩ := trodAll_cons hA
  obtain ⟨rfl, rfl, rfl⟩ := trodAll_nil r0
  obtain rfl : args = #[v0] := by cases args; simp_all
  obtain ⟨rfl, rfl⟩ := trodVars_none hV
  obtain ⟨A, n, c, rfl⟩ := okWide_slice Try.underlying32 (hval 0 32 v0 rfl rfl)
  have hw : ∀ x ∈ d0.weights Try.prog 32, x ≤ reachBytes := fun x hx => by
    have := List.all_eq_true.1 hsz x (DataW.weights_mem_each (j := 0) (t := 32) rfl rfl x hx)
    simpa using this
  obtain ⟨T, hi, hs, hn⟩ := open_texts h0 hw
  clear hA0 hval0
  have fin : ∀ e W', (e = Ending.returned (.bool true) ∧ Below W.heap.size W W') → ∃ v, e = Ending.returned v ∧ Rows.crcPartsSpec.post enc Try.prog Try.f7 false true false false W #[.slice A n c] v W' := by
    rintro e W' ⟨rfl, hb⟩
    exact ⟨_, rfl, law_done hW' rfl hb (by kernel_rfl) (by kernel_rfl) rfl⟩
  exact (parts_walk W A n c T hi hs hn).mono fin

theorem over : Rows.crcPartsRow.holds Try.pinned (OpenSpec.ofChange Rows.crcPartsSpec) :=
  OpenClaim.holds_of_wide 7 Try.f7 rfl rfl rfl rfl rfl rfl rfl ⟨rfl, rfl, rfl, rfl, rfl⟩ rfl rfl rfl rfl rfl (by kernel_rfl) Try.func7 (by kernel_rfl)
    (of_decide_eq_true (by kernel_rfl)) (by unfold Func.isWrapper; first | (rw [if_pos (by decide +kernel)]; kernel_rfl) | (rw [if_neg (by decide +kernel)]; exact ⟨rfl, rfl⟩))
    (fun os started H enc _ => lifted os started H enc)

end Go.Proofs.Ytkhabmbclepjpaa.CrcParts
namespace Go.Proofs.Ytkhabmbclepjpaa
/-- The given statement. -/
theorem crcParts_holds : Rows.CrcPartsSaid := CrcParts.over
#print axioms crcParts_holds
end Go.Proofs.Ytkhabmbclepjpaa
