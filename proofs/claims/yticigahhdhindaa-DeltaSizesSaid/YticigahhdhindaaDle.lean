/- The five statements of stage 10 (delta). DeltaShows, DeltaTakes, DeltaSizes, DeltaSteps: for every input. DeltaBack: for every input; no text takes more than the platform's reach. -/
import Derived.Test.YticigahhdhindaaTh
import Derived.Test.YticigahhdhindaaDld
namespace Go.Proofs.Yticigahhdhindaa.DeltaBack
open Go.ChangeShapes Go.WideShapes Go.ChangeAt Go.RowKit

set_option maxRecDepth 100000 in
theorem lifted (R : DeltaDone) (os : Os) (started : os.Started) (H : Type) (enc : TypeId × Value → H) :
    ReturnsInHanded {} Try.checked os 5 .any (Rows.deltaBackSpec.pre6 enc Try.prog Try.f5 Rows.deltaBackRow.domain false) (Rows.deltaBackSpec.post enc Try.prog Try.f5 false true false false) := by
  refine returnsInHanded_of_change_sized (C := Try.checked) own started (by kernel_rfl) Try.func5
    (ChangeSpec.witness6 (enc := enc) (C := Try.checked) false ⟨#[], #[.slice none 0 0, .string ⟨#[]⟩, .string ⟨#[]⟩], []⟩ 8 (by kernel_rfl) (by kernel_rfl) (by kernel_rfl) (by kernel_rfl)) ?_
  intro W base args ds gs before hval0 hW hcnd hsz0 _
  have hsz : (DataW.weightsEach Try.prog (Try.f5.params.toList ++ Rows.deltaBackSpec.plain.varTypes Try.prog) (ds ++ gs)).all (· ≤ reachBytes) = true := hsz0
  have hval : ∀ (j : Nat) t v, Try.f5.params[j]? = some t → args[j]? = some v → Value.okWide Try.prog W .any base t v := hval0
  have hW' := hW
  obtain ⟨p, q, hA0, hV, rfl, hfz, hnd⟩ := hW
  have hA : DataW.TrodAll enc Try.prog W 0 (fun _ => true) true Try.f5.params.toList args.toList ds p := hA0
  rw [Try.params5] at hA hval hsz
  obtain ⟨v0, vs0, d0, ds0, p0, q0, hargs, rfl, rfl, h0, r0⟩ := trodAll_cons hA
  obtain ⟨v1, vs1, d1, ds1, p1, q1, rfl, rfl, rfl, h1, r1⟩ := trodAll_cons r0
  obtain ⟨v2, vs2, d2, ds2, p2, q2, rfl, rfl, rfl, h2, r2⟩ := trodAll_cons r1
  obtain ⟨rfl, rfl, rfl⟩ := trodAll_nil r2
  obtain rfl : args = #[v0, v1, v2] := by cases args; simp_all
  obtain ⟨rfl, rfl⟩ := trodVars_none hV
  obtain ⟨A0, n0, c0, rfl⟩ := okWide_slice Try.underlying22 (hval 0 22 v0 rfl rfl)
  obtain ⟨L0, hz0, hnc0, hn0⟩ := open_zs h0
  obtain ⟨s1, rfl, rfl, rfl, ws1⟩ := Go.ChangeMaps.open_string Try.underlying9 (hval 1 9 v1 rfl rfl) h1
  obtain ⟨s2, rfl, rfl, rfl, ws2⟩ := Go.ChangeMaps.open_string Try.underlying9 (hval 2 9 v2 rfl rfl) h2
  have hr := reachBytes_lt
  have hs1 : s1.size ≤ 140737488355328 := by
    have h := List.all_eq_true.1 hsz s1.data.toList.length (DataW.weights_mem_each (j := 1) (t := 9) rfl rfl _ (by simp [DataW.weights]))
    have h9 : s1.data.toList.length ≤ reachBytes := by simpa using h
    have hl : s1.data.toList.length = s1.size := rfl
    omega
  have hs2 : s2.size ≤ 140737488355328 := by
    have h := List.all_eq_true.1 hsz s2.data.toList.length (DataW.weights_mem_each (j := 2) (t := 9) rfl rfl _ (by simp [DataW.weights]))
    have h9 : s2.data.toList.length ≤ reachBytes := by simpa using h
    have hl : s2.data.toList.length = s2.size := rfl
    omega
  clear hA0 hval0
  have fin : ∀ e W', (e = Ending.returned (.bool true) ∧ Below W.heap.size W W') → ∃ v, e = Ending.returned v ∧ Rows.deltaBackSpec.post enc Try.prog Try.f5 false true false false W #[.slice A0 n0 c0, .string s1, .string s2] v W' := by
    rintro e W' ⟨rfl, hb⟩
    exact ⟨_, rfl, law_done hW' rfl hb (by kernel_rfl) (by kernel_rfl) rfl⟩
  by_cases hbig : 5000 < s1.size + s2.size
  · exact (back_big R W A0 n0 c0 s1 s2 hn0 hs1 hs2 hbig).mono fin
  · exact (back_walk R W A0 n0 c0 L0 s1 s2 hz0 hnc0 hn0 (by omega)).mono fin

theorem over (R : DeltaDone) : Rows.deltaBackRow.holds Try.pinned (OpenSpec.ofChange Rows.deltaBackSpec) :=
  OpenClaim.holds_of_wide 5 Try.f5 rfl rfl rfl rfl rfl rfl rfl ⟨rfl, rfl, rfl, rfl, rfl⟩ rfl rfl rfl rfl rfl (by kernel_rfl) Try.func5 (by kernel_rfl)
    (of_decide_eq_true (by kernel_rfl)) (by unfold Func.isWrapper; first | (rw [if_pos (by decide +kernel)]; kernel_rfl) | (rw [if_neg (by decide +kernel)]; exact ⟨rfl, rfl⟩))
    (fun os started H enc _ => lifted R os started H enc)

end Go.Proofs.Yticigahhdhindaa.DeltaBack
namespace Go.Proofs.Yticigahhdhindaa

theorem deltaShows_holds : Rows.DeltaShowsSaid := DeltaShows.over done
theorem deltaTakes_holds : Rows.DeltaTakesSaid := DeltaTakes.over done
theorem deltaSizes_holds : Rows.DeltaSizesSaid := DeltaSizes.over done
theorem deltaSteps_holds : Rows.DeltaStepsSaid := DeltaSteps.over done
theorem deltaBack_holds : Rows.DeltaBackSaid := DeltaBack.over done

#print axioms deltaBack_holds
#print axioms deltaSteps_holds
end Go.Proofs.Yticigahhdhindaa
