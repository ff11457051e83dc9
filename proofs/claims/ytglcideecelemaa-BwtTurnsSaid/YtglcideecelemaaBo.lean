/- The row of BwtTurns, over what is asked of the sort, of 5000 numbers. -/
import Derived.Test.YtglcideecelemaaBl
import Derived.Test.YtglcideecelemaaL
import Derived.ChangeMaps5
namespace Go.Proofs.Ytglcideecelemaa.BwtTurns
open Go.ChangeShapes Go.WideShapes Go.ChangeAt Go.RowKit

set_option maxRecDepth 100000 in
theorem lifted (S : SortOk 5000) (os : Os) (started : os.Started) (H : Type) (enc : TypeId × Value → H) :
    ReturnsInHanded {} Try.checked os 7 .any (Rows.bwtTurnsSpec.pre6 enc Try.prog Try.f7 Rows.bwtTurnsRow.domain false) (Rows.bwtTurnsSpec.post enc Try.prog Try.f7 false true false false) := by
  refine returnsInHanded_of_change (C := Try.checked) own started (by kernel_rfl) Try.func7
    (ChangeSpec.witness6 (enc := enc) (C := Try.checked) false ⟨#[], #[.string ⟨#[]⟩, .int .i64 0, .int .u8 0], []⟩ 8 (by kernel_rfl) (by kernel_rfl) (by kernel_rfl) (by kernel_rfl)) ?_
  intro W base args ds gs before hval0 hW hcnd _
  have hval : ∀ (j : Nat) t v, Try.f7.params[j]? = some t → args[j]? = some v → Value.okWide Try.prog W .any base t v := hval0
  have hW' := hW
  obtain ⟨p, q, hA0, hV, rfl, hfz, hnd⟩ := hW
  have hA : DataW.TrodAll enc Try.prog W 0 (fun _ => true) true Try.f7.params.toList args.toList ds p := hA0
  rw [Try.params7] at hA hval
  obtain ⟨v0, vs0, d0, ds0, p0, q0, hargs, rfl, rfl, h0, r0⟩ := trodAll_cons hA
  obtain ⟨v1, vs1, d1, ds1, p1, q1, rfl, rfl, rfl, h1, r1⟩ := trodAll_cons r0
  obtain ⟨v2, vs2, d2, ds2, p2, q2, rfl, rfl, rfl, h2, r2⟩ := trodAll_cons r1
  obtain ⟨rfl, rfl, rfl⟩ := trodAll_nil r2
  obtain rfl : args = #[v0, v1, v2] := by cases args; simp_all
  obtain ⟨rfl, rfl⟩ := trodVars_none hV
  obtain ⟨s, rfl, rfl, rfl, ws⟩ := Go.ChangeMaps.open_string Try.underlying9 (hval 0 9 v0 rfl rfl) h0
  obtain ⟨i, rfl, rfl, rfl, w1⟩ := open_int Try.underlying3 (hval 1 3 v1 rfl rfl) h1
  obtain ⟨a2, rfl, rfl, rfl, w2⟩ := open_int Try.underlying5 (hval 2 5 v2 rfl rfl) h2
  have bb := bounds_u8 w2
  obtain ⟨k2, rfl⟩ := Int.eq_ofNat_of_zero_le bb.1
  obtain ⟨b, rfl⟩ : ∃ b : UInt8, k2 = b.toNat := ⟨UInt8.ofNat k2, by rw [UInt8.toNat_ofNat']; omega⟩
  clear hA0 hval0
  have fin : ∀ e W', (e = Ending.returned (.bool true) ∧ Below W.heap.size W W') → ∃ v, e = Ending.returned v ∧ Rows.bwtTurnsSpec.post enc Try.prog Try.f7 false true false false W #[.string s, .int .i64 i, .int .u8 b.toNat] v W' := by
    rintro e W' ⟨rfl, hb⟩
    exact ⟨_, rfl, law_done hW' rfl hb (by kernel_rfl) (by kernel_rfl) rfl⟩
  by_cases hbig : 2000 < s.size ∨ i < 0 ∨ (s.size : Int) ≤ i
  · exact (turns_out S W s i b.toNat ws hbig).mono fin
  · obtain ⟨k, rfl⟩ : ∃ k : Nat, i = k := ⟨i.toNat, by omega⟩
    exact (turns_walk S W s k b (by omega) (by omega)).mono fin

theorem over (S : SortOk 5000) : Rows.bwtTurnsRow.holds Try.pinned (OpenSpec.ofChange Rows.bwtTurnsSpec) :=
  OpenClaim.holds_of_wide 7 Try.f7 rfl rfl rfl rfl rfl rfl rfl ⟨rfl, rfl, rfl, rfl, rfl⟩ rfl rfl rfl rfl rfl (by kernel_rfl) Try.func7 (by kernel_rfl)
    (of_decide_eq_true (by kernel_rfl)) (by unfold Func.isWrapper; first | (rw [if_pos (by decide +kernel)]; kernel_rfl) | (rw [if_neg (by decide +kernel)]; exact ⟨rfl, rfl⟩))
    (fun os started H enc _ => lifted S os started H enc)

end Go.Proofs.Ytglcideecelemaa.BwtTurns
