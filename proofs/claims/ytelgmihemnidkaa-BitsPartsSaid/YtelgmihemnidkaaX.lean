/- The law BitsSlices, for every text, place and length: the bits of a piece are the document's, or refused. No conditions. -/
import Derived.Test.YtelgmihemnidkaaU
import Derived.ChangeMaps5
import Derived.Laws.StructEq
namespace Go.Proofs.Ytelgmihemnidkaa
open Go.RowKit

theorem slice_both (s : ByteArray) (a m : Int) (hs : s.size ≤ 1000000) :
    ∃ t n r, (∀ w, Calls Try.prog 25 #[.string s, .int .i64 a, .int .i64 m] w (SlicePost w t n r)) ∧ ∀ w, Calls Try.prog 26 #[.string s, .int .i64 a, .int .i64 m] w (SlicePost w t n r) := by
  by_cases h1 : a < 0
  · exact ⟨[], 0, 2, fun w => slice_arg1 w s a m hs (.inl h1), fun w => rslice_arg w s a m hs (.inl h1)⟩
  by_cases h3 : 8 * (s.size : Int) < a
  · refine ⟨[], 0, 2, fun w => slice_arg1 w s a m hs (.inr h3), fun w => ?_⟩
    by_cases h2 : m < 0
    · exact rslice_arg w s a m hs (.inr (.inl ⟨by omega, h2⟩))
    · exact rslice_arg w s a m hs (.inr (.inr (.inl ⟨by omega, by omega, h3⟩)))
  obtain ⟨b, rfl⟩ := Int.eq_ofNat_of_zero_le (show 0 ≤ a by omega)
  by_cases h2 : m < 0
  · exact ⟨[], 0, 2, fun w => slice_arg2 w s b m hs (by omega) (.inl h2), fun w => rslice_arg w s b m hs (.inr (.inl ⟨by omega, h2⟩))⟩
  by_cases h4 : 8 * (s.size : Int) - b < m
  · exact ⟨[], 0, 2, fun w => slice_arg2 w s b m hs (by omega) (.inr h4), fun w => rslice_arg w s b m hs (.inr (.inr (.inr ⟨by omega, by omega, by omega, h4⟩)))⟩
  obtain ⟨k, rfl⟩ := Int.eq_ofNat_of_zero_le (show 0 ≤ m by omega)
  exact ⟨_, k, 0, fun w => slice_ok w s b k hs (by omega), fun w => rslice_ok w s b k hs (by omega)⟩

theorem guard54 : Try.prog.eqGuardType Try.prog.depth 54 = false := by kernel_rfl
theorem held54 : Try.prog.stoodInHeld 54 = false := by kernel_rfl
theorem fields54 : Try.prog.underlying 54 = some (.struct (Try.prog.fieldsOf 54)) := by simp [Program.fieldsOf, Try.underlying54]

/-- Two pieces of one text and one count are equal. -/
theorem bits_eql (T : ByteArray) (n : Int) (w : World) : (binOp .eql 54 (.agg #[.string T, .int .i64 n]) (.agg #[.string T, .int .i64 n])).run Try.prog w = .ok (.bool true) w := by
  rw [run_eql_struct, run_equalIn_agg w 9999 54 _ _ fields54 held54]
  simp [Program.fieldsOf, Try.underlying54, Op.eqFields, part, go_sem]

theorem slices_big (w : World) (s : ByteArray) (a m : Int) (hs : s.size ≤ maxLen) (h : 1000 < s.size) :
    Calls Try.prog 5 #[.string s, .int .i64 a, .int .i64 m] w fun e w' => e = .returned (.bool true) ∧ Below w.heap.size w w' := by
  unfold maxLen at hs
  go_enter Try.func5, Try.ntmps5
  go_wp2_with (go_at_call 10; refine (awake_any _).mono ?_; rintro e w' ⟨rfl, hbw⟩)
  go_ret
  exact ⟨rfl, hbw⟩

theorem slices_walk (w : World) (s : ByteArray) (a m : Int) (hs : s.size ≤ 1000) :
    Calls Try.prog 5 #[.string s, .int .i64 a, .int .i64 m] w fun e w' => e = .returned (.bool true) ∧ Below w.heap.size w w' := by
  obtain ⟨t, n, r, h1, h2⟩ := slice_both s a m (by omega)
  have H1 := Lib.hid h1
  have H2 := Lib.hid h2
  clear h1 h2
  generalize hT : (ByteArray.mk t.toArray) = T
  have HT := Lib.hid hT
  clear hT
  go_enter Try.func5, Try.ntmps5
  go_wp2_with fail
  refine (H1.out _).mono ?_
  rintro e w1 ⟨rfl, hb1⟩
  rw [HT.out]
  have hz1 := hb1.size
  have heq := bits_eql T n
  have hg := guard54
  go_wp2_with fail
  refine (H2.out _).mono ?_
  rintro e w2 ⟨rfl, hb2⟩
  rw [HT.out]
  have hk : Blk w2 w1.heap.size 54 #[.string T, .int .i64 n] := (step_of_below hb2).blk (blk_new w1 54 _) (by simp) (by simp)
  have hbl : Below w.heap.size w w2 := (hb1.alloc hz1 _).trans (hb2.mono (by simp; omega))
  have hz2 := hbl.size
  have hlt : w1.heap.size < w2.heap.size := blk_lt hk
  have q0 : w2.cell? ⟨w1.heap.size, 0, none⟩ = some (.string T) := blk_cell hk 0
  have q1 : w2.cell? ⟨w1.heap.size, 1, none⟩ = some (.int .i64 n) := blk_cell hk 1
  go_wp2_with (go_at_call 10; refine (awake_any _).mono ?_; rintro e w' ⟨rfl, hbw⟩)
  go_ret
  exact ⟨rfl, (hbl.alloc hz2 _).trans (hbw.mono (by simp; omega))⟩

end Go.Proofs.Ytelgmihemnidkaa
namespace Go.Proofs.Ytelgmihemnidkaa.BitsSlices
open Go.ChangeShapes Go.WideShapes Go.ChangeAt Go.RowKit

set_option maxRecDepth 100000 in
theorem lifted (os : Os) (started : os.Started) (H : Type) (enc : TypeId × Value → H) :
    ReturnsInHanded {} Try.checked os 5 .any (Rows.bitsSlicesSpec.pre6 enc Try.prog Try.f5 Rows.bitsSlicesRow.domain false) (Rows.bitsSlicesSpec.post enc Try.prog Try.f5 false true false false) := by
  refine returnsInHanded_of_change (C := Try.checked) own started (by kernel_rfl) Try.func5
    (ChangeSpec.witness6 (enc := enc) (C := Try.checked) false ⟨#[], #[.string ⟨#[]⟩, .int .i64 0, .int .i64 0], []⟩ 8 (by kernel_rfl) (by kernel_rfl) (by kernel_rfl) (by kernel_rfl)) ?_
  intro W base args ds gs before hval0 hW hcnd _
  have hval : ∀ (j : Nat) t v, Try.f5.params[j]? = some t → args[j]? = some v → Value.okWide Try.prog W .any base t v := hval0
  have hW' := hW
  obtain ⟨p, q, hA0, hV, rfl, hfz, hnd⟩ := hW
  have hA : DataW.TrodAll enc Try.prog W 0 (fun _ => true) true Try.f5.params.toList args.toList ds p := hA0
  rw [Try.params5] at hA hval
  obtain ⟨v0, vs0, d0, ds0, p0, q0, hargs, rfl, rfl, h0, r0⟩ := trodAll_cons hA
  obtain ⟨v1, vs1, d1, ds1, p1, q1, rfl, rfl, rfl, h1, r1⟩ := trodAll_cons r0
  obtain ⟨v2, vs2, d2, ds2, p2, q2, rfl, rfl, rfl, h2, r2⟩ := trodAll_cons r1
  obtain ⟨rfl, rfl, rfl⟩ := trodAll_nil r2
  obtain rfl : args = #[v0, v1, v2] := by cases args; simp_all
  obtain ⟨rfl, rfl⟩ := trodVars_none hV
  obtain ⟨s, rfl, rfl, rfl, ws⟩ := Go.ChangeMaps.open_string Try.underlying9 (hval 0 9 v0 rfl rfl) h0
  obtain ⟨a1, rfl, rfl, rfl, w1⟩ := open_int Try.underlying3 (hval 1 3 v1 rfl rfl) h1
  obtain ⟨a2, rfl, rfl, rfl, w2⟩ := open_int Try.underlying3 (hval 2 3 v2 rfl rfl) h2
  clear hA0 hval0
  have fin : ∀ e W', (e = Ending.returned (.bool true) ∧ Below W.heap.size W W') → ∃ v, e = Ending.returned v ∧ Rows.bitsSlicesSpec.post enc Try.prog Try.f5 false true false false W #[.string s, .int .i64 a1, .int .i64 a2] v W' := by
    rintro e W' ⟨rfl, hb⟩
    exact ⟨_, rfl, law_done hW' rfl hb (by kernel_rfl) (by kernel_rfl) rfl⟩
  by_cases hbig : 1000 < s.size
  · exact (slices_big W s a1 a2 ws hbig).mono fin
  · exact (slices_walk W s a1 a2 (by omega)).mono fin

theorem over : Rows.bitsSlicesRow.holds Try.pinned (OpenSpec.ofChange Rows.bitsSlicesSpec) :=
  OpenClaim.holds_of_wide 5 Try.f5 rfl rfl rfl rfl rfl rfl rfl ⟨rfl, rfl, rfl, rfl, rfl⟩ rfl rfl rfl rfl rfl (by kernel_rfl) Try.func5 (by kernel_rfl)
    (of_decide_eq_true (by kernel_rfl)) (by unfold Func.isWrapper; first | (rw [if_pos (by decide +kernel)]; kernel_rfl) | (rw [if_neg (by decide +kernel)]; exact ⟨rfl, rfl⟩))
    (fun os started H enc _ => lifted os started H enc)

end Go.Proofs.Ytelgmihemnidkaa.BitsSlices
namespace Go.Proofs.Ytelgmihemnidkaa
/-- The given statement. -/
theorem bitsSlices_holds : Rows.BitsSlicesSaid := BitsSlices.over
#print axioms bitsSlices_holds
end Go.Proofs.Ytelgmihemnidkaa
