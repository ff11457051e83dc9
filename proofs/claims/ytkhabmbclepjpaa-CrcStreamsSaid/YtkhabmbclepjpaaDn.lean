/- The law CrcStreams, for every slice of sums: the sum of a stream is the document's. No conditions. -/
import Derived.Test.YtkhabmbclepjpaaDj
import Derived.ChangeSlices
namespace Go.Proofs.Ytkhabmbclepjpaa
open Go.RowKit

theorem streams_walk (w : World) (A : Option Addr) (n c : Nat) (L : List Nat) (hi : WordsIn w A n L) (hb : ∀ x ∈ L, x < 4294967296) (hn : n ≤ 9223372036854775807) :
    Calls Try.prog 6 #[.slice A n c] w fun e w' => e = .returned (.bool true) ∧ Below w.heap.size w w' := by
  have HC := Lib.hid (cstream_any w A n c L hi hb hn)
  have HR := Lib.hid (stream_any w A n c L hi hb hn)
  clear hi hb
  generalize streamN L = y at *
  go_enter Try.func6, Try.ntmps6
  go_wp2_with fail
  refine HC.out.mono ?_
  rintro e w1 ⟨rfl, rfl⟩
  go_wp2_with fail
  refine HR.out.mono ?_
  rintro e w1 ⟨rfl, rfl⟩
  go_wp2_with fail
  refine (awake_any w).mono ?_
  rintro e w3 ⟨rfl, hb3⟩
  go_wp2_with fail
  go_ret
  exact ⟨rfl, hb3⟩

theorem addr_of_cell {w : World} {a : Addr} {v : Value} (h : w.cell? a = some v) : a = ⟨a.block, a.off, none⟩ := by
  unfold World.cell? at h
  split at h
  · split at h
    · cases h
    · rename_i hs
      cases a with
      | mk b o s =>
        cases s with
        | none => rfl
        | some s => simp at hs
  · cases h

open Go.ChangeShapes Go.WideShapes Go.ChangeAt in
theorem open_words {H : Type} {enc : TypeId × Value → H} {W : World} {A : Option Addr} {n c : Nat} {d : DataW H} {ps : List MemPlace}
    (h : DataW.Trod enc Try.prog W 0 (fun _ => true) true 28 (.slice A n c) d ps) : ∃ L, WordsIn W A n L ∧ (∀ x ∈ L, x < 4294967296) ∧ n ≤ 9223372036854775807 := by
  obtain ⟨fuel, h⟩ := h
  rcases open_ints Try.underlying28 Try.underlying22 (by kernel_rfl) h with ⟨hc, _⟩ | ⟨a, len, cap, zs, hcs, _, hl, hm, hz, hx, hcell, hwf⟩
  · simp [Value.cells] at hc
    obtain ⟨rfl, rfl, rfl⟩ := hc
    exact ⟨[], ⟨rfl, fun h => by omega⟩, fun x (hx : x ∈ []) => absurd hx List.not_mem_nil, by omega⟩
  · simp [Value.cells] at hcs
    obtain ⟨rfl, rfl, rfl⟩ := hcs
    simp only [if_true] at hz
    have hw : ∀ x ∈ zs, 0 ≤ x ∧ x < 4294967296 := fun x hx => by
      have := bounds_u32 (hwf x hx)
      omega
    refine ⟨(zs.take n).map Int.toNat, ⟨by rw [List.length_map, List.length_take]; omega, fun hn => ?_⟩, ?_, ?_⟩
    · have h0 := hcell 0 (by omega)
      rw [Addr.add_zero'] at h0
      have ha := addr_of_cell h0
      refine ⟨a.block, a.off, by rw [← ha], fun i hi => ?_⟩
      have h1 := hcell i (by omega)
      rw [ha, Addr.add_lit] at h1
      rw [h1]
      have hzi : zs[i]? = some zs[i] := List.getElem?_eq_getElem (by omega)
      have h2 := hw _ (List.getElem_mem (l := zs) (n := i) (by omega))
      rw [List.getD_eq_getElem?_getD, List.getD_eq_getElem?_getD, List.getElem?_map, List.getElem?_take_of_lt hi, hzi]
      show some (Value.int .u32 zs[i]) = some (.int .u32 ((zs[i].toNat : Nat) : Int))
      rw [Int.toNat_of_nonneg h2.1]
    · intro x hx
      obtain ⟨z, hz', rfl⟩ := List.mem_map.1 hx
      have := hw z (List.mem_of_mem_take hz')
      omega
    · unfold maxLen at hm
      omega

end Go.Proofs.Ytkhabmbclepjpaa
namespace Go.Proofs.Ytkhabmbclepjpaa.CrcStreams
open Go.ChangeShapes Go.WideShapes Go.ChangeAt Go.RowKit

set_option maxRecDepth 100000 in
theorem lifted (os : Os) (started : os.Started) (H : Type) (enc : TypeId × Value → H) :
    ReturnsInHanded {} Try.checked os 6 .any (Rows.crcStreamsSpec.pre6 enc Try.prog Try.f6 Rows.crcStreamsRow.domain false) (Rows.crcStreamsSpec.post enc Try.prog Try.f6 false true false false) := by
  refine returnsInHanded_of_change (C := Try.checked) own started (by kernel_rfl) Try.func6
    (ChangeSpec.witness6 (enc := enc) (C := Try.checked) false ⟨#[], #[.slice none 0 0], []⟩ 8 (by kernel_rfl) (by kernel_rfl) (by kernel_rfl) (by kernel_rfl)) ?_
  intro W base args ds gs before hval0 hW hcnd _
  have hval : ∀ (j : Nat) t v, Try.f6.params[j]? = some t → args[j]? = some v → Value.okWide Try.prog W .any base t v := hval0
  have hW' := hW
  obtain ⟨p, q, hA0, hV, rfl, hfz, hnd⟩ := hW
  have hA : DataW.TrodAll enc Try.prog W 0 (fun _ => true) true Try.f6.params.toList args.toList ds p := hA0
  rw [Try.params6] at hA hval
  obtain ⟨v0, vs0, d0, ds0, p0, q0, hargs, rfl, rfl, h0, r0⟩ := trodAll_cons hA
  obtain ⟨rfl, rfl, rfl⟩ := trodAll_nil r0
  obtain rfl : args = #[v0] := by cases args; simp_all
  obtain ⟨rfl, rfl⟩ := trodVars_none hV
  obtain ⟨A, n, c, rfl⟩ := okWide_slice Try.underlying28 (hval 0 28 v0 rfl rfl)
  obtain ⟨L, hi, hb, hn⟩ := open_words h0
  clear hA0 hval0
  have fin : ∀ e W', (e = Ending.returned (.bool true) ∧ Below W.heap.size W W') → ∃ v, e = Ending.returned v ∧ Rows.crcStreamsSpec.post enc Try.prog Try.f6 false true false false W #[.slice A n c] v W' := by
    rintro e W' ⟨rfl, hb⟩
    exact ⟨_, rfl, law_done hW' rfl hb (by kernel_rfl) (by kernel_rfl) rfl⟩
  exact (streams_walk W A n c L hi hb hn).mono fin

theorem over : Rows.crcStreamsRow.holds Try.pinned (OpenSpec.ofChange Rows.crcStreamsSpec) :=
  OpenClaim.holds_of_wide 6 Try.f6 rfl rfl rfl rfl rfl rfl rfl ⟨rfl, rfl, rfl, rfl, rfl⟩ rfl rfl rfl rfl rfl (by kernel_rfl) Try.func6 (by kernel_rfl)
    (of_decide_eq_true (by kernel_rfl)) (by unfold Func.isWrapper; first | (rw [if_pos (by decide +kernel)]; kernel_rfl) | (rw [if_neg (by decide +kernel)]; exact ⟨rfl, rfl⟩))
    (fun os started H enc _ => lifted os started H enc)

end Go.Proofs.Ytkhabmbclepjpaa.CrcStreams
namespace Go.Proofs.Ytkhabmbclepjpaa
/-- The given statement. -/
theorem crcStreams_holds : Rows.CrcStreamsSaid := CrcStreams.over
#print axioms crcStreams_holds
end Go.Proofs.Ytkhabmbclepjpaa
