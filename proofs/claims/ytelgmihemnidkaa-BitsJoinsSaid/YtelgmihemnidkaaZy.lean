/- The statement of BitsJoins: for every list of pieces the law returns true. No conditions. -/
import Derived.Test.YtelgmihemnidkaaZz
namespace Go.Proofs.Ytelgmihemnidkaa.BitsJoins
open Go.ChangeShapes Go.WideShapes Go.ChangeAt Go.RowKit Go.Deep

theorem mem_weightsAll {H : Type} {e : TypeId} {x : Nat} {d : DataW H} : ∀ {l : List (DataW H)}, d ∈ l → x ∈ d.weights Try.prog e → x ∈ DataW.weightsAll Try.prog e l
  | [], h, _ => by simp at h
  | y :: l, h, hx => by
    simp only [DataW.weightsAll, List.mem_append]
    rcases List.mem_cons.1 h with rfl | h
    · exact .inl hx
    · exact .inr (mem_weightsAll h hx)

/-- []api.Bits: so many pieces, none of them greater than the reach. -/
theorem open_bits {H : Type} {enc : TypeId × Value → H} {W : World} {A : Option Addr} {n c : Nat} {d : DataW H} {ps : List MemPlace}
    (h : DataW.Trod enc Try.prog W 0 (fun _ => true) true 60 (.slice A n c) d ps) (hw : ∀ x ∈ d.weights Try.prog 60, x ≤ reachBytes) :
    ∃ (T : Nat → ByteArray) (K : Nat → Int), n ≤ c ∧ n ≤ maxLen ∧ PairsIn W W.heap.size A n (fun i => .string (T i)) (fun i => .int .i64 (K i)) ∧ (∀ i, i < n → (T i).size ≤ 140737488355328) ∧ ∀ i, i < n → -9223372036854775808 ≤ K i ∧ K i ≤ 9223372036854775807 := by
  have h' := h
  obtain ⟨X, Y, h1, h2, h3, _⟩ := open_pairs Try.underlying60 Try.underlying54 Try.cells54 rfl rfl Try.cells9 Try.cells3 h'
  obtain ⟨fuel, h⟩ := h
  rcases open_slice_pairs Try.underlying60 Try.underlying54 Try.cells54 rfl rfl Try.cells9 Try.cells3 h with ⟨hc, _⟩ | ⟨a, len, cap, m, k, V0, V1, D0, D1, P0, P1, hcs, _, hl, hm, hmeq, hx, hall⟩
  · simp [Value.cells] at hc
    obtain ⟨rfl, rfl, rfl⟩ := hc
    exact ⟨fun _ => ⟨#[]⟩, fun _ => 0, h1, h2, fun h => by omega, fun i h => by omega, fun i h => by omega⟩
  · simp [Value.cells] at hcs
    obtain ⟨rfl, rfl, rfl⟩ := hcs
    simp only [if_true] at hmeq
    subst hmeq
    have hd : d = .slice ((List.range n).map fun i => .agg [D0 i, D1 i]) ((List.range (m - n)).map fun j => .agg [D0 (n + j), D1 (n + j)]) := by
      have := congrArg Prod.fst hx
      exact this
    have hs : ∀ i, i < n → ∃ s : ByteArray, V0 i = .string s ∧ s.size ≤ 140737488355328 := fun i hi => by
      obtain ⟨_, _, t0, _⟩ := hall i (by omega)
      obtain ⟨s, e0, x0, _⟩ := DataW.trod_string Try.underlying9 t0
      simp only [List.cons.injEq, and_true] at e0
      simp only [Prod.mk.injEq] at x0
      have hmem : s.data.toList.length ∈ d.weights Try.prog 60 := by
        rw [hd]
        simp only [DataW.weights, Try.underlying60, List.mem_cons, List.mem_append]
        refine .inr (.inl (mem_weightsAll (d := .agg [D0 i, D1 i]) (List.mem_map.2 ⟨i, List.mem_range.2 hi, rfl⟩) ?_))
        simp only [DataW.weights, Try.underlying54]
        simp [DataW.weightsEach, x0.1, DataW.weights]
      have hb := hw _ hmem
      have hr := reachBytes_lt
      refine ⟨s, e0, ?_⟩
      have : s.data.toList.length = s.size := rfl
      omega
    have hk : ∀ i, i < n → ∃ q : Int, V1 i = .int .i64 q ∧ (Lit.int .i64 q).wf = true := fun i hi => by
      obtain ⟨_, _, _, t1⟩ := hall i (by omega)
      obtain ⟨q, e1, _, hw1⟩ := DataW.trod_int Try.underlying3 t1
      simp only [List.cons.injEq, and_true] at e1
      exact ⟨q, e1, hw1⟩
    refine ⟨fun i => match V0 i with | .string s => s | _ => ⟨#[]⟩, fun i => intOf (V1 i), hl, by omega, ?_, ?_, ?_⟩
    · intro hn
      have h0 := (hall 0 (by omega)).1
      rw [Nat.zero_mul, Addr.add_zero'] at h0
      have ha := addr_of_cell h0
      refine ⟨a.block, a.off, by rw [← ha], World.block_lt_of_cell? W a h0, fun i hi => ?_⟩
      obtain ⟨g1, g2, _⟩ := hall i (by omega)
      rw [ha, Addr.add_lit] at g1 g2
      obtain ⟨s, e0, _⟩ := hs i hi
      obtain ⟨q, e1, _⟩ := hk i hi
      rw [g1]
      refine ⟨by simp only [e0], ?_⟩
      refine Eq.trans g2 ?_
      show some (V1 i) = some (.int .i64 (intOf (V1 i)))
      rw [e1]
      rfl
    · intro i hi
      obtain ⟨s, e0, hb⟩ := hs i hi
      simp only [e0]
      exact hb
    · intro i hi
      obtain ⟨q, e1, w1⟩ := hk i hi
      have := bounds_i64 w1
      simp only [e1, intOf]
      exact this

set_option maxRecDepth 100000 in
theorem lifted (os : Os) (started : os.Started) (H : Type) (enc : TypeId × Value → H) :
    ReturnsInHanded {} Try.checked os 6 .any (Rows.bitsJoinsSpec.pre6 enc Try.prog Try.f6 Rows.bitsJoinsRow.domain false) (Rows.bitsJoinsSpec.post enc Try.prog Try.f6 false true false false) := by
  refine returnsInHanded_of_change_sized (C := Try.checked) own started (by kernel_rfl) Try.func6
    (ChangeSpec.witness6 (enc := enc) (C := Try.checked) false ⟨#[], #[.slice none 0 0], []⟩ 8 (by kernel_rfl) (by kernel_rfl) (by kernel_rfl) (by kernel_rfl)) ?_
  intro W base args ds gs before hval0 hW hcnd hsz0 _
  have hsz : (DataW.weightsEach Try.prog (Try.f6.params.toList ++ Rows.bitsJoinsSpec.plain.varTypes Try.prog) (ds ++ gs)).all (· ≤ reachBytes) = true := hsz0
  have hval : ∀ (j : Nat) t v, Try.f6.params[j]? = some t → args[j]? = some v → Value.okWide Try.prog W .any base t v := hval0
  have hW' := hW
  obtain ⟨p, q, hA0, hV, rfl, hfz, hnd⟩ := hW
  have hA : DataW.TrodAll enc Try.prog W 0 (fun _ => true) true Try.f6.params.toList args.toList ds p := hA0
  rw [Try.params6] at hA hval hsz
  obtain ⟨v0, vs0, d0, ds0, p0, q0, hargs, rfl, rfl, h0, r0⟩ := trodAll_cons hA
  obtain ⟨rfl, rfl, rfl⟩ := trodAll_nil r0
  obtain rfl : args = #[v0] := by cases args; simp_all
  obtain ⟨rfl, rfl⟩ := trodVars_none hV
  obtain ⟨A, n, c, rfl⟩ := okWide_slice Try.underlying60 (hval 0 60 v0 rfl rfl)
  have hw : ∀ x ∈ d0.weights Try.prog 60, x ≤ reachBytes := fun x hx => by
    have := List.all_eq_true.1 hsz x (DataW.weights_mem_each (j := 0) (t := 60) rfl rfl x hx)
    simpa using this
  obtain ⟨T, K, hnc, hm, hp, hT, hK⟩ := open_bits h0 hw
  clear hA0 hval0
  have fin : ∀ e W', (e = Ending.returned (.bool true) ∧ Below W.heap.size W W') → ∃ v, e = Ending.returned v ∧ Rows.bitsJoinsSpec.post enc Try.prog Try.f6 false true false false W #[.slice A n c] v W' := by
    rintro e W' ⟨rfl, hb⟩
    exact ⟨_, rfl, law_done hW' rfl hb (by kernel_rfl) (by kernel_rfl) rfl⟩
  by_cases htot : totS T n ≤ 2000
  · exact (joins_walk W A n c T K hp hm hT htot hK).mono fin
  · exact (joins_big W A n c T K hp hm hT (by omega)).mono fin

theorem over : Rows.bitsJoinsRow.holds Try.pinned (OpenSpec.ofChange Rows.bitsJoinsSpec) :=
  OpenClaim.holds_of_wide 6 Try.f6 rfl rfl rfl rfl rfl rfl rfl ⟨rfl, rfl, rfl, rfl, rfl⟩ rfl rfl rfl rfl rfl (by kernel_rfl) Try.func6 (by kernel_rfl)
    (of_decide_eq_true (by kernel_rfl)) (by unfold Func.isWrapper; first | (rw [if_pos (by decide +kernel)]; kernel_rfl) | (rw [if_neg (by decide +kernel)]; exact ⟨rfl, rfl⟩))
    (fun os started H enc _ => lifted os started H enc)

end Go.Proofs.Ytelgmihemnidkaa.BitsJoins
namespace Go.Proofs.Ytelgmihemnidkaa
/-- The given statement. -/
theorem bitsJoins_holds : Rows.BitsJoinsSaid := BitsJoins.over
#print axioms bitsJoins_holds
end Go.Proofs.Ytelgmihemnidkaa
