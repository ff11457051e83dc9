/- The law BitsParts, for every text and three numbers: two pieces side by side, joined, are the piece of both. No conditions. -/
import Derived.Test.YtelgmihemnidkaaZ
namespace Go.Proofs.Ytelgmihemnidkaa
open Go.RowKit

theorem pack_ba_size (L : List Nat) : (ByteArray.mk (pack L).toArray).size = (L.length + 7) / 8 := by
  rw [← pack_length]; rfl
theorem pack_ba_list (L : List Nat) : (ByteArray.mk (pack L).toArray).data.toList = pack L := rfl

theorem may_piece (L : List Nat) (hb : Bit01 L) : mayB ⟨(pack L).toArray⟩ L.length = true := by
  rw [may_parts, pack_ba_size, pack_ba_list, bitsB_pack L hb, List.drop_left]
  exact ⟨by omega, by omega, by simp⟩

theorem take_piece (L : List Nat) (hb : Bit01 L) : (bitsB (ByteArray.mk (pack L).toArray).data.toList).take L.length = L := by
  rw [pack_ba_list, bitsB_pack L hb, List.take_left]

theorem parts_join (L1 L2 : List Nat) (h1 : Bit01 L1) (h2 : Bit01 L2) (hl : L1.length + L2.length ≤ 8000) (w : World) (g c : Nat)
    (hg : Blk w g 54 #[.string ⟨(pack L1).toArray⟩, .int .i64 L1.length, .string ⟨(pack L2).toArray⟩, .int .i64 L2.length]) :
    Calls Try.prog 27 #[.slice (some ⟨g, 0, none⟩) 2 c] w (SlicePost w (pack (L1 ++ L2)) (L1.length + L2.length) 0) := by
  have hj : joinL (fun i => if i = 0 then ⟨(pack L1).toArray⟩ else ⟨(pack L2).toArray⟩) (fun i => if i = 0 then (L1.length : Int) else (L2.length : Int)) 2 = L1 ++ L2 := by
    simp only [joinL, if_true, Nat.reduceEqDiff, if_false, List.nil_append, Int.toNat_natCast]
    rw [take_piece L1 h1]
    congr 1
    exact take_piece L2 h2
  have h := join_ok w (some ⟨g, 0, none⟩) 2 c (fun i => if i = 0 then ⟨(pack L1).toArray⟩ else ⟨(pack L2).toArray⟩) (fun i => if i = 0 then (L1.length : Int) else (L2.length : Int))
    (fun _ => ⟨g, 0, rfl, blk_lt hg, fun i hi => by
      match i, hi with
      | 0, _ => exact ⟨blk_cell hg 0, blk_cell hg 1⟩
      | 1, _ => exact ⟨blk_cell hg 2, blk_cell hg 3⟩⟩) (by unfold maxLen; omega)
    (by
      simp only [totS, if_true, Nat.reduceEqDiff, if_false]
      rw [pack_ba_size, pack_ba_size]
      omega)
    (fun i hi => by
      match i, hi with
      | 0, _ => simp; omega
      | 1, _ => simp; omega)
    (fun i hi => by
      match i, hi with
      | 0, _ => exact may_piece L1 h1
      | 1, _ => exact may_piece L2 h2)
  rw [hj, List.length_append] at h
  exact h

set_option maxHeartbeats 1600000 in
theorem parts_big (w : World) (s : ByteArray) (a n m : Int) (hs : s.size ≤ maxLen)
    (h : 1000 < s.size ∨ (s.size ≤ 1000 ∧ a < 0) ∨ (s.size ≤ 1000 ∧ 0 ≤ a ∧ n < 0) ∨ (s.size ≤ 1000 ∧ 0 ≤ a ∧ 0 ≤ n ∧ m < 0) ∨ (s.size ≤ 1000 ∧ 0 ≤ a ∧ 0 ≤ n ∧ 0 ≤ m ∧ 8 * (s.size : Int) < a) ∨
      (s.size ≤ 1000 ∧ 0 ≤ a ∧ 0 ≤ n ∧ 0 ≤ m ∧ a ≤ 8 * (s.size : Int) ∧ 8 * (s.size : Int) - a < n) ∨ (s.size ≤ 1000 ∧ 0 ≤ a ∧ 0 ≤ n ∧ 0 ≤ m ∧ a ≤ 8 * (s.size : Int) ∧ n ≤ 8 * (s.size : Int) - a ∧ 8 * (s.size : Int) - a - n < m)) :
    Calls Try.prog 8 #[.string s, .agg #[.int .i64 a, .int .i64 n, .int .i64 m]] w fun e w' => e = .returned (.bool true) ∧ Below w.heap.size w w' := by
  unfold maxLen at hs
  have hbl : Below w.heap.size w (w.alloc (.cells #[.int .i64 a, .int .i64 n, .int .i64 m] 64)) := (Below.refl _ _).alloc (Nat.le_refl _) _
  rcases h with h | ⟨h1, h⟩ | ⟨h1, h2, h⟩ | ⟨h1, h2, h3, h⟩ | ⟨h1, h2, h3, h4, h⟩ | ⟨h1, h2, h3, h4, h5, h⟩ | ⟨h1, h2, h3, h4, h5, h6, h⟩
  all_goals
    go_enter Try.func8, Try.ntmps8
    go_wp2
    go_region
    go_wp2_with (go_at_call 10; refine (awake_any _).mono ?_; rintro e w' ⟨rfl, hbw⟩)
    go_ret
    exact ⟨rfl, (hbl.drew).trans (hbw.mono (by simp))⟩

set_option maxRecDepth 100000 in
set_option maxHeartbeats 1600000 in
theorem parts_walk (w : World) (s : ByteArray) (a n m : Nat) (hs : s.size ≤ 1000) (h : a + n + m ≤ 8 * s.size) :
    Calls Try.prog 8 #[.string s, .agg #[.int .i64 a, .int .i64 n, .int .i64 m]] w fun e w' => e = .returned (.bool true) ∧ Below w.heap.size w w' := by
  have hbl : Below w.heap.size w (w.alloc (.cells #[.int .i64 a, .int .i64 n, .int .i64 m] 64)).drew := ((Below.refl _ _).alloc (Nat.le_refl _) _).drew
  have hlen : (bitsB s.data.toList).length = 8 * s.size := by rw [bitsB_length]; rfl
  obtain ⟨L1, hL1⟩ : ∃ L1, L1 = ((bitsB s.data.toList).drop a).take n := ⟨_, rfl⟩
  obtain ⟨L2, hL2⟩ : ∃ L2, L2 = ((bitsB s.data.toList).drop (a + n)).take m := ⟨_, rfl⟩
  have hl1 : L1.length = n := by rw [hL1, List.length_take, List.length_drop]; omega
  have hl2 : L2.length = m := by rw [hL2, List.length_take, List.length_drop]; omega
  have hb1 : Bit01 L1 := by rw [hL1]; exact ((bit01_bitsB _).drop _).take _
  have hb2 : Bit01 L2 := by rw [hL2]; exact ((bit01_bitsB _).drop _).take _
  have hL3 : L1 ++ L2 = ((bitsB s.data.toList).drop a).take (n + m) := by rw [hL1, hL2, ← take_more]
  have c1 : ∀ w, Calls Try.prog 25 #[.string s, .int .i64 a, .int .i64 n] w (SlicePost w (pack L1) n 0) := fun w => by rw [hL1]; exact slice_ok w s a n (by omega) (by omega)
  have c2 : ∀ w, Calls Try.prog 25 #[.string s, .int .i64 (a + n : Nat), .int .i64 m] w (SlicePost w (pack L2) m 0) := fun w => by rw [hL2]; exact slice_ok w s (a + n) m (by omega) (by omega)
  have c3 : ∀ w, Calls Try.prog 25 #[.string s, .int .i64 a, .int .i64 (n + m : Nat)] w (SlicePost w (pack (L1 ++ L2)) (n + m) 0) := fun w => by rw [hL3]; exact slice_ok w s a (n + m) (by omega) (by omega)
  have cj : ∀ w g c, Blk w g 54 #[.string ⟨(pack L1).toArray⟩, .int .i64 n, .string ⟨(pack L2).toArray⟩, .int .i64 m] → Calls Try.prog 27 #[.slice (some ⟨g, 0, none⟩) 2 c] w (SlicePost w (pack (L1 ++ L2)) (n + m) 0) := fun w g c hg => by
    have := parts_join L1 L2 hb1 hb2 (by omega) w g c (by rw [hl1, hl2]; exact hg)
    rw [hl1, hl2] at this
    exact this
  have e2 : ((a + n : Nat) : Int) = (a : Int) + n := by omega
  have e3 : ((n + m : Nat) : Int) = (n : Int) + m := by omega
  rw [e2] at c2
  rw [e3] at c3
  have C1 := Lib.hid c1
  have C2 := Lib.hid c2
  have C3 := Lib.hid c3
  have CJ := Lib.hid cj
  have E3 := Lib.hid e3
  clear c1 c2 c3 cj e2 e3 hL1 hL2 hL3 hl1 hl2 hlen
  generalize hS1 : (ByteArray.mk (pack L1).toArray) = S1 at *
  generalize hS2 : (ByteArray.mk (pack L2).toArray) = S2 at *
  generalize hS3 : (ByteArray.mk (pack (L1 ++ L2)).toArray) = S3 at *
  have HS1 := Lib.hid hS1
  have HS2 := Lib.hid hS2
  have HS3 := Lib.hid hS3
  clear hS1 hS2 hS3
  have heq := bits_eql S3 ((n : Int) + m)
  have hg54 := guard54
  go_enter Try.func8, Try.ntmps8
  go_wp2
  go_region
  go_wp2_with fail
  refine (C1.out _).mono ?_
  rintro e w1 ⟨rfl, hw1⟩
  rw [HS1.out]
  go_wp2_with fail
  refine (C2.out _).mono ?_
  rintro e w2 ⟨rfl, hw2⟩
  rw [HS2.out]
  have hb1' : Below w.heap.size w w1 := hbl.trans (hw1.mono (by simp))
  have hz1 := hb1'.size
  have hk1 : Blk w2 w1.heap.size 54 #[.string S1, .int .i64 n] := (step_of_below hw2).blk (blk_new w1 54 _) (by simp) (by simp)
  have hb2' : Below w.heap.size w w2 := (hb1'.alloc hz1 _).trans (hw2.mono (by simp; omega))
  have hz2 := hb2'.size
  have hlt : w1.heap.size < w2.heap.size := blk_lt hk1
  have q0 : w2.cell? ⟨w1.heap.size, 0, none⟩ = some (.string S1) := blk_cell hk1 0
  have q1 : w2.cell? ⟨w1.heap.size, 1, none⟩ = some (.int .i64 n) := blk_cell hk1 1
  have hB : Blk ((w2.alloc (.cells #[.string S2, .int .i64 m] 54)).alloc (.cells #[.string S1, .int .i64 n, .string S2, .int .i64 m] 54)) (w2.heap.size + 1) 54 #[.string S1, .int .i64 n, .string S2, .int .i64 m] := by
    have := blk_new (w2.alloc (.cells #[.string S2, .int .i64 m] 54)) 54 #[.string S1, .int .i64 n, .string S2, .int .i64 m]
    rwa [show (World.alloc w2 (.cells #[.string S2, .int .i64 m] 54)).heap.size = w2.heap.size + 1 by simp] at this
  have hbB : Below w.heap.size w ((w2.alloc (.cells #[.string S2, .int .i64 m] 54)).alloc (.cells #[.string S1, .int .i64 n, .string S2, .int .i64 m] 54)) := (hb2'.alloc hz2 _).alloc (by simp; omega) _
  go_wp2_with fail
  refine (CJ.out _ _ _ hB).mono ?_
  rintro e w3 ⟨rfl, hw3⟩
  rw [HS3.out, E3.out]
  have hb3' : Below w.heap.size w w3 := hbB.trans (hw3.mono hbB.size)
  have hz3 := hb3'.size
  clear q0 q1 hB hbB hw3
  go_wp2_with fail
  refine (C3.out _).mono ?_
  rintro e w4 ⟨rfl, hw4⟩
  rw [HS3.out, E3.out]
  have hk3 : Blk w4 w3.heap.size 54 #[.string S3, .int .i64 ((n : Int) + m)] := (step_of_below hw4).blk (blk_new w3 54 _) (by simp) (by simp)
  have hb4' : Below w.heap.size w w4 := (hb3'.alloc hz3 _).trans (hw4.mono (by simp; omega))
  have hz4 := hb4'.size
  have hlt3 : w3.heap.size < w4.heap.size := blk_lt hk3
  have q2 : w4.cell? ⟨w3.heap.size, 0, none⟩ = some (.string S3) := blk_cell hk3 0
  have q3 : w4.cell? ⟨w3.heap.size, 1, none⟩ = some (.int .i64 ((n : Int) + m)) := blk_cell hk3 1
  clear hw4
  go_wp2_with (go_at_call 10; refine (awake_any _).mono ?_; rintro e w' ⟨rfl, hbw⟩)
  go_ret
  exact ⟨rfl, (hb4'.alloc hz4 _).trans (hbw.mono (by simp; omega))⟩

end Go.Proofs.Ytelgmihemnidkaa
namespace Go.Proofs.Ytelgmihemnidkaa.BitsParts
open Go.ChangeShapes Go.WideShapes Go.ChangeAt Go.RowKit

theorem cells64 : Try.prog.cellsOf 64 = 3 := by kernel_rfl
theorem cells3' : Try.prog.cellsOf 3 = 1 := by kernel_rfl

theorem open_three {H : Type} {enc : TypeId × Value → H} {W : World} {base : Nat} {v : Value} {d : DataW H} {ps : List MemPlace} (hv : Value.okWide Try.prog W .any base 64 v)
    (h : DataW.Trod enc Try.prog W 0 (fun _ => true) true 64 v d ps) : ∃ a b c : Int, v = .agg #[.int .i64 a, .int .i64 b, .int .i64 c] := by
  obtain ⟨cs, rfl, hsz, _⟩ : ∃ cs, v = .agg cs ∧ cs.size = Try.prog.cellsOf 64 ∧ Row.okWide Try.prog W .any base 64 cs := by
    simpa [Value.okWide, Try.underlying64] using hv
  rw [cells64] at hsz
  obtain ⟨fuel, hf⟩ := h
  obtain ⟨xs, m, _, _, _, hl, hel⟩ := DataW.trod_array Try.underlying64 hf
  obtain ⟨c0, c1, c2, hcs⟩ : ∃ c0 c1 c2, cs = #[c0, c1, c2] := by
    obtain ⟨l⟩ := cs
    match l, hsz with
    | [x, y, z], _ => exact ⟨x, y, z, rfl⟩
  subst hcs
  have get : ∀ (i : Nat) (ci : Value), i < 3 → (([c0, c1, c2] : List Value).drop i).take 1 = [ci] → ∃ k : Int, ci = .int .i64 k := by
    intro i ci hi hc
    have h1 := hel i hi
    rw [cells3', Nat.mul_one] at h1
    have hx : xs[i]? = some xs[i] := List.getElem?_eq_getElem (by omega)
    rw [hx] at h1
    have h2 : DataW.trod enc Try.prog W 0 (fun _ => true) true m 3 [ci] = some xs[i] := by rw [← hc]; exact h1
    obtain ⟨k, e1, _⟩ := DataW.trod_int Try.underlying3 h2
    simp only [List.cons.injEq, and_true] at e1
    exact ⟨k, e1⟩
  obtain ⟨a, rfl⟩ := get 0 c0 (by omega) rfl
  obtain ⟨b, rfl⟩ := get 1 c1 (by omega) rfl
  obtain ⟨c, rfl⟩ := get 2 c2 (by omega) rfl
  exact ⟨a, b, c, rfl⟩

set_option maxRecDepth 100000 in
theorem lifted (os : Os) (started : os.Started) (H : Type) (enc : TypeId × Value → H) :
    ReturnsInHanded {} Try.checked os 8 .any (Rows.bitsPartsSpec.pre6 enc Try.prog Try.f8 Rows.bitsPartsRow.domain false) (Rows.bitsPartsSpec.post enc Try.prog Try.f8 false true false false) := by
  refine returnsInHanded_of_change (C := Try.checked) own started (by kernel_rfl) Try.func8
    (ChangeSpec.witness6 (enc := enc) (C := Try.checked) false ⟨#[], #[.string ⟨#[]⟩, .agg #[.int .i64 0, .int .i64 0, .int .i64 0]], []⟩ 8 (by kernel_rfl) (by kernel_rfl) (by kernel_rfl) (by kernel_rfl)) ?_
  intro W base args ds gs before hval0 hW hcnd _
  have hval : ∀ (j : Nat) t v, Try.f8.params[j]? = some t → args[j]? = some v → Value.okWide Try.prog W .any base t v := hval0
  have hW' := hW
  obtain ⟨p, q, hA0, hV, rfl, hfz, hnd⟩ := hW
  have hA : DataW.TrodAll enc Try.prog W 0 (fun _ => true) true Try.f8.params.toList args.toList ds p := hA0
  rw [Try.params8] at hA hval
  obtain ⟨v0, vs0, d0, ds0, p0, q0, hargs, rfl, rfl, h0, r0⟩ := trodAll_cons hA
  obtain ⟨v1, vs1, d1, ds1, p1, q1, rfl, rfl, rfl, h1, r1⟩ := trodAll_cons r0
  obtain ⟨rfl, rfl, rfl⟩ := trodAll_nil r1
  obtain rfl : args = #[v0, v1] := by cases args; simp_all
  obtain ⟨rfl, rfl⟩ := trodVars_none hV
  obtain ⟨s, rfl, rfl, rfl, ws⟩ := Go.ChangeMaps.open_string Try.underlying9 (hval 0 9 v0 rfl rfl) h0
  obtain ⟨a, n, m, rfl⟩ := open_three (hval 1 64 v1 rfl rfl) h1
  clear hA0 hval0
  have fin : ∀ e W', (e = Ending.returned (.bool true) ∧ Below W.heap.size W W') → ∃ v, e = Ending.returned v ∧ Rows.bitsPartsSpec.post enc Try.prog Try.f8 false true false false W #[.string s, .agg #[.int .i64 a, .int .i64 n, .int .i64 m]] v W' := by
    rintro e W' ⟨rfl, hb⟩
    exact ⟨_, rfl, law_done hW' rfl hb (by kernel_rfl) (by kernel_rfl) rfl⟩
  by_cases hgood : s.size ≤ 1000 ∧ 0 ≤ a ∧ 0 ≤ n ∧ 0 ≤ m ∧ a + n + m ≤ 8 * (s.size : Int)
  · obtain ⟨g1, g2, g3, g4, g5⟩ := hgood
    obtain ⟨a, rfl⟩ := Int.eq_ofNat_of_zero_le g2
    obtain ⟨n, rfl⟩ := Int.eq_ofNat_of_zero_le g3
    obtain ⟨m, rfl⟩ := Int.eq_ofNat_of_zero_le g4
    exact (parts_walk W s a n m g1 (by omega)).mono fin
  · exact (parts_big W s a n m ws (by omega)).mono fin

theorem over : Rows.bitsPartsRow.holds Try.pinned (OpenSpec.ofChange Rows.bitsPartsSpec) :=
  OpenClaim.holds_of_wide 8 Try.f8 rfl rfl rfl rfl rfl rfl rfl ⟨rfl, rfl, rfl, rfl, rfl⟩ rfl rfl rfl rfl rfl (by kernel_rfl) Try.func8 (by kernel_rfl)
    (of_decide_eq_true (by kernel_rfl)) (by unfold Func.isWrapper; first | (rw [if_pos (by decide +kernel)]; kernel_rfl) | (rw [if_neg (by decide +kernel)]; exact ⟨rfl, rfl⟩))
    (fun os started H enc _ => lifted os started H enc)

end Go.Proofs.Ytelgmihemnidkaa.BitsParts
namespace Go.Proofs.Ytelgmihemnidkaa
/-- The given statement. -/
theorem bitsParts_holds : Rows.BitsPartsSaid := BitsParts.over
#print axioms bitsParts_holds
end Go.Proofs.Ytelgmihemnidkaa
