/- The document's own Join joins pieces, or refuses where one may not be. Conditions: the texts have together at most 2000 bytes. -/
import Derived.Test.YtelgmihemnidkaaI
import Derived.Deep.AppendLies
namespace Go.Proofs.Ytelgmihemnidkaa
open Go.RowKit

theorem IntsIn.front {w : World} {A : Option Addr} {n : Nat} {L : List Nat} (h : IntsIn w A n L) (k : Nat) (hk : k ≤ n) : IntsIn w A k (L.take k) := by
  refine ⟨by rw [List.length_take, h.1]; omega, fun h0 => ?_⟩
  obtain ⟨b, off, hA, hc⟩ := h.2 (by omega)
  refine ⟨b, off, hA, fun i hi => ?_⟩
  rw [hc i (by omega), List.getD_eq_getElem?_getD, List.getD_eq_getElem?_getD, List.getElem?_take, if_pos hi]

theorem hfar {w : World} {B b n : Nat} {v : Value} {xs : List Value} (h : w.ownsRow B 3 1 v n xs) (hb : b < B) (o : Nat) : some (⟨b, o, none⟩ : Addr).block ≠ v.ownBlock := by
  intro e
  have := (h.lt b e.symm).1
  omega

theorem append_ints (w : World) (B : Nat) (v : Value) (n : Nat) (xs : List Value) (hown : w.ownsRow B 3 1 v n xs) (A : Option Addr) (k c : Nat) (L : List Nat) (hi : IntsIn w A k L) (hnk : n + k ≤ 1000000000) (hB : B ≤ w.heap.size) :
    ∃ v' w', (Builtin.append_ #[26, 26] 26 #[v, .slice A k c]).run Try.prog w = .ok v' w' ∧ w'.ownsRow B 3 1 v' (n + k) (xs ++ L.map iv) ∧ w.grownBy w' v.ownBlock := by
  obtain ⟨i3, h3, hz0, hz1, hz2⟩ := info_parts Try.info3
  have hl := hi.1
  rcases A with _ | ad
  · have hk : k = 0 := by
      rcases Nat.eq_zero_or_pos k with h0 | h0
      · exact h0
      · obtain ⟨b, off, h, _⟩ := hi.2 h0
        cases h
    subst hk
    have hL : L = [] := List.eq_nil_of_length_eq_zero hl
    subst hL
    refine ⟨v, w, ?_, by simpa using hown, ⟨rfl, rfl, rfl, Nat.le_refl _, fun _ _ _ => rfl⟩⟩
    rcases hown.2 with ⟨rfl, rfl⟩ | ⟨g, cap, cur, rfl, _, _, hnc, _⟩
    · simp [Builtin.append_, run_underlying Try.underlying26, sizeOf, typeInfo, h3, Builtin.lenOf, Builtin.firstCells]
    · simp [Builtin.append_, run_underlying Try.underlying26, sizeOf, typeInfo, h3, Builtin.lenOf, Builtin.firstCells, hnc, storeCells]
  · have hnews : ∀ j u, (L.map iv)[j]? = some u → w.cell? (ad.add j) = some u := by
      intro j u hu
      have hjk : j < k := by
        have := (List.getElem?_eq_some_iff.1 hu).1
        rw [List.length_map] at this
        omega
      obtain ⟨b, off, he, hc⟩ := hi.2 (by omega)
      injection he with he
      subst he
      rw [Addr.add_lit, hc j hjk, ← hu, List.getElem?_map, List.getD_eq_getElem?_getD, List.getElem?_eq_getElem (by omega)]
      rfl
    obtain ⟨v', w', h1, h2, h4, _⟩ := run_append_own (P := Try.prog) w B 26 26 3 i3 (.int .i64 0) 1 8 Try.underlying26 h3 hz0 hz1 hz2 rfl (by decide) v n xs hown ad k c (L.map iv) (by rw [List.length_map, hl, Nat.mul_one]) hnews
      (fun u hu => by obtain ⟨q, _, rfl⟩ := List.mem_map.1 hu; rfl) (by unfold maxLen; omega) (by omega) hB
    exact ⟨v', w', h1, h2, h4⟩

/-- An append whose run is known, at a step of a statement whose order is open. -/
theorem step_append_run {ops : Array Oper} {o : Oper} {a : Act} {w w' : World} {K : Act → World → Prop} {Q : Exit → Act → World → Prop} {E : Prop} {v' : Value} (hgd : o.guard = none) (s x : Operand) (t : TypeId)
    (ho : o.op = .call { callee := .builtin .append, args := #[s, x], argTypes := #[t, t] }) (vs vx : Value) (hs : a.eval s = vs) (hx : a.eval x = vx)
    (hrun : (Builtin.append_ #[t, t] o.type #[vs, vx]).run Try.prog w = .ok v' w') (h : K (a.put o.dst v') w') :
    if Region.wanted o (yielded ops a.tmps) = true then Oper.wp Try.prog o a w K Q else E := by
  have hw : Region.wanted o (yielded ops a.tmps) = true := by simp [Region.wanted, hgd]
  rw [if_pos hw]
  unfold Oper.wp execOp
  simp only [ho, resolve, invoke, builtin, Sem.run_bind, Sem.run_pure, Result.andThen_ok, List.map_toArray, List.map_cons, List.map_nil, hs, hx, hrun]
  exact h

theorem slice_front (A : Option Addr) (n k c : Nat) (h : k ≤ c) (w : World) : (Instr.slice 26 (.slice A n c) none (some (.int .i64 k)) none).run Try.prog w = .ok (.slice A k c) w := by
  obtain ⟨i3, h3, _⟩ := info_parts Try.info3
  have h1 : (k : Int) ≤ (c : Int) := by omega
  unfold Instr.slice
  simp [run_underlying Try.underlying26, Instr.sliceBounds, go_sem, h1, sizeOf, typeInfo, h3]

set_option maxHeartbeats 800000 in
theorem rjoin_ok (w : World) (A : Option Addr) (n c : Nat) (T : Nat → ByteArray) (K : Nat → Int) (hp : PairsIn w w.heap.size A n (fun i => .string (T i)) (fun i => .int .i64 (K i))) (hn : n ≤ maxLen)
    (htot : totS T n ≤ 2000) (hK : ∀ i, i < n → -9223372036854775808 ≤ K i ∧ K i ≤ 9223372036854775807) (hall : ∀ i, i < n → mayB (T i) (K i) = true) :
    Calls Try.prog 28 #[.slice A n c] w (SlicePost w (pack (joinL T K n)) (joinL T K n).length 0) := by
  unfold maxLen at hn
  have hk1 : Blk (w.alloc (.cells #[.string ⟨#[]⟩, .int .i64 0] 54)) w.heap.size 54 #[.string ⟨#[]⟩, .int .i64 0] := blk_new w 54 _
  have hb1 : Below w.heap.size w (w.alloc (.cells #[.string ⟨#[]⟩, .int .i64 0] 54)) := (Below.refl _ _).alloc (Nat.le_refl _) _
  go_enter Try.func28, Try.ntmps28
  go_wp2_with fail
  go_loopw [4, 5] (fun va i wr => ∃ j : Nat, j ≤ n ∧ i = .int .i64 j ∧ wr.ownsRow w.heap.size 3 1 va (joinL T K j).length ((joinL T K j).map iv) ∧ Blk wr w.heap.size 54 #[.string ⟨#[]⟩, .int .i64 0] ∧ Below w.heap.size w wr) (fun _ i _ => n - (intOf i).toNat)
  case atStart => exact ⟨0, Nat.zero_le _, rfl, World.ownsRow_nil _ _ _ _, hk1, hb1⟩
  case round =>
    obtain ⟨j, hj, rfl, hown, hk, hb⟩ := hrel
    have hjl := joinL_length T K j
    have hjt := totS_mono T hj
    have hz := hb.size
    obtain ⟨Aa, ca, hva, hca, hcm, hAa⟩ := own_slice hown
    rw [hva] at hown ⊢
    have HVA := Lib.hid hva
    clear hva
    by_cases h : j < n
    · obtain ⟨b, off, rfl, hbB, hc⟩ := hp (by omega)
      obtain ⟨k, hkk, hk8⟩ := may_nat (hall j h)
      have hTj := totS_at T h
      have hmay := rmay_walk wr (T j) (K j) (by omega) (hK j h)
      rw [hall j h, hkk] at hmay
      have g1 : wr.cell? ⟨b, off + j * 2, none⟩ = some (.string (T j)) := (hb.cell (p := ⟨b, off + j * 2, none⟩) hbB).trans (hc j h).1
      have g2 : wr.cell? ⟨b, off + j * 2 + 1, none⟩ = some (.int .i64 k) := by rw [← hkk]; exact (hb.cell (p := ⟨b, off + j * 2 + 1, none⟩) hbB).trans (hc j h).2
      have HM := Lib.hid hmay
      have HKK := Lib.hid hkk
      clear hmay hkk hc
      go_wp2_with fail
      refine HM.out.mono ?_
      rintro e w2 ⟨rfl, hb2⟩
      have hs2 := step_of_below hb2
      have ho2 : w2.drew.ownsRow _ _ _ _ _ _ := hs2.row hown (by simp) (by simp)
      have hk2 : Blk w2.drew w.heap.size 54 #[.string ⟨#[]⟩, .int .i64 0] := hs2.blk hk (by simp) (by simp)
      have hbl2 : Below w.heap.size w w2.drew := (hb.trans (hb2.mono hz)).drew
      have e1 : w2.cell? ⟨b, off + j * 2, none⟩ = some (.string (T j)) := (hb2.cell (p := ⟨b, off + j * 2, none⟩) (by show b < _; omega)).trans g1
      have e2 : w2.cell? ⟨b, off + j * 2 + 1, none⟩ = some (.int .i64 k) := (hb2.cell (p := ⟨b, off + j * 2 + 1, none⟩) (by show b < _; omega)).trans g2
      have hz2 := hbl2.size
      have hz2' : w2.drew.heap.size = w2.heap.size := rfl
      go_upto_region 7 with fail
      go_region_held3 (fun w' => w'.cell? ⟨b, off + j * 2, none⟩ = some (.string (T j)) ∧ w'.cell? ⟨b, off + j * 2 + 1, none⟩ = some (.int .i64 k)) (first | exact ⟨e1, e2⟩ | exact ⟨d1, d2⟩ | exact ⟨(hb3.cell (p := ⟨b, off + j * 2, none⟩) (by show b < _; omega)).trans e1, (hb3.cell (p := ⟨b, off + j * 2 + 1, none⟩) (by show b < _; omega)).trans e2⟩ | go_keep)
        (first | (refine step_append_run rfl _ _ 26 rfl _ _ rfl rfl hrun ?_) | (go_at_call 18; refine (of_any _ (T j) (by omega)).mono ?_; rintro e w3 ⟨v3, rfl, ho3, hb3⟩; obtain ⟨Al, cl, hv3, hcl3, hcm3, _⟩ := own_slice ho3; rw [hv3] at ho3 ⊢; have HV3 := Lib.hid hv3; clear hv3; have hbl3 : Below w.heap.size w w3 := hbl2.trans (hb3.mono hz2); have ho2' := (step_of_below hb3).row ho2 (by simp) (by simp); have hlc : k ≤ cl := (by omega); have hIn := (ints_of_own ho3).front k (by omega); obtain ⟨v4, w4, hrun, ho4, hg4⟩ := append_ints w3 w.heap.size _ _ _ ho2' Al k cl _ hIn (by omega) hbl3.size; have hsl := slice_front Al (8 * (T j).size) k cl hlc; have d1 : w4.cell? ⟨b, off + j * 2, none⟩ = some (.string (T j)) := ((hg4.cell_far ⟨b, off + j * 2, none⟩ (by show b < _; have := hbl3.size; omega) (hfar ho2' hbB _)).trans ((hb3.cell (p := ⟨b, off + j * 2, none⟩) (by show b < _; omega)).trans e1)); have d2 : w4.cell? ⟨b, off + j * 2 + 1, none⟩ = some (.int .i64 k) := ((hg4.cell_far ⟨b, off + j * 2 + 1, none⟩ (by show b < _; have := hbl3.size; omega) (hfar ho2' hbB _)).trans ((hb3.cell (p := ⟨b, off + j * 2 + 1, none⟩) (by show b < _; omega)).trans e2))))
      have hs4 : Step w.heap.size [] [3] w3 w4 := (Step.refl _ _ _ _).grown hg4 hbl3.size (row_blk ho2')
      have hk4 := hs4.blk ((step_of_below hb3).blk hk2 (by simp) (by simp)) (by simp) (by decide)
      have hbl4 := hbl3.trans hs4.below
      have ho5 : w4.ownsRow w.heap.size 3 1 v4 (joinL T K (j + 1)).length ((joinL T K (j + 1)).map iv) := by
        have hl : ((bitsB (T j).data.toList).take k).length = k := by
          have hbl' : (bitsB (T j).data.toList).length = 8 * (T j).size := by rw [bitsB_length]; rfl
          rw [List.length_take, hbl']; omega
        rw [joinL, HKK.out, Int.toNat_natCast, List.length_append, hl, List.map_append]
        exact ho4
      clear hrun ho4 hg4 hsl d1 d2
      go_wp2_with fail
      go_roundw
      case rel => exact ⟨j + 1, h, by go_num, ho5, hk4, hbl4⟩
      case measure => simp [intOf]; omega
    · obtain rfl : j = n := by omega
      have HI := Lib.hid (ints_of_own hown)
      go_wp2_with fail
      refine (text_any _ _ _ _ (joinL T K j) HI.out (bit01_joinL T K j) (by omega)).mono ?_
      rintro e w5 ⟨rfl, hb5⟩
      have hk5 := (step_of_below hb5).blk hk (by simp) (by simp)
      have hbl5 : Below w.heap.size w w5 := hb.trans (hb5.mono hz)
      have q0 : w5.cell? ⟨w.heap.size, 0, none⟩ = some (.string ⟨#[]⟩) := blk_cell hk5 0
      have q1 : w5.cell? ⟨w.heap.size, 1, none⟩ = some (.int .i64 0) := blk_cell hk5 1
      have f0 := blk_frozen hk5 0
      have f1 := blk_frozen hk5 1
      go_wp2_with fail
      refine bodyPost_ret (v := .tuple #[.agg #[.string ⟨(pack (joinL T K j)).toArray⟩, .int .i64 (joinL T K j).length], .int .i64 0]) ?_ rfl ⟨rfl, ?_⟩
      · simp [results, Try.results28, go_sem, q0, q1]
      · exact (hbl5.setCell (p := ⟨w.heap.size, 0, none⟩) (Nat.le_refl _) _).setCell (p := ⟨w.heap.size, 1, none⟩) (Nat.le_refl _) _

set_option maxHeartbeats 800000 in
theorem rjoin_bad (w : World) (A : Option Addr) (n c : Nat) (T : Nat → ByteArray) (K : Nat → Int) (hp : PairsIn w w.heap.size A n (fun i => .string (T i)) (fun i => .int .i64 (K i))) (hn : n ≤ maxLen)
    (htot : totS T n ≤ 2000) (hK : ∀ i, i < n → -9223372036854775808 ≤ K i ∧ K i ≤ 9223372036854775807) (j0 : Nat) (hj0 : j0 < n) (hbad : mayB (T j0) (K j0) = false) (hall : ∀ i, i < j0 → mayB (T i) (K i) = true) :
    Calls Try.prog 28 #[.slice A n c] w (SlicePost w [] 0 2) := by
  unfold maxLen at hn
  have hk1 : Blk (w.alloc (.cells #[.string ⟨#[]⟩, .int .i64 0] 54)) w.heap.size 54 #[.string ⟨#[]⟩, .int .i64 0] := blk_new w 54 _
  have hb1 : Below w.heap.size w (w.alloc (.cells #[.string ⟨#[]⟩, .int .i64 0] 54)) := (Below.refl _ _).alloc (Nat.le_refl _) _
  go_enter Try.func28, Try.ntmps28
  go_wp2_with fail
  go_loopw [4, 5] (fun va i wr => ∃ j : Nat, j ≤ j0 ∧ i = .int .i64 j ∧ wr.ownsRow w.heap.size 3 1 va (joinL T K j).length ((joinL T K j).map iv) ∧ Blk wr w.heap.size 54 #[.string ⟨#[]⟩, .int .i64 0] ∧ Below w.heap.size w wr) (fun _ i _ => n - (intOf i).toNat)
  case atStart => exact ⟨0, Nat.zero_le _, rfl, World.ownsRow_nil _ _ _ _, hk1, hb1⟩
  case round =>
    obtain ⟨j, hj, rfl, hown, hk, hb⟩ := hrel
    have hjl := joinL_length T K j
    have hjt := totS_mono T (Nat.le_trans hj (Nat.le_of_lt hj0))
    have hjn0 : j < n := by omega
    have hz := hb.size
    obtain ⟨Aa, ca, hva, hca, hcm, hAa⟩ := own_slice hown
    rw [hva] at hown ⊢
    have HVA := Lib.hid hva
    clear hva
    obtain ⟨b, off, rfl, hbB, hc⟩ := hp (by omega)
    by_cases h : j < j0
    · obtain ⟨k, hkk, hk8⟩ := may_nat (hall j h)
      have hTj := totS_at T hjn0
      have hmay := rmay_walk wr (T j) (K j) (by omega) (hK j hjn0)
      rw [hall j h, hkk] at hmay
      have g1 : wr.cell? ⟨b, off + j * 2, none⟩ = some (.string (T j)) := (hb.cell (p := ⟨b, off + j * 2, none⟩) hbB).trans (hc j hjn0).1
      have g2 : wr.cell? ⟨b, off + j * 2 + 1, none⟩ = some (.int .i64 k) := by rw [← hkk]; exact (hb.cell (p := ⟨b, off + j * 2 + 1, none⟩) hbB).trans (hc j hjn0).2
      have HM := Lib.hid hmay
      have HKK := Lib.hid hkk
      clear hmay hkk hc
      go_wp2_with fail
      refine HM.out.mono ?_
      rintro e w2 ⟨rfl, hb2⟩
      have hs2 := step_of_below hb2
      have ho2 : w2.drew.ownsRow _ _ _ _ _ _ := hs2.row hown (by simp) (by simp)
      have hk2 : Blk w2.drew w.heap.size 54 #[.string ⟨#[]⟩, .int .i64 0] := hs2.blk hk (by simp) (by simp)
      have hbl2 : Below w.heap.size w w2.drew := (hb.trans (hb2.mono hz)).drew
      have e1 : w2.cell? ⟨b, off + j * 2, none⟩ = some (.string (T j)) := (hb2.cell (p := ⟨b, off + j * 2, none⟩) (by show b < _; omega)).trans g1
      have e2 : w2.cell? ⟨b, off + j * 2 + 1, none⟩ = some (.int .i64 k) := (hb2.cell (p := ⟨b, off + j * 2 + 1, none⟩) (by show b < _; omega)).trans g2
      have hz2 := hbl2.size
      have hz2' : w2.drew.heap.size = w2.heap.size := rfl
      go_upto_region 7 with fail
      go_region_held3 (fun w' => w'.cell? ⟨b, off + j * 2, none⟩ = some (.string (T j)) ∧ w'.cell? ⟨b, off + j * 2 + 1, none⟩ = some (.int .i64 k)) (first | exact ⟨e1, e2⟩ | exact ⟨d1, d2⟩ | exact ⟨(hb3.cell (p := ⟨b, off + j * 2, none⟩) (by show b < _; omega)).trans e1, (hb3.cell (p := ⟨b, off + j * 2 + 1, none⟩) (by show b < _; omega)).trans e2⟩ | go_keep)
        (first | (refine step_append_run rfl _ _ 26 rfl _ _ rfl rfl hrun ?_) | (go_at_call 18; refine (of_any _ (T j) (by omega)).mono ?_; rintro e w3 ⟨v3, rfl, ho3, hb3⟩; obtain ⟨Al, cl, hv3, hcl3, hcm3, _⟩ := own_slice ho3; rw [hv3] at ho3 ⊢; have HV3 := Lib.hid hv3; clear hv3; have hbl3 : Below w.heap.size w w3 := hbl2.trans (hb3.mono hz2); have ho2' := (step_of_below hb3).row ho2 (by simp) (by simp); have hlc : k ≤ cl := (by omega); have hIn := (ints_of_own ho3).front k (by omega); obtain ⟨v4, w4, hrun, ho4, hg4⟩ := append_ints w3 w.heap.size _ _ _ ho2' Al k cl _ hIn (by omega) hbl3.size; have hsl := slice_front Al (8 * (T j).size) k cl hlc; have d1 : w4.cell? ⟨b, off + j * 2, none⟩ = some (.string (T j)) := ((hg4.cell_far ⟨b, off + j * 2, none⟩ (by show b < _; have := hbl3.size; omega) (hfar ho2' hbB _)).trans ((hb3.cell (p := ⟨b, off + j * 2, none⟩) (by show b < _; omega)).trans e1)); have d2 : w4.cell? ⟨b, off + j * 2 + 1, none⟩ = some (.int .i64 k) := ((hg4.cell_far ⟨b, off + j * 2 + 1, none⟩ (by show b < _; have := hbl3.size; omega) (hfar ho2' hbB _)).trans ((hb3.cell (p := ⟨b, off + j * 2 + 1, none⟩) (by show b < _; omega)).trans e2))))
      have hs4 : Step w.heap.size [] [3] w3 w4 := (Step.refl _ _ _ _).grown hg4 hbl3.size (row_blk ho2')
      have hk4 := hs4.blk ((step_of_below hb3).blk hk2 (by simp) (by simp)) (by simp) (by decide)
      have hbl4 := hbl3.trans hs4.below
      have ho5 : w4.ownsRow w.heap.size 3 1 v4 (joinL T K (j + 1)).length ((joinL T K (j + 1)).map iv) := by
        have hl : ((bitsB (T j).data.toList).take k).length = k := by
          have hbl' : (bitsB (T j).data.toList).length = 8 * (T j).size := by rw [bitsB_length]; rfl
          rw [List.length_take, hbl']; omega
        rw [joinL, HKK.out, Int.toNat_natCast, List.length_append, hl, List.map_append]
        exact ho4
      clear hrun ho4 hg4 hsl d1 d2
      go_wp2_with fail
      go_roundw
      case rel => exact ⟨j + 1, h, by go_num, ho5, hk4, hbl4⟩
      case measure => simp [intOf]; omega
    · obtain rfl : j = j0 := by omega
      have hTj := totS_at T hjn0
      have hmay := rmay_walk wr (T j) (K j) (by omega) (hK j hjn0)
      rw [hbad] at hmay
      have g1 : wr.cell? ⟨b, off + j * 2, none⟩ = some (.string (T j)) := (hb.cell (p := ⟨b, off + j * 2, none⟩) hbB).trans (hc j hjn0).1
      have g2 : wr.cell? ⟨b, off + j * 2 + 1, none⟩ = some (.int .i64 (K j)) := (hb.cell (p := ⟨b, off + j * 2 + 1, none⟩) hbB).trans (hc j hjn0).2
      have HM := Lib.hid hmay
      have HB := Lib.hid hbad
      clear hmay hbad hc
      go_wp2_with fail
      refine HM.out.mono ?_
      rintro e w2 ⟨rfl, hb2⟩
      have hk2 := (step_of_below hb2).blk hk (by simp) (by simp)
      have hbl2 : Below w.heap.size w w2 := hb.trans (hb2.mono hz)
      have q0 : w2.cell? ⟨w.heap.size, 0, none⟩ = some (.string ⟨#[]⟩) := blk_cell hk2 0
      have q1 : w2.cell? ⟨w.heap.size, 1, none⟩ = some (.int .i64 0) := blk_cell hk2 1
      have f0 := blk_frozen hk2 0
      have f1 := blk_frozen hk2 1
      go_wp2_with fail
      refine bodyPost_ret (v := .tuple #[.agg #[.string ⟨#[]⟩, .int .i64 0], .int .i64 2]) ?_ rfl ⟨rfl, ?_⟩
      · simp [results, Try.results28, go_sem, q0, q1]
      · exact (hbl2.setCell (p := ⟨w.heap.size, 0, none⟩) (Nat.le_refl _) _).setCell (p := ⟨w.heap.size, 1, none⟩) (Nat.le_refl _) _

end Go.Proofs.Ytelgmihemnidkaa
