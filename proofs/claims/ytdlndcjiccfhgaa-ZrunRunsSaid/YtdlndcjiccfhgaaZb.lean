/- The reference's Encode. Conditions: at most two million places. -/
import Derived.Test.YtdlndcjiccfhgaaZa
import Derived.Lib.AppendZeros
namespace Go.Proofs.Ytdlndcjiccfhgaa
open Go.RowKit

theorem enc_zero (n r : Nat) (l : List Nat) : encZ n r (0 :: l) = encZ n (r + 1) l := by
  rw [encZ, if_pos rfl]
theorem enc_more (n r x : Nat) (l : List Nat) (h : x ≠ 0) : encZ n r (x :: l) = dig r ++ (x + 1) :: encZ n 0 l := by
  rw [encZ, if_neg h]
theorem take_snoc_int (L : List Int) (q : Nat) (h : q < L.length) : L.take (q + 1) = L.take q ++ [L.getD q 0] := by
  rw [List.take_succ_eq_append_getElem h, List.getD_eq_getElem?_getD, List.getElem?_eq_getElem h]
  rfl
theorem drop_cons_nat (L : List Int) (q : Nat) (h : q < L.length) : (L.map Int.toNat).drop q = (L.getD q 0).toNat :: (L.map Int.toNat).drop (q + 1) := by
  have h1 : q < (L.map Int.toNat).length := by rw [List.length_map]; exact h
  rw [List.drop_eq_getElem_cons h1, List.getElem_map, List.getD_eq_getElem?_getD, List.getElem?_eq_getElem h]
  rfl

/-- Two appends behind each other, the second of one number that was made before the first or behind it. -/
theorem append_two (w : World) (B : Nat) (v : Value) (n : Nat) (xs : List Value) (hown : w.ownsRow B 3 1 v n xs) (A : Option Addr) (k c : Nat) (L : List Nat) (hi : IntsIn w A k L) (x : Nat) (hnk : n + k ≤ 100000000) (hB : B ≤ w.heap.size) :
    (∃ v4 w4 v5 w5, (Builtin.append_ #[22, 22] 22 #[v, .slice A k c]).run Try.prog w = .ok v4 w4 ∧ (Builtin.append_ #[22, 22] 22 #[v4, .slice (some ⟨w4.heap.size, 0, none⟩) 1 1]).run Try.prog (w4.alloc (.cells #[.int .i64 x] 3)) = .ok v5 w5 ∧
      w5.ownsRow B 3 1 v5 (n + k + 1) (xs ++ L.map iv ++ [iv x]) ∧ Below B w w4 ∧ Below B w w5) ∧
    (∃ v4 w4 v5 w5, (Builtin.append_ #[22, 22] 22 #[v, .slice A k c]).run Try.prog (w.alloc (.cells #[.int .i64 x] 3)) = .ok v4 w4 ∧ (Builtin.append_ #[22, 22] 22 #[v4, .slice (some ⟨w.heap.size, 0, none⟩) 1 1]).run Try.prog w4 = .ok v5 w5 ∧
      w5.ownsRow B 3 1 v5 (n + k + 1) (xs ++ L.map iv ++ [iv x]) ∧ Below B w w4 ∧ Below B w w5) := by
  have one : ∀ w0 : World, IntsIn (w0.alloc (.cells #[.int .i64 x] 3)) (some ⟨w0.heap.size, 0, none⟩) 1 [x] := by
    intro w0
    refine ⟨rfl, fun _ => ⟨w0.heap.size, 0, rfl, fun i hi => ?_⟩⟩
    have : i = 0 := by omega
    subst this
    rw [blk_cell (blk_new w0 3 _)]
    rfl
  constructor
  · obtain ⟨v4, w4, h4, ho4, hg4⟩ := append_ints w B v n xs hown A k c L hi (by omega) hB
    have hb4 : Below B w w4 := (Below.refl B w).grown hg4 hB (fun k hk => (hown.lt k hk).1)
    have hz4 := hb4.size
    obtain ⟨v5, w5, h5, ho5, hg5⟩ := append_ints (w4.alloc (.cells #[.int .i64 x] 3)) B v4 (n + k) _ (ho4.alloc _) (some ⟨w4.heap.size, 0, none⟩) 1 1 [x] (one w4) (by omega) (by simp; omega)
    have hb5 : Below B w w5 := (hb4.alloc (by omega) _).grown hg5 (by simp; omega) (fun k hk => (ho4.lt k hk).1)
    exact ⟨v4, w4, v5, w5, h4, h5, ho5, hb4, hb5⟩
  · have hba : Below B w (w.alloc (.cells #[.int .i64 x] 3)) := (Below.refl B w).alloc hB _
    have hbw : Below w.heap.size w (w.alloc (.cells #[.int .i64 x] 3)) := (Below.refl _ w).alloc (Nat.le_refl _) _
    obtain ⟨v4, w4, h4, ho4, hg4⟩ := append_ints (w.alloc (.cells #[.int .i64 x] 3)) B v n xs (hown.alloc _) A k c L (ints_low hi hbw) (by omega) (by simp; omega)
    have hb4 : Below B w w4 := hba.grown hg4 (by simp; omega) (fun k hk => (hown.lt k hk).1)
    have h1 : IntsIn w4 (some ⟨w.heap.size, 0, none⟩) 1 [x] := by
      refine ⟨rfl, fun _ => ⟨w.heap.size, 0, rfl, fun i hi => ?_⟩⟩
      have hb : w4.heap[w.heap.size]? = (w.alloc (.cells #[.int .i64 x] 3)).heap[w.heap.size]? := hg4.block w.heap.size (by simp) (fun e => by
        have := (hown.lt w.heap.size e.symm).2
        omega)
      have i0 : i = 0 := by omega
      subst i0
      rw [World.cell?_of_block (a := ⟨w.heap.size, 0 + 0, none⟩) hb, blk_cell (blk_new w 3 _)]
      rfl
    have hz4 := hb4.size
    obtain ⟨v5, w5, h5, ho5, hg5⟩ := append_ints w4 B v4 (n + k) _ ho4 (some ⟨w.heap.size, 0, none⟩) 1 1 [x] h1 (by omega) (by omega)
    have hb5 : Below B w w5 := hb4.grown hg5 (by omega) (fun k hk => (ho4.lt k hk).1)
    exact ⟨v4, w4, v5, w5, h4, h5, ho5, hb4, hb5⟩

theorem renc_out (w : World) (A : Option Addr) (m c : Nat) (n : Int) (h : n < 1 ∨ 256 < n) : Calls Try.prog 13 #[.int .i64 n, .slice A m c] w (ListPost w ([], 2)) := by
  by_cases h1 : n < 1
  · have d0 : decide (n < 1) = true := decide_eq_true h1
    clear h
    go_enter Try.func13, Try.ntmps13
    go_wp2_with fail
    go_ret2
    exact ⟨_, rfl, World.ownsRow_nil _ _ _ _, Below.refl _ _⟩
  · have h2 : 256 < n := h.resolve_left h1
    have d0 : decide (n < 1) = false := decide_eq_false h1
    have d1 : decide (256 < n) = true := decide_eq_true h2
    clear h
    go_enter Try.func13, Try.ntmps13
    go_wp2_with fail
    go_ret2
    exact ⟨_, rfl, World.ownsRow_nil _ _ _ _, Below.refl _ _⟩

set_option maxHeartbeats 1600000 in
set_option maxRecDepth 100000 in
theorem renc_any (w : World) (A : Option Addr) (m c : Nat) (L : List Int) (n : Nat) (hL : ZIn w A m L) (hmc : m ≤ c) (hm : m ≤ 2000000) (hn : 1 ≤ n) (hn2 : n ≤ 256) : Calls Try.prog 13 #[.int .i64 n, .slice A m c] w (ListPost w (encAns n L)) := by
  have d0 : decide ((n : Int) < 1) = false := decide_eq_false (by omega)
  have d1 : decide ((256 : Int) < (n : Int)) = false := decide_eq_false (by omega)
  have HANS := Lib.hid (show encAns (n : Int) L = if ∀ x ∈ L, 0 ≤ x ∧ x < (n : Int) then (encZ n 0 (L.map Int.toNat), 0) else ([], 60) by unfold encAns; rw [if_neg (by omega), Int.toNat_natCast])
  have HL := Lib.hid hL
  have HRUN := Lib.hid rrun_any
  have hlm := hL.1
  have HLM := Lib.hid hlm
  clear hL hlm
  generalize encAns (n : Int) L = ans at *
  go_enter Try.func13, Try.ntmps13
  go_wp2_with fail
  go_loopw [6, 7, 8] (fun out r i wx => ∃ (q k : Nat) (o : List Nat), q ≤ m ∧ i = .int .i64 q ∧ r = .int .i64 k ∧ wx.ownsRow w.heap.size 3 1 out o.length (o.map iv) ∧ o.length + k ≤ q ∧ Hid (encZ n 0 (L.map Int.toNat) = o ++ encZ n k ((L.map Int.toNat).drop q)) ∧ Hid (∀ x ∈ L.take q, 0 ≤ x ∧ x < (n : Int)) ∧ Below w.heap.size w wx) (fun _ _ i _ => m - (intOf i).toNat)
  case atStart => exact ⟨0, 0, [], Nat.zero_le _, rfl, rfl, World.ownsRow_nil _ _ _ _, Nat.le_refl _, by simp [Hid], by simp [Hid], Below.refl _ _⟩
  case round =>
    obtain ⟨q, k, o, hq, rfl, rfl, hown, hok, henc, hval, hb⟩ := hrel
    have hz9 := hb.size
    obtain ⟨A0, c0, rfl, hn0, hm0, hA0⟩ := own_slice hown
    clear hA0
    unfold maxLen at hm0
    have HB := Lib.hid hb
    by_cases e : q < m
    · have d2 : decide ((q : Int) < (m : Int)) = true := decide_eq_true (by omega)
      obtain ⟨b, off, rfl, hc⟩ := HL.out.2 (by omega)
      have hcw := hc q e
      have hlt := World.block_lt_of_cell? w _ hcw
      have htk := take_snoc_int L q (by rw [HLM.out]; exact e)
      have hdr := drop_cons_nat L q (by rw [HLM.out]; exact e)
      obtain ⟨x, hx⟩ : ∃ x, x = L.getD q 0 := ⟨_, rfl⟩
      rw [← hx] at hcw htk hdr
      have hcq := (hb.cell (p := ⟨b, off + q, none⟩) hlt).trans hcw
      have HCW := Lib.hid hcw
      have HTK := Lib.hid htk
      have HDR := Lib.hid hdr
      have HO := Lib.hid hown
      clear hc hx hcw htk hdr hb hown
      by_cases e1 : 0 ≤ x ∧ x < n
      · obtain ⟨y, rfl⟩ : ∃ y : Nat, x = y := ⟨x.toNat, by omega⟩
        have d3 : decide ((y : Int) < 0) = false := decide_eq_false (by omega)
        have hyn : y < n := by omega
        have hny : ¬ n ≤ y := by omega
        have d4 : decide ((n : Int) ≤ (y : Int)) = false := decide_eq_false (by omega)
        have hval2 : ∀ x ∈ L.take (q + 1), 0 ≤ x ∧ x < (n : Int) := by
          rw [HTK.out]
          intro x hx
          rcases List.mem_append.1 hx with hx | hx
          · exact hval.out x hx
          · rw [List.mem_singleton.1 hx]
            exact e1
        have HV2 := Lib.hid hval2
        clear hval2 e1
        by_cases h0 : y = 0
        · subst h0
          have henc2 : encZ n 0 (L.map Int.toNat) = o ++ encZ n (k + 1) ((L.map Int.toNat).drop (q + 1)) := by
            rw [henc.out, HDR.out, show ((0 : Nat) : Int).toNat = 0 from rfl, enc_zero]
          have HE2 := Lib.hid henc2
          clear henc2
          go_wp2_with fail
          go_roundw
          case rel => exact ⟨q + 1, k + 1, o, by omega, by go_num, by go_num, HO.out, by omega, HE2, HV2, HB.out⟩
          case measure => simp [intOf]; omega
        · have d5 : ((y : Int) == 0) = false := by
            rw [beq_eq_false_iff_ne]
            omega
          have henc2 : encZ n 0 (L.map Int.toNat) = (o ++ dig k ++ [y + 1]) ++ encZ n 0 ((L.map Int.toNat).drop (q + 1)) := by
            rw [henc.out, HDR.out, Int.toNat_natCast, enc_more n k y _ h0]
            simp
          have HE2 := Lib.hid henc2
          have HRU := Lib.hid (HRUN.out wr k (by omega))
          have hdl := dig_le k
          obtain ⟨y1, hy1⟩ : ∃ y1, y1 = y + 1 := ⟨_, rfl⟩
          have hyw : ((y : Int) + 1) = (y1 : Int) := by omega
          have hww : IntKind.i64.wrap (y1 : Int) = (y1 : Int) := by rw [IntKind.wrap_i64]; omega
          have HY1 := Lib.hid hy1
          obtain ⟨N, hN⟩ : ∃ N, N = o.length := ⟨_, rfl⟩
          obtain ⟨X, hX⟩ : ∃ X, X = o.map iv := ⟨_, rfl⟩
          rw [← hN, ← hX] at HO
          have HN := Lib.hid hN
          have HX := Lib.hid hX
          rw [← hN] at hok hn0 ⊢
          clear henc2 hN hX hy1
          go_wp2_with fail
          refine HRU.out.mono ?_
          rintro e w3 ⟨v3, rfl, ho3, hb3⟩
          obtain ⟨A3, c3, rfl, _, _, _⟩ := own_slice ho3
          have hi3 := ints_of_own ho3
          have hO3 := (step_of_below hb3).row HO.out (fun _ _ => List.not_mem_nil) List.not_mem_nil
          have hcq3 := ((HB.out.trans (hb3.mono hz9)).cell (p := ⟨b, off + q, none⟩) hlt).trans HCW.out
          have hz3 : w.heap.size ≤ w3.heap.size := Nat.le_trans hz9 hb3.size
          have hO3d : w3.drew.ownsRow w.heap.size 3 1 (.slice A0 N c0) N X := hO3
          have hi3d : IntsIn w3.drew A3 (dig k).length (dig k) := hi3
          obtain ⟨⟨v4, w4, v5, w5, r1, r2, ho5, hb4, hb5⟩, ⟨v4', w4', v5', w5', r1', r2', ho5', hb4', hb5'⟩⟩ := append_two w3.drew w.heap.size _ N X hO3d A3 (dig k).length c3 (dig k) hi3d y1 (by omega) hz3
          have hq4 := (hb4.cell (p := ⟨b, off + q, none⟩) hlt).trans hcq3
          have hq4' := (hb4'.cell (p := ⟨b, off + q, none⟩) hlt).trans hcq3
          have hq5 := (hb5.cell (p := ⟨b, off + q, none⟩) hlt).trans hcq3
          have hq5' := (hb5'.cell (p := ⟨b, off + q, none⟩) hlt).trans hcq3
          have hqd : w3.drew.cell? ⟨b, off + q, none⟩ = some (.int .i64 y) := hcq3
          dsimp only
          have s1 : (Builtin.append_ #[22, 22] 22 #[.slice A0 N c0, .slice A3 (dig k).length c3]).run Try.prog (w3.alloc (.cells #[.int .i64 y1] 3)).drew = .ok v4' w4' := r1'
          have s2 : (Builtin.append_ #[22, 22] 22 #[v4', .slice (some ⟨w3.heap.size, 0, none⟩) 1 1]).run Try.prog w4' = .ok v5' w5' := r2'
          clear r1' r2'
          have hrow : ∀ (v6 : Value) (w6 : World), w6.ownsRow w.heap.size 3 1 v6 (N + (dig k).length + 1) (X ++ (dig k).map iv ++ [iv y1]) → w6.ownsRow w.heap.size 3 1 v6 (o ++ dig k ++ [y + 1]).length ((o ++ dig k ++ [y + 1]).map iv) := by
            intro v6 w6 h
            rw [List.length_append, List.length_append, List.map_append, List.map_append, ← HN.out, ← HX.out]
            rw [HY1.out] at h
            exact h
          have hlen : (o ++ dig k ++ [y + 1]).length + 0 ≤ q + 1 := by
            rw [List.length_append, List.length_append, ← HN.out]
            show N + (dig k).length + 1 + 0 ≤ q + 1
            omega
          have HBW := Lib.hid ((HB.out.trans (hb3.mono hz9)).drew)
          have HO5 := Lib.hid (hrow v5 w5 ho5)
          have HO5' := Lib.hid (hrow v5' w5' ho5')
          have HB5 := Lib.hid (HBW.out.trans hb5)
          have HB5' := Lib.hid (HBW.out.trans hb5')
          clear hrow ho5 ho5' hb4 hb4' hb5 hb5' hO3d hi3d hi3 hO3 ho3 hb3
          go_upto_region 13 with fail
          go_region_held3 (fun w' => w'.cell? ⟨b, off + q, none⟩ = some (.int .i64 y)) (first | with_reducible exact hqd | with_reducible exact hq4 | with_reducible exact hq4' | with_reducible exact hq5 | with_reducible exact hq5' | go_keep)
            (first | (refine step_append_run (v' := v4) (w' := w4) rfl (.tmp 50) (.tmp 51) 22 rfl (.slice A0 N c0) (.slice A3 (dig k).length c3) rfl rfl ?hr ?_; case hr => (dsimp only; with_reducible exact r1)) | (refine step_append_run (v' := v4') (w' := w4') rfl (.tmp 50) (.tmp 51) 22 rfl (.slice A0 N c0) (.slice A3 (dig k).length c3) rfl rfl ?hr ?_; case hr => (dsimp only; with_reducible exact s1)) | (refine step_append_run (v' := v5) (w' := w5) rfl (.tmp 52) (.tmp 58) 22 rfl v4 (.slice (some ⟨w4.heap.size, 0, none⟩) 1 1) rfl rfl ?hr ?_; case hr => (dsimp only; with_reducible exact r2)) | (refine step_append_run (v' := v5') (w' := w5') rfl (.tmp 52) (.tmp 58) 22 rfl v4' (.slice (some ⟨w3.heap.size, 0, none⟩) 1 1) rfl rfl ?hr ?_; case hr => (dsimp only; with_reducible exact s2)))
          all_goals (go_wp2_with fail; go_roundw)
          all_goals first
            | exact ⟨q + 1, 0, o ++ dig k ++ [y + 1], by omega, by go_num, rfl, HO5.out, hlen, HE2, HV2, HB5.out⟩
            | exact ⟨q + 1, 0, o ++ dig k ++ [y + 1], by omega, by go_num, rfl, HO5'.out, hlen, HE2, HV2, HB5'.out⟩
            | (simp [intOf]; omega)
      · have hno : ans = ([], 60) := by
          rw [HANS.out, if_neg]
          intro hall
          have : x ∈ L := by
            have h1 : x ∈ L.take (q + 1) := by rw [HTK.out]; exact List.mem_append_right _ (List.mem_singleton.2 rfl)
            exact List.mem_of_mem_take h1
          exact e1 (hall x this)
        subst hno
        by_cases e2 : x < 0
        · have d3 : decide (x < 0) = true := decide_eq_true e2
          clear e1
          go_wp2_with fail
          go_ret2
          exact ⟨_, rfl, World.ownsRow_nil _ _ _ _, HB.out⟩
        · have d3 : decide (x < 0) = false := decide_eq_false e2
          have e3 : (n : Int) ≤ x := by omega
          have d4 : decide ((n : Int) ≤ x) = true := decide_eq_true e3
          clear e1
          go_wp2_with fail
          go_ret2
          exact ⟨_, rfl, World.ownsRow_nil _ _ _ _, HB.out⟩
    · obtain rfl : q = m := by omega
      have d2 : decide ((q : Int) < (q : Int)) = false := decide_eq_false (by omega)
      have hans : ans = (o ++ dig k ++ [n + 1], 0) := by
        have hv := hval.out
        rw [List.take_of_length_le (Nat.le_of_eq HLM.out)] at hv
        rw [HANS.out, if_pos hv, henc.out, List.drop_of_length_le (by rw [List.length_map, HLM.out]; exact Nat.le_refl _), encZ, List.append_assoc]
      have HRU := Lib.hid (HRUN.out wr k (by omega))
      have hdl := dig_le k
      obtain ⟨n1, hn1⟩ : ∃ n1, n1 = n + 1 := ⟨_, rfl⟩
      have hnw : ((n : Int) + 1) = (n1 : Int) := by omega
      obtain ⟨N, hN⟩ : ∃ N, N = o.length := ⟨_, rfl⟩
      obtain ⟨X, hX⟩ : ∃ X, X = o.map iv := ⟨_, rfl⟩
      rw [← hN, ← hX] at hown
      have HO := Lib.hid hown
      have HN := Lib.hid hN
      have HX := Lib.hid hX
      rw [← hN] at hok hn0 ⊢
      have HANS2 := Lib.hid hans
      have HN1 := Lib.hid hn1
      clear hown hb hN hX hans hn1
      go_wp2_with fail
      refine HRU.out.mono ?_
      rintro e w3 ⟨v3, rfl, ho3, hb3⟩
      obtain ⟨A3, c3, rfl, _, _, _⟩ := own_slice ho3
      have hi3 := ints_of_own ho3
      have hO3 := (step_of_below hb3).row HO.out (fun _ _ => List.not_mem_nil) List.not_mem_nil
      have hz3 : w.heap.size ≤ w3.heap.size := Nat.le_trans hz9 hb3.size
      obtain ⟨⟨v4, w4, v5, w5, r1, r2, ho5, hb4, hb5⟩, _⟩ := append_two w3 w.heap.size _ N X hO3 A3 (dig k).length c3 (dig k) hi3 n1 (by omega) hz3
      have HBW := Lib.hid (HB.out.trans (hb3.mono hz9))
      have HB5 := Lib.hid (HBW.out.trans hb5)
      have HO5 := Lib.hid ho5
      have R1 := Lib.hid r1
      have R2 := Lib.hid r2
      dsimp only
      clear ho5 hb4 hb5 hi3 hO3 ho3 hb3 r1 r2
      go_wp2_with (at_builtin; first
        | refine Lib.wpList_append_run _ rfl (.tmp 65) (.tmp 66) 22 22 rfl (.slice A0 N c0) (.slice A3 (dig k).length c3) rfl rfl v4 w4 R1.out ?_
        | refine Lib.wpList_append_run _ rfl (.tmp 67) (.tmp 70) 22 22 rfl v4 (.slice (some ⟨w4.heap.size, 0, none⟩) 1 1) rfl rfl v5 w5 R2.out ?_)
      go_ret2
      refine ⟨v5, by rw [HANS2.out]; rfl, ?_, HB5.out⟩
      rw [HANS2.out]
      dsimp only
      rw [List.length_append, List.length_append, List.map_append, List.map_append, ← HN.out, ← HX.out, ← HN1.out]
      exact HO5.out

theorem renc_all (w : World) (A : Option Addr) (m c : Nat) (L : List Int) (n : Int) (hL : ZIn w A m L) (hmc : m ≤ c) (hm : m ≤ 2000000) : Calls Try.prog 13 #[.int .i64 n, .slice A m c] w (ListPost w (encAns n L)) := by
  by_cases h : n < 1 ∨ 256 < n
  · rw [show encAns n L = ([], 2) from if_pos h]
    exact renc_out w A m c n h
  · obtain ⟨k, rfl⟩ : ∃ k : Nat, n = k := ⟨n.toNat, by omega⟩
    exact renc_any w A m c L k hL hmc hm (by omega) (by omega)

end Go.Proofs.Ytdlndcjiccfhgaa
