/- Um: texts laid together, what is not used left out. -/
import Derived.Test.YtmgmgmbpldboiaaZ07
import Derived.Test.YtmgmgmbpldboiaaZ08
namespace Go.Proofs.Ytmgmgmbpldboiaa
open Go.RowKit

/-- What Bits answers. -/
def bitsG (T : List (List Int)) (P : List Int) : List Nat × Nat := if MayPlan T P then (planB (T.map nl) (nl P), 0) else ([], 110)
theorem lenOk_dOk {L : List Int} (h : LenOk L) : DOk L := ⟨h.1, h.2.1, h.2.2.1⟩
theorem order_row (w : World) (B : Nat) (hB : B ≤ w.heap.size) : (w.alloc (.cells #[.int .i64 0, .int .i64 1, .int .i64 2, .int .i64 3, .int .i64 4, .int .i64 5] 3)).ownsRow B 3 1 (.slice (some ⟨w.heap.size, 0, none⟩) 6 6) 6 (([0, 1, 2, 3, 4, 5] : List Nat).map iv) :=
  ⟨rfl, .inr ⟨w.heap.size, 6, _, rfl, hB, heap_alloc_new w _, Nat.le_refl _, by unfold maxLen; omega, rfl, rfl⟩⟩

set_option maxHeartbeats 3200000 in
set_option maxRecDepth 100000 in
theorem rbitsg_no (w : World) (v : Value) (T : List (List Int)) (P : List Int) (h : PlanIn w v T P) (hM : ¬ MayPlan T P) :
    Calls Try.prog 26 #[v] w (ListPost w (bitsG T P)) := by
  obtain ⟨A, n, c, B, m, d, rfl, hT, hnc, hn, hP, hmd, hm⟩ := h
  have hb1 : Below w.heap.size w (w.alloc (.cells #[.slice A n c, .slice B m d] 32)) := (Below.refl _ _).alloc (Nat.le_refl _) _
  have hr1 := blk_new w 32 #[.slice A n c, .slice B m d]
  have q0 : (w.alloc (.cells #[.slice A n c, .slice B m d] 32)).cell? ⟨w.heap.size, 0, none⟩ = some (.slice A n c) := (blk_cell hr1 0).trans rfl
  have q1 : (w.alloc (.cells #[.slice A n c, .slice B m d] 32)).cell? ⟨w.heap.size, 1, none⟩ = some (.slice B m d) := (blk_cell hr1 1).trans rfl
  have HMAY := Lib.hid (rmay_any _ _ T P (PlanIn.below ⟨A, n, c, B, m, d, rfl, hT, hnc, hn, hP, hmd, hm⟩ hb1))
  rw [show decide (MayPlan T P) = false from decide_eq_false hM] at HMAY
  have HPE : Hid (∀ w', Below w.heap.size w w' → ListPost w (bitsG T P) (.returned (.tuple #[.slice none 0 0, .int .i64 110])) w') := Lib.hid fun w' hb => by
    rw [show bitsG T P = ([], 110) from if_neg hM]
    exact ⟨_, rfl, World.ownsRow_nil _ _ _ _, hb⟩
  have HB1 := Lib.hid hb1
  generalize ListPost w (bitsG T P) = PO at *
  clear hb1 hr1 hT hnc hn hP hmd hm hM
  go_enter Try.func26, Try.ntmps26
  go_wp2_with fail
  refine HMAY.out.mono ?_
  rintro e w2 ⟨rfl, hb2⟩
  have HB2 := Lib.hid (HB1.out.trans (hb2.mono HB1.out.size))
  clear hb2 HB1
  go_wp2_with fail
  first | exact HPE.out _ HB2.out | (go_ret2; exact HPE.out _ HB2.out)

set_option maxHeartbeats 3200000 in
set_option maxRecDepth 100000 in
theorem rbitsg_yes (w : World) (v : Value) (T : List (List Int)) (P : List Int) (h : PlanIn w v T P) (hM : MayPlan T P) :
    Calls Try.prog 26 #[v] w (ListPost w (bitsG T P)) := by
  obtain ⟨A, n, c, B, m, d, rfl, hT, hnc, hn, hP, hmd, hm⟩ := h
  have hTn := hT.1
  have hPn := hP.1
  obtain ⟨w1, hw1⟩ : ∃ w1, w1 = w.alloc (.cells #[.slice A n c, .slice B m d] 32) := ⟨_, rfl⟩
  have hr1 : Blk w1 w.heap.size 32 #[.slice A n c, .slice B m d] := by rw [hw1]; exact blk_new w _ _
  have hb1 : Below w.heap.size w w1 := by rw [hw1]; exact (Below.refl _ _).alloc (Nat.le_refl _) _
  have hz1 : w.heap.size < w1.heap.size := blk_lt hr1
  have q0 : w1.cell? ⟨w.heap.size, 0, none⟩ = some (.slice A n c) := (blk_cell hr1 0).trans rfl
  have q1 : w1.cell? ⟨w.heap.size, 1, none⟩ = some (.slice B m d) := (blk_cell hr1 1).trans rfl
  have HQ : Hid (∀ wx, Below w1.heap.size w1 wx → wx.cell? ⟨w.heap.size, 0, none⟩ = some (.slice A n c) ∧ wx.cell? ⟨w.heap.size, 1, none⟩ = some (.slice B m d)) := Lib.hid fun wx h =>
    ⟨(h.cell (p := ⟨w.heap.size, 0, none⟩) hz1).trans q0, (h.cell (p := ⟨w.heap.size, 1, none⟩) hz1).trans q1⟩
  have HMAY := Lib.hid (rmay_any w1 _ T P (PlanIn.below ⟨A, n, c, B, m, d, rfl, hT, hnc, hn, hP, hmd, hm⟩ hb1))
  rw [show decide (MayPlan T P) = true from decide_eq_true hM] at HMAY
  obtain ⟨pn, hpn⟩ : ∃ pn, pn = nl P := ⟨_, rfl⟩
  obtain ⟨H, hH⟩ : ∃ H, H = bitsN n 3 ++ bitsN m 15 ++ putPicks [0, 1, 2, 3, 4, 5] pn := ⟨_, rfl⟩
  have hans : bitsG T P = (H ++ (T.map nl).flatMap showD, 0) := by
    unfold bitsG
    rw [if_pos hM, hH, hpn]
    unfold planB
    rw [List.length_map, hTn, nl_length, hPn]
  have hmn := hM
  obtain ⟨hn2, hn6, hm1, hm2, hTs, hPs, _⟩ := hmn
  rw [hTn] at hn2 hn6 hPs
  rw [hPn] at hm1 hm2
  have hin : IntsIn w1 B m pn := by rw [hpn]; exact ints_of_zin (hP.below hb1) fun x hx => (hPs x hx).1
  have hpl : ∀ x ∈ pn, x < n := by
    intro x hx
    rw [hpn] at hx
    obtain ⟨y, hy, rfl⟩ := List.mem_map.1 hx
    have := hPs y hy
    omega
  have HPO : Hid (∀ (v : Value) (R : List Nat) w', R = H ++ (T.map nl).flatMap showD → w'.ownsRow w1.heap.size 3 1 v R.length (R.map iv) → Below w1.heap.size w1 w' → ListPost w (bitsG T P) (.returned (.tuple #[v, .int .i64 0])) w') := Lib.hid fun v R w' h1 h2 h3 => by
    rw [hans, ← h1]
    exact ⟨v, rfl, World.ownsRow.mono h2 (Nat.le_of_lt hz1), hb1.trans (h3.mono (Nat.le_of_lt hz1))⟩
  have HT := Lib.hid (hT.below hb1)
  have HIN := Lib.hid hin
  have HPL := Lib.hid hpl
  have HTS := Lib.hid hTs
  have HTN := Lib.hid hTn
  have HPN : Hid (pn.length = m) := Lib.hid hin.1
  have HH := Lib.hid hH
  have HLOW : Hid (Low n [0, 1, 2, 3, 4, 5]) := Lib.hid (low_six hn6)
  have HBI3 := Lib.hid fun (wx : World) => rbits_any wx n 3 (by omega) (by omega)
  have HBI15 := Lib.hid fun (wx : World) => rbits_any wx m 15 (by omega) (by omega)
  generalize ListPost w (bitsG T P) = PO at *
  rw [hw1] at q0 q1
  clear hT hP hTn hPn hin hpl hTs hPs hH hpn hans hM hnc hn hmd hm hr1 hb1 hn2
  go_enter Try.func26, Try.ntmps26
  go_wp2_with fail
  rw [← hw1]
  clear q0 q1 hw1
  refine HMAY.out.mono ?_
  rintro e w2 ⟨rfl, hb2⟩
  have hp2 := HQ.out _ hb2
  obtain ⟨p0, p1⟩ := hp2
  have HB2 := Lib.hid hb2
  clear hb2 HMAY
  go_wp2_with fail
  refine (HBI3.out _).mono ?_
  rintro e w3 ⟨g3, c3, rfl, ho3, hb3⟩
  have hb13 := HB2.out.trans (hb3.mono HB2.out.size)
  have hp3 := HQ.out _ hb13
  clear p0 p1
  obtain ⟨p0, p1⟩ := hp3
  have HB3 := Lib.hid hb13
  have HO3 := Lib.hid ho3
  clear hb3 hb13 ho3 HBI3
  go_wp2_with fail
  refine (HBI15.out _).mono ?_
  rintro e w4 ⟨g4, c4, rfl, ho4, hb4⟩
  have hb14 := HB3.out.trans (hb4.mono HB3.out.size)
  have hp4 := HQ.out _ hb14
  clear p0 p1
  obtain ⟨p0, p1⟩ := hp4
  have hi4 := ints_of_own ho4
  have hz4 := hb14.size
  obtain ⟨v5, w5, hr5, ho5, hg5⟩ := append_ints w4 w1.heap.size _ 3 _ (World.ownsRow.mono (row_low HO3.out hb4) HB2.out.size) (some ⟨g4, 0, none⟩) 15 c4 _ hi4 (by omega) hz4
  have hb15 : Below w1.heap.size w1 w5 := hb14.grown hg5 hz4 (fun k hk => (World.ownsRow.lt (World.ownsRow.mono (row_low HO3.out hb4) HB2.out.size) k hk).1)
  obtain ⟨A5, c5, rfl, hc5, hm5, _⟩ := own_slice ho5
  have HB5 := Lib.hid hb15
  have HO5 := Lib.hid ho5
  have HR5 := Lib.hid hr5
  clear hb4 hb14 ho4 hi4 hg5 hb15 ho5 HBI15 HO3 hr5
  go_wp2_with (at_builtin; refine Lib.wpList_append_run _ rfl (.tmp 33) (.tmp 34) 30 30 rfl (.slice (some ⟨g3, 0, none⟩) 3 c3) (.slice (some ⟨g4, 0, none⟩) 15 c4) rfl rfl _ _ HR5.out ?_)
  clear HR5 p0 p1
  have hoo : OutOrd w1 (w5.alloc (.cells #[.int .i64 0, .int .i64 1, .int .i64 2, .int .i64 3, .int .i64 4, .int .i64 5] 3)) (.slice A5 18 c5) (bitsN n 3 ++ bitsN m 15) w5.heap.size 6 [0, 1, 2, 3, 4, 5] := by
    refine ⟨?_, order_row w5 _ HB5.out.size, fun e => ?_, HB5.out.alloc HB5.out.size _⟩
    · have h2 := HO5.out.alloc (.cells #[.int .i64 0, .int .i64 1, .int .i64 2, .int .i64 3, .int .i64 4, .int .i64 5] 3)
      rw [← List.map_append] at h2
      rw [List.length_append, bitsN_length, bitsN_length]
      exact h2
    · have := (World.ownsRow.lt HO5.out _ e).2
      omega
  generalize w5.alloc (.cells #[.int .i64 0, .int .i64 1, .int .i64 2, .int .i64 3, .int .i64 4, .int .i64 5] 3) = w6 at *
  have HOO := Lib.hid hoo
  clear hoo HO5 HB2 HB3
  go_loopw [4, 8, 9, 10] (fun ov rv iv' s10 wx => ∃ (q : Nat) (X o : List Nat) (g c : Nat), q ≤ m ∧ iv' = .int .i64 q ∧ rv = .slice (some ⟨g, 0, none⟩) 6 c ∧ OutOrd w1 wx ov X g c o ∧ Hid (X ++ putPicks o (pn.drop q) = H) ∧ X.length ≤ 18 + 6 * q ∧ Hid (Low n o)) (fun _ _ iv' _ _ => m - (intOf iv').toNat)
  case atStart => exact ⟨0, _, _, _, _, Nat.zero_le _, rfl, rfl, HOO.out, Lib.hid HH.out.symm, by rw [List.length_append, bitsN_length, bitsN_length]; omega, HLOW⟩
  case round =>
    clear HOO
    obtain ⟨q, X, o, g, c2, hq, rfl, rfl, hoo, hX, hXl, hlow⟩ := hrel
    have HOO := Lib.hid hoo
    obtain ⟨p0, p1⟩ := HQ.out _ hoo.below
    obtain ⟨A7, c7, rfl, _, _, _⟩ := own_slice hoo.out
    by_cases e : q < m
    · have d0 : decide ((q : Int) < (m : Int)) = true := decide_eq_true (by omega)
      have hqI : (0 : Int) ≤ (q : Int) := by omega
      have hqm : (q : Int) < (m : Int) := by omega
      obtain ⟨b, off, rfl, hc⟩ := HIN.out.2 (by omega)
      have hcx := hc q e
      have hltx := World.block_lt_of_cell? w1 _ hcx
      have hmem := HPL.out _ (nat_mem (L := pn) (j := q) (by rw [HPN.out]; exact e))
      have hdr := drop_nat (L := pn) (p := q) (by rw [HPN.out]; exact e)
      obtain ⟨x, hx⟩ : ∃ x, x = pn.getD q 0 := ⟨_, rfl⟩
      rw [← hx] at hcx hmem hdr
      have hkk := hlow.out.2 x hmem
      have hgk := (place_lt o x hkk.2).2
      have hoth := place_other o x
      have hlow2 := hlow.out.move hmem
      have hX2 := hX.out
      rw [hdr, place_head] at hX2
      obtain ⟨k, hk⟩ : ∃ k, k = placeOf o x := ⟨_, rfl⟩
      rw [← hk] at hkk hgk hoth hlow2 hX2
      have hk6 : k < 6 := by omega
      have HX2 : Hid ((X ++ List.replicate k 1 ++ [0]) ++ putPicks (moveF o k) (pn.drop (q + 1)) = H) := Lib.hid (by rw [← hX2]; simp)
      have HOTH := Lib.hid hoth
      have HGK := Lib.hid hgk
      have HLOW2 := Lib.hid hlow2
      have HCX := Lib.hid fun (wx : World) (h : Below w1.heap.size w1 wx) => (h.cell (p := ⟨b, off + q, none⟩) hltx).trans hcx
      clear hc hcx hltx hx hdr hkk hgk hoth hlow2 hX2 hk hX hlow hoo HH
      go_wp2_with fail
      go_loopw [4, 10] (fun ov jv wx => ∃ j : Nat, j ≤ k ∧ jv = .int .i64 j ∧ OutOrd w1 wx ov (X ++ List.replicate j 1) g c2 o) (fun _ jv _ => k - (intOf jv).toNat)
      case atStart => exact ⟨0, Nat.zero_le _, rfl, by simpa using HOO.out⟩
      case round =>
        clear HOO p0 p1
        obtain ⟨j, hj, rfl, hoo⟩ := hrel
        obtain ⟨p0, p1⟩ := HQ.out _ hoo.below
        have qx := HCX.out _ hoo.below
        have qo := hoo.cell j (by omega)
        obtain ⟨A8, c8, rfl, _, _, _⟩ := own_slice hoo.out
        obtain ⟨X8, hX8⟩ : ∃ X8, X8 = X ++ List.replicate j 1 := ⟨_, rfl⟩
        rw [← hX8] at hoo ⊢
        obtain ⟨N, hN⟩ : ∃ N, N = X8.length := ⟨_, rfl⟩
        have hN2 : N ≤ 18 + 6 * q + j := by rw [hN, hX8, List.length_append, List.length_replicate]; omega
        have HN := Lib.hid hN
        have HX8 := Lib.hid hX8
        rw [← hN] at hoo ⊢
        obtain ⟨y, hy⟩ : ∃ y, y = o.getD j 0 := ⟨_, rfl⟩
        rw [← hy] at qo
        have HOO := Lib.hid hoo
        have hjI : (0 : Int) ≤ (j : Int) := by omega
        have hj6 : (j : Int) < 6 := by omega
        by_cases ej : j < k
        · have d1 : ((y : Int) != (x : Int)) = true := by
            rw [bne_iff_ne]
            have := HOTH.out j ej
            rw [← hy] at this
            omega
          clear hN hX8 hy hoo
          go_wp2_with fail
          go_quiet (fail)
          obtain ⟨A9, c9, w9, hr9, hoo9⟩ := (HOO.out.drewN nq).push 1 HN.out.symm (by omega)
          have HOO9 := Lib.hid hoo9
          have HR9 := Lib.hid hr9
          clear hoo9 hr9
          go_wp2_with (at_builtin; refine Lib.wpList_append_run _ rfl (.tmp 54) (.tmp 55) 30 30 rfl (.slice A8 N c8) (.slice (some ⟨wr.heap.size, 0, none⟩) 1 1) rfl rfl _ _ HR9.out ?_)
          go_roundw
          case rel =>
            refine ⟨j + 1, by omega, by go_num, ?_⟩
            rw [List.replicate_succ', ← List.append_assoc, ← HX8.out]
            exact HOO9.out
          case measure => simp [intOf]; omega
        · obtain rfl : j = k := by omega
          have d1 : ((y : Int) != (x : Int)) = false := by
            rw [hy, HGK.out]
            simp
          have HTU := Lib.hid fun (wx : World) (h : IntsIn wx (some ⟨g, 0, none⟩) 6 o) => rturned_any wx (some ⟨g, 0, none⟩) 6 c2 o j h (by omega) hk6
          clear hN hX8 hy hoo
          go_wp2_with fail
          go_quiet (fail)
          obtain ⟨A9, c9, w9, hr9, hoo9⟩ := (HOO.out.drewN nq).push 0 HN.out.symm (by omega)
          have HOO9 := Lib.hid hoo9
          have HI9 := Lib.hid (ints_of_own hoo9.ord)
          have HR9 := Lib.hid hr9
          clear hoo9 hr9
          go_wp2_with (at_builtin; refine Lib.wpList_append_run _ rfl (.tmp 59) (.tmp 60) 30 30 rfl (.slice A8 N c8) (.slice (some ⟨wr.heap.size, 0, none⟩) 1 1) rfl rfl _ _ HR9.out ?_)
          clear HR9
          refine (HTU.out _ HI9.out).mono ?_
          rintro e w10 ⟨v10, rfl, ho10, hb10⟩
          obtain ⟨g10, c10, rfl, hoo10⟩ := HOO9.out.turn hb10 ho10
          have HOO10 := Lib.hid hoo10
          clear ho10 hb10 hoo10
          go_wp2_with fail
          go_roundw
          case rel =>
            refine ⟨q + 1, X8 ++ [0], moveF o j, g10, c10, by omega, by go_num, rfl, HOO10.out, ?_, ?_, HLOW2⟩
            · rw [HX8.out]
              exact HX2
            · rw [List.length_append, ← HN.out]
              show N + 1 ≤ _
              omega
          case measure => simp [intOf]; omega
    · obtain rfl : q = m := by omega
      have d0 : decide ((q : Int) < (q : Int)) = false := decide_eq_false (by omega)
      have hXH : X = H := by
        have := hX.out
        rw [List.drop_of_length_le (Nat.le_of_eq HPN.out)] at this
        simpa [putPicks] using this
      subst hXH
      have hrow := hoo.out
      have hbx := hoo.below
      obtain ⟨N0, hN0⟩ : ∃ N0, N0 = X.length := ⟨_, rfl⟩
      rw [← hN0] at hrow ⊢
      have HROW := Lib.hid hrow
      have HBX := Lib.hid hbx
      have HN0 := Lib.hid hN0
      have hxl : N0 ≤ 200000 := by omega
      clear hrow hbx HOO hoo hX hlow hN0 hXl HIN HPL HH HLOW
      go_wp2_with fail
      go_loopw [4, 11, 12, 13] (fun ov tv s12 s13 wx => ∃ (t : Nat) (Y : List Nat), t ≤ n ∧ tv = .int .i64 t ∧ Hid (Y = X ++ ((T.map nl).take t).flatMap showD) ∧ Y.length ≤ 200000 + 11000 * t ∧ wx.ownsRow w1.heap.size 3 1 ov Y.length (Y.map iv) ∧ Below w1.heap.size w1 wx) (fun _ tv _ _ _ => n - (intOf tv).toNat)
      case atStart => exact ⟨0, X, Nat.zero_le _, rfl, Lib.hid (by simp), by rw [← HN0.out]; omega, by rw [← HN0.out]; exact HROW.out, HBX.out⟩
      case round =>
        clear HROW HBX HN0 p0 p1
        rename World => wy
        obtain ⟨t, Y, ht, rfl, hY, hYl, hrow, hbx⟩ := hrel
        obtain ⟨p0, p1⟩ := HQ.out _ hbx
        obtain ⟨A8, c8, rfl, _, _, _⟩ := own_slice hrow
        obtain ⟨N, hN⟩ : ∃ N, N = Y.length := ⟨_, rfl⟩
        rw [← hN] at hrow hYl ⊢
        have HROW := Lib.hid hrow
        have HBX := Lib.hid hbx
        have HN := Lib.hid hN
        have hzy := hbx.size
        by_cases et : t < n
        · have d1 : decide ((t : Int) < (n : Int)) = true := decide_eq_true (by omega)
          have htI : (0 : Int) ≤ (t : Int) := by omega
          have htn : (t : Int) < (n : Int) := by omega
          obtain ⟨b, off, rfl, hc⟩ := (HT.out.below hbx).2 (by omega)
          obtain ⟨A2, c2, h1, h2, h3, h4⟩ := hc t et
          have hmem := list_at (T := T) (q := t) (by rw [HTN.out]; exact et)
          have hok := lenOk_dOk (HTS.out _ hmem).2
          have htk : (T.map nl).take (t + 1) = (T.map nl).take t ++ [nl (T.getD t [])] := by
            have hlt : t < T.length := by rw [HTN.out]; exact et
            rw [List.take_succ_eq_append_getElem (by rw [List.length_map]; exact hlt), List.getElem_map, List.getD_eq_getElem?_getD, List.getElem?_eq_getElem hlt]
            rfl
          obtain ⟨L, hL⟩ : ∃ L, L = T.getD t [] := ⟨_, rfl⟩
          rw [← hL] at h1 h2 h3 h4 hok htk
          obtain ⟨kk, hkk⟩ : ∃ kk, kk = L.length := ⟨_, rfl⟩
          rw [← hkk] at h1 h2 h3 h4
          have hput := rput_any wy A2 kk c2 L h2 h4
          have hshort := show_short L
          rw [show showAns L = (showD (nl L), 0) from if_pos hok] at hput hshort
          obtain ⟨S, hS⟩ : ∃ S, S = showD (nl L) := ⟨_, rfl⟩
          rw [← hS] at hput hshort
          have hsh2 : S.length ≤ 11000 := hshort
          have HPUT := Lib.hid hput
          have HY2 : Hid (Y ++ S = X ++ ((T.map nl).take (t + 1)).flatMap showD) := Lib.hid (by rw [htk, List.flatMap_append, ← List.append_assoc, ← hY.out, hS]; simp)
          clear hrow hbx hN hc hmem hok htk hL hkk h2 h3 h4 hput hshort hS hY
          go_wp2_with fail
          refine HPUT.out.mono ?_
          rintro e w8 ⟨v8, rfl, ho8, hb8⟩
          dsimp only at ho8 ⊢
          obtain ⟨K, hK⟩ : ∃ K, K = S.length := ⟨_, rfl⟩
          rw [← hK] at ho8 hsh2
          obtain ⟨A9, c9, rfl, _, _, _⟩ := own_slice ho8
          have hb18 := HBX.out.trans (hb8.mono hzy)
          obtain ⟨p2, p3⟩ := HQ.out _ hb18
          have hrow8 := row_low HROW.out hb8
          obtain ⟨v10, w10, hr10, ho10, hg10⟩ := append_ints w8 w1.heap.size _ N _ hrow8 A9 K c9 S (ints_of_own ho8) (by omega) hb18.size
          have hb10 : Below w1.heap.size w1 w10 := hb18.grown hg10 hb18.size (fun k hk => (World.ownsRow.lt hrow8 k hk).1)
          rw [← List.map_append] at ho10
          have HO10 := Lib.hid ho10
          have HB10 := Lib.hid hb10
          have HR10 := Lib.hid hr10
          have HK := Lib.hid hK
          clear ho8 hb8 hb18 hrow8 ho10 hg10 hb10 hr10 hK p0 p1 h1
          go_wp2_with (at_builtin; refine Lib.wpList_append_run _ rfl (.tmp 81) (.tmp 82) 30 30 rfl (.slice A8 N c8) (.slice A9 K c9) rfl rfl _ _ HR10.out ?_)
          go_roundw
          case rel =>
            refine ⟨t + 1, Y ++ S, by omega, by go_num, HY2, ?_, ?_, HB10.out⟩
            · rw [List.length_append, ← HN.out, ← HK.out]
              omega
            · rw [List.length_append, ← HN.out, ← HK.out]
              exact HO10.out
          case measure => simp [intOf]; omega
        · obtain rfl : t = n := by omega
          have d1 : decide ((t : Int) < (t : Int)) = false := decide_eq_false (by omega)
          have hY2 := hY.out
          rw [List.take_of_length_le (by rw [List.length_map]; exact Nat.le_of_eq HTN.out)] at hY2
          have HPE := Lib.hid (HPO.out (.slice A8 N c8) Y _ hY2 (by rw [← HN.out]; exact HROW.out) HBX.out)
          clear hrow hbx hN hY hY2
          go_wp2_with fail
          first | exact HPE.out | (go_ret2; exact HPE.out)

theorem rbitsg_any (w : World) (v : Value) (T : List (List Int)) (P : List Int) (h : PlanIn w v T P) : Calls Try.prog 26 #[v] w (ListPost w (bitsG T P)) := by
  by_cases hM : MayPlan T P
  · exact rbitsg_yes w v T P h hM
  · exact rbitsg_no w v T P h hM
end Go.Proofs.Ytmgmgmbpldboiaa
