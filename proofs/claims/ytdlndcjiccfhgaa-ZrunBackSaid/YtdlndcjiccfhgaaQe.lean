/- The code's Decode. Conditions: at most a million symbols. -/
import Derived.Test.YtdlndcjiccfhgaaQc
import Derived.Test.YtdlndcjiccfhgaaQd
import Derived.BigQuiet
namespace Go.Proofs.Ytdlndcjiccfhgaa
open Go.RowKit

theorem run_noughts_none {P : Program} (w : World) (t tn ty e : TypeId) (i : TypeInfo) (kq kn : IntKind) (ht : P.underlying t = some (.slice e)) (htn : P.underlying tn = some (.int kn)) (hi : P.info? e = some i) (hby : i.bytes = 8)
    (A : Option Addr) (n c : Nat) (h : n ≤ c) : (Builtin.append_ #[t, tn] ty #[.slice A n c, .int kq 0]).run P w = .ok (.slice A n c) w := by
  have hw : IntKind.i64.wrap (0 : Int) = 0 := by rw [IntKind.wrap_i64]; omega
  cases A <;> simp [Builtin.append_, run_underlying ht, run_underlying htn, sizeOf, typeInfo, hi, hby, asInt, asIntOf, hw, h, storeCells]

theorem app_noughts (w : World) (B : Nat) (v : Value) (n : Nat) (xs : List Value) (hown : w.ownsRow B 3 1 v n xs) (k : Nat) (hk : k ≤ 1000000000) (hn : n ≤ 1000000000) (hB : B ≤ w.heap.size) :
    ∃ v' w', (Builtin.append_ #[22, 3] 22 #[v, .int .i64 k]).run Try.prog w = .ok v' w' ∧ w'.ownsRow B 3 1 v' (n + k) (xs ++ List.replicate k (Value.int .i64 0)) ∧ Below B w w' := by
  obtain ⟨i3, h3, hz0, hz1, hz2⟩ := info_parts Try.info3
  rcases Nat.eq_zero_or_pos k with h | h
  · subst h
    obtain ⟨A, c, rfl, hnc, _, _⟩ := own_slice hown
    refine ⟨_, _, run_noughts_none (P := Try.prog) w 22 3 22 3 i3 .i64 .i64 Try.underlying22 Try.underlying3 h3 hz2 A n c hnc, ?_, Below.refl _ _⟩
    rw [List.replicate_zero, List.append_nil]
    exact hown
  · obtain ⟨v2, w2, hrun, hown2, hgrow2, _⟩ := run_own_noughts (P := Try.prog) w B 22 3 22 3 i3 .i64 .i64 Try.underlying22 Try.underlying3 h3 hz0 hz1 hz2 _ _ _ hown k h hk hn hB
    exact ⟨v2, w2, hrun, hown2, (Below.refl B w).grown hgrow2 hB (fun k hk => (hown.lt k hk).1)⟩

theorem zin_tail {w : World} {b off n : Nat} {x : Int} {L : List Int} (h : ZIn w (some ⟨b, off, none⟩) n (x :: L)) (A : Option Addr) (hA : n = 1 ∨ A = some ⟨b, off + 1, none⟩) : ZIn w A (n - 1) L := by
  obtain ⟨hl, hc⟩ := h
  simp only [List.length_cons] at hl
  refine ⟨by omega, fun h0 => ?_⟩
  obtain rfl := hA.resolve_left (by omega)
  obtain ⟨b', o', e, hcell⟩ := hc (by omega)
  simp only [Option.some.injEq, Addr.mk.injEq] at e
  obtain ⟨rfl, rfl, _⟩ := e
  refine ⟨b, off + 1, rfl, fun i hi => ?_⟩
  have := hcell (i + 1) (by omega)
  rw [show off + (i + 1) = off + 1 + i by omega] at this
  rw [this]
  rfl

theorem zin_drop {w : World} {b off q n : Nat} {L : List Int} (h : ZIn w (some ⟨b, off, none⟩) (q + n) L) : ZIn w (some ⟨b, off + q, none⟩) n (L.drop q) := by
  obtain ⟨hl, hc⟩ := h
  refine ⟨by rw [List.length_drop, hl]; omega, fun h0 => ?_⟩
  obtain ⟨b', o', e, hcell⟩ := hc (by omega)
  simp only [Option.some.injEq, Addr.mk.injEq] at e
  obtain ⟨rfl, rfl, _⟩ := e
  refine ⟨b, off + q, rfl, fun i hi => ?_⟩
  have := hcell (q + i) (by omega)
  rw [show off + (q + i) = off + q + i by omega] at this
  rw [this, List.getD_eq_getElem?_getD, List.getD_eq_getElem?_getD, List.getElem?_drop]

theorem dec_end (n most : Nat) (L : List Int) (o : List Nat) (wo : Nat) : decZ n most L o wo true = if behF n L = 0 then (o, 0) else ([], behF n L) := by
  cases L with
  | nil => rfl
  | cons s L =>
    rw [dec_cons]
    by_cases h : SymOk n s
    · have h2 := h
      unfold SymOk at h2
      rw [if_neg (by omega), if_pos rfl]
      simp [behF, h]
    · have h2 := h
      unfold SymOk at h2
      rw [if_pos (by omega)]
      simp [behF, h]

theorem beh_le (n : Nat) (L : List Int) : behF n L ≤ 70 := by
  cases L with
  | nil => exact Nat.zero_le _
  | cons y l =>
    show (if SymOk n y then 70 else 60) ≤ 70
    split
    · exact Nat.le_refl _
    · exact Nat.le_of_ble_eq_true rfl

def lenOfSlice : Value → Nat
  | .slice _ n _ => n
  | _ => 0

theorem cdec_out (w : World) (A : Option Addr) (m c : Nat) (n most : Int) (h : n < 1 ∨ 256 < n ∨ most < 0 ∨ 262144 < most) : Calls Try.prog 14 #[.int .i64 n, .int .i64 most, .slice A m c] w (ListPost w ([], 2)) := by
  have fin : ListPost w ([], 2) (.returned (.tuple #[.slice none 0 0, .int .i64 2])) w := ⟨_, rfl, World.ownsRow_nil _ _ _ _, Below.refl _ _⟩
  have F := Lib.hid fin
  clear fin
  generalize ListPost w ([], 2) = PO at *
  by_cases h1 : n < 1 ∨ 256 < n
  · have HM := Lib.hid (cmay_no w n h1)
    clear h h1
    go_enter Try.func14, Try.ntmps14
    go_wp2_with fail
    refine HM.out.mono ?_
    rintro e w1 ⟨rfl, rfl⟩
    go_wp2_with fail
    (first | exact F.out | (go_ret2; exact F.out))
  · have HM := Lib.hid (cmay_yes w n (by omega) (by omega))
    have h2 : most < 0 ∨ 262144 < most := by omega
    clear h h1
    by_cases h3 : most < 0
    · have d2 : decide (most < 0) = true := decide_eq_true h3
      clear h2
      go_enter Try.func14, Try.ntmps14
      go_wp2_with fail
      refine HM.out.mono ?_
      rintro e w1 ⟨rfl, rfl⟩
      go_wp2_with fail
      (first | exact F.out | (go_ret2; exact F.out))
    · have d2 : decide (most < 0) = false := decide_eq_false h3
      have d3 : decide (262144 < most) = true := decide_eq_true (by omega)
      clear h2
      go_enter Try.func14, Try.ntmps14
      go_wp2_with fail
      refine HM.out.mono ?_
      rintro e w1 ⟨rfl, rfl⟩
      go_wp2_with fail
      (first | exact F.out | (go_ret2; exact F.out))

set_option maxHeartbeats 3200000 in
set_option maxRecDepth 100000 in
theorem cdec_any (w : World) (A : Option Addr) (m c : Nat) (L : List Int) (n most : Nat) (hL : ZIn w A m L) (hmc : m ≤ c) (hm : m ≤ 1000000) (hn : 1 ≤ n) (hn2 : n ≤ 256) (hmost : most ≤ 262144) : Calls Try.prog 14 #[.int .i64 n, .int .i64 most, .slice A m c] w (ListPost w (decZ n most L [] 1 false)) := by
  obtain ⟨i3, h3, hz0, hz1, hz2⟩ := info_parts Try.info3
  have d2 : decide ((most : Int) < 0) = false := decide_eq_false (by omega)
  have d3 : decide ((262144 : Int) < (most : Int)) = false := decide_eq_false (by omega)
  have HP : Hid (∀ (v : Value) (a : List Nat × Nat) (w' : World), decZ n most L [] 1 false = a → w'.ownsRow w.heap.size 3 1 v a.1.length (a.1.map iv) → Below w.heap.size w w' → ListPost w (decZ n most L [] 1 false) (.returned (.tuple #[v, .int .i64 a.2])) w') := Lib.hid fun v a w' h1 h2 h3 => ⟨v, by rw [h1], by rw [h1]; exact h2, h3⟩
  have HM := Lib.hid (cmay_yes w n (by omega) (by omega))
  have HEND := Lib.hid fun w' : World => (cend_any w' n hn2).mono fun e W' h => (⟨h.1, 0, h.2.symm⟩ : e = .returned (.int .i64 ((n : Int) + 1)) ∧ ∃ m, W' = w'.drewN m)
  have HSYM := Lib.hid fun (w' : World) (s : Int) => csym_any w' n s hn2
  have HBEH := Lib.hid fun (w' : World) (A : Option Addr) (m c : Nat) (L : List Int) (hL : ZIn w' A m L) => cbeh_any w' A m c L n hL hn2
  have HREAD := Lib.hid cread_any
  have HL := Lib.hid hL
  obtain ⟨n1, hn1⟩ : ∃ n1, n1 = n + 1 := ⟨_, rfl⟩
  have hnw : ((n : Int) + 1) = (n1 : Int) := by omega
  rw [hnw] at HEND
  have HN1 := Lib.hid hn1
  have hn12 : n1 ≤ 257 := by omega
  clear hL hn1
  generalize ListPost w (decZ n most L [] 1 false) = PO at *
  generalize hans : decZ n most L [] 1 false = ans at *
  have HANS := Lib.hid hans
  clear hans
  go_enter Try.func14, Try.ntmps14
  go_wp2_with fail
  refine HM.out.mono ?_
  rintro e w1 ⟨rfl, rfl⟩
  go_wp2_with fail
  go_loopw [2, 8] (fun l places wx => ∃ (A' : Option Addr) (m' c' : Nat) (L' : List Int) (o : List Nat), l = .slice A' m' c' ∧ ZIn w A' m' L' ∧ m' ≤ c' ∧ m' ≤ m ∧ wx.ownsRow w.heap.size 3 1 places o.length (o.map iv) ∧ o.length ≤ most ∧ Hid (ans = decZ n most L' o 1 false) ∧ Below w.heap.size w wx) (fun l _ _ => lenOfSlice l)
  case atStart => exact ⟨A, m, c, L, [], rfl, HL.out, hmc, Nat.le_refl _, World.ownsRow_nil _ _ _ _, Nat.zero_le _, by rw [← HANS.out]; rfl, Below.refl _ _⟩
  case round =>
    obtain ⟨A', m', c', L', o, rfl, hZ, hmc', hmm, hown, hol, hdec, hb⟩ := hrel
    have hz9 := hb.size
    obtain ⟨A0, c0, rfl, hn0, hm0, hA0⟩ := own_slice hown
    clear hA0
    unfold maxLen at hm0
    have HB := Lib.hid hb
    have HO := Lib.hid hown
    have HZ := Lib.hid hZ
    obtain ⟨room, hroom⟩ : ∃ room, room = most - o.length := ⟨_, rfl⟩
    have hsum : o.length + room = most := by omega
    have HRD := Lib.hid (HREAD.out wr A' m' c' L' room (hZ.below hb) (by omega) (by omega))
    obtain ⟨N, hN⟩ : ∃ N, N = o.length := ⟨_, rfl⟩
    have hrz : (most : Int) - (N : Int) = (room : Int) := by omega
    have HSUM := Lib.hid hsum
    have HN := Lib.hid hN
    rw [← hN] at hn0 hol ⊢
    clear hZ hown hb hroom hsum hN
    go_wp2_with fail
    refine HRD.out.mono ?_
    rintro e w2 ⟨rfl, hcase⟩
    rcases hcase with ⟨q, Z, wo, hq, hZr, rfl, hto, hnx⟩ | ⟨rfl, hover⟩
    · have hdec2 := hdec.out.trans (hto n most o hn HSUM.out)
      obtain ⟨v2, w2, hrun, hown2, hb2⟩ := app_noughts wr w.heap.size _ _ _ HO.out Z (by omega) (by rw [← HN.out]; omega) hz9
      rw [← HN.out] at hrun
      have hown3 : w2.ownsRow w.heap.size 3 1 v2 (o ++ List.replicate Z 0).length ((o ++ List.replicate Z 0).map iv) := by
        rw [List.length_append, List.length_replicate, List.map_append, List.map_replicate]
        exact hown2
      have hb3 := HB.out.trans hb2
      have hle2 : (o ++ List.replicate Z 0).length ≤ most := by
        rw [List.length_append, List.length_replicate, ← HN.out]
        omega
      obtain ⟨o2, ho2⟩ : ∃ o2, o2 = o ++ List.replicate Z 0 := ⟨_, rfl⟩
      rw [← ho2] at hdec2 hown3 hle2
      obtain ⟨A2, c2, rfl, hn3, hm3, _⟩ := own_slice hown3
      unfold maxLen at hm3
      have HRUN := Lib.hid hrun
      have HO2 := Lib.hid hown3
      have HB2 := Lib.hid hb3
      have hz2' := hb3.size
      obtain ⟨N2, hN2⟩ : ∃ N2, N2 = o2.length := ⟨_, rfl⟩
      have HN2 := Lib.hid hN2
      rw [← hN2] at hn3 hle2 HRUN
      clear hto hrun hown2 hb2 hown3 hb3 ho2 hN2 hdec HRD HREAD
      by_cases eq : q = m'
      · subst eq
        have hnil : L'.drop q = [] := List.drop_of_length_le (Nat.le_of_eq HZ.out.1)
        rw [hnil] at hdec2
        have HPE := Lib.hid (HP.out (.slice none 0 0) ([], 70) w2 hdec2 (World.ownsRow_nil _ _ _ _) HB2.out)
        clear hnil hdec2 hnx HP HANS
        go_wp2_with (at_builtin; refine Lib.wpList_append_run _ rfl _ _ 22 3 rfl (.slice A0 N c0) (.int .i64 Z) rfl rfl (.slice A2 N2 c2) w2 HRUN.out ?_)
        all_goals (first | exact HPE.out | (go_ret2; exact HPE.out))
      · obtain ⟨m2, rfl⟩ : ∃ m2, m' = q + m2 := ⟨m' - q, by omega⟩
        obtain ⟨c3, rfl⟩ : ∃ c3, c' = q + c3 := ⟨c' - q, by omega⟩
        have hm2 : 0 < m2 := by omega
        have hc3 : ¬ c3 = 0 := by omega
        have hmc3 : m2 ≤ c3 := by omega
        have HMM := Lib.hid hmm
        have HMC := Lib.hid hmc'
        obtain ⟨b, off, rfl, _⟩ := HZ.out.2 (by omega)
        have hZ2 := zin_drop HZ.out
        obtain ⟨x, L3, hx⟩ : ∃ x L3, L'.drop q = x :: L3 := by
          cases h : L'.drop q with
          | nil =>
            have := hZ2.1
            rw [h] at this
            simp at this
            omega
          | cons x L3 => exact ⟨x, L3, rfl⟩
        rw [hx] at hZ2 hdec2
        have hx01 := hnx x L3 hx
        obtain ⟨b', off', e', hcell⟩ := hZ2.2 hm2
        simp only [Option.some.injEq, Addr.mk.injEq] at e'
        obtain ⟨rfl, rfl, _⟩ := e'
        have hx0 := hcell 0 hm2
        rw [Nat.add_zero] at hx0
        have hx1 : w.cell? ⟨b, off + q, none⟩ = some (.int .i64 x) := hx0
        have hlt := World.block_lt_of_cell? w _ hx1
        have hcw2 := (HB2.out.cell (p := ⟨b, off + q, none⟩) hlt).trans hx1
        have hZt := zin_tail hZ2
        have HZT := Lib.hid hZt
        have HSY := Lib.hid (HSYM.out w2 x)
        have d5 : ((m2 : Int) == 0) = false := by
          rw [beq_eq_false_iff_ne]
          omega
        have hlq : (q : Int) ≤ ((q + m2 : Nat) : Int) := by omega
        clear hcell hx0 hx1 hlt hx hnx hmm hmc' eq hq hZt hZ2
        rw [dec_cons] at hdec2
        by_cases hs : SymOk n x
        · rw [decide_eq_true hs] at HSY
          have hs2 := hs
          unfold SymOk at hs2
          rw [if_neg (by omega), if_neg (by simp)] at hdec2
          obtain ⟨s, rfl⟩ : ∃ s : Nat, x = s := ⟨x.toNat, by omega⟩
          rw [hnw] at hdec2 hs2
          by_cases e1 : s = n1
          · subst e1
            rw [if_pos rfl, dec_end] at hdec2
            have d6 : ((s : Int) == (s : Int)) = true := beq_self_eq_true _
            obtain ⟨be, hbe⟩ : ∃ be, be = behF n L3 := ⟨_, rfl⟩
            have HBE := Lib.hid fun (k : Nat) (A : Option Addr) (c : Nat) (hA : m2 = 1 ∨ A = some ⟨b, off + q + 1, none⟩) => HBEH.out (w2.drewN k) A (m2 - 1) c L3 ((HZT.out A hA).below (below_drewN HB2.out k))
            rw [← hbe] at hdec2 HBE
            have hb257 : be ≤ 70 := by
              rw [hbe]
              exact beh_le n L3
            clear hbe hx01 hs hs2
            by_cases e0 : be = 0
            · subst e0
              rw [if_pos rfl] at hdec2
              have HPE : Hid (∀ k, PO (.returned (.tuple #[.slice A2 N2 c2, .int .i64 0])) (w2.drewN k)) := Lib.hid fun k => by
                rw [HN2.out]
                exact HP.out (.slice A2 o2.length c2) (o2, 0) (w2.drewN k) hdec2 HO2.out (below_drewN HB2.out k)
              clear hdec2 HP HANS
              go_wp2_with (at_builtin; refine Lib.wpList_append_run _ rfl _ _ 22 3 rfl (.slice A0 N c0) (.int .i64 Z) rfl rfl (.slice A2 N2 c2) w2 HRUN.out ?_)
              refine HSY.out.mono ?_
              rintro e w3 ⟨rfl, rfl⟩
              go_wp2_with fail
              go_quiet (first | (go_at_call 18; exact Calls.quiet_of (HEND.out _)))
              go_wp2_with fail
              all_goals (
                refine (HBE.out _ _ _ (by first | exact Or.inr rfl | exact Or.inl (by omega))).mono ?_
                rintro e w4 ⟨rfl, rfl⟩
                go_wp2_with fail
                (first | exact HPE.out _ | (go_ret2; exact HPE.out _)))
            · rw [if_neg e0] at hdec2
              have HPE : Hid (∀ k, PO (.returned (.tuple #[.slice none 0 0, .int .i64 be])) (w2.drewN k)) := Lib.hid fun k =>
                HP.out (.slice none 0 0) ([], be) (w2.drewN k) hdec2 (World.ownsRow_nil _ _ _ _) (below_drewN HB2.out k)
              have d7 : ((be : Int) != 0) = true := by
                rw [bne_iff_ne]
                omega
              clear hdec2 HP HANS e0
              go_wp2_with (at_builtin; refine Lib.wpList_append_run _ rfl _ _ 22 3 rfl (.slice A0 N c0) (.int .i64 Z) rfl rfl (.slice A2 N2 c2) w2 HRUN.out ?_)
              refine HSY.out.mono ?_
              rintro e w3 ⟨rfl, rfl⟩
              go_wp2_with fail
              go_quiet (first | (go_at_call 18; exact Calls.quiet_of (HEND.out _)))
              go_wp2_with fail
              all_goals (
                refine (HBE.out _ _ _ (by first | exact Or.inr rfl | exact Or.inl (by omega))).mono ?_
                rintro e w4 ⟨rfl, rfl⟩
                go_wp2_with fail
                (first | exact HPE.out _ | (go_ret2; exact HPE.out _)))
          · have hs1 : s < n1 := by omega
            have hs3 : 1 < s := by omega
            have d6 : ((s : Int) == (n1 : Int)) = false := by
              rw [beq_eq_false_iff_ne]
              omega
            rw [if_neg (by omega), if_pos (by omega), Int.toNat_natCast, ← HN2.out] at hdec2
            by_cases e4 : most ≤ N2
            · rw [if_pos e4] at hdec2
              have d8 : ((N2 : Int) == (most : Int)) = true := by
                rw [beq_iff_eq]
                omega
              have HPE : Hid (∀ k, PO (.returned (.tuple #[.slice none 0 0, .int .i64 3])) (w2.drewN k)) := Lib.hid fun k =>
                HP.out (.slice none 0 0) ([], 3) (w2.drewN k) hdec2 (World.ownsRow_nil _ _ _ _) (below_drewN HB2.out k)
              clear hdec2 HP HANS e4 hle2 hx01 hs hs2
              go_wp2_with (at_builtin; refine Lib.wpList_append_run _ rfl _ _ 22 3 rfl (.slice A0 N c0) (.int .i64 Z) rfl rfl (.slice A2 N2 c2) w2 HRUN.out ?_)
              refine HSY.out.mono ?_
              rintro e w3 ⟨rfl, rfl⟩
              go_wp2_with fail
              go_quiet (first | (go_at_call 18; exact Calls.quiet_of (HEND.out _)))
              go_wp2_with fail
              (first | exact HPE.out _ | (go_ret2; exact HPE.out _))
            · rw [if_neg e4] at hdec2
              have d8 : ((N2 : Int) == (most : Int)) = false := by
                rw [beq_eq_false_iff_ne]
                omega
              obtain ⟨s1, hs4⟩ : ∃ s1, s1 = s - 1 := ⟨_, rfl⟩
              rw [← hs4] at hdec2
              have hsw : ((s : Int) - 1) = (s1 : Int) := by omega
              have HST := Lib.hid hdec2
              obtain ⟨X, hX⟩ : ∃ X, X = o2.map iv := ⟨_, rfl⟩
              rw [← hX, ← HN2.out] at HO2
              have HX := Lib.hid hX
              have hlt2 : N2 < most := by omega
              have hs1b : s1 ≤ 257 := by omega
              clear hdec2 hX hs4 hx01 hs hs2 hs1 hs3 e1
              go_wp2_with (at_builtin; refine Lib.wpList_append_run _ rfl _ _ 22 3 rfl (.slice A0 N c0) (.int .i64 Z) rfl rfl (.slice A2 N2 c2) w2 HRUN.out ?_)
              refine HSY.out.mono ?_
              rintro e w3 ⟨rfl, rfl⟩
              go_wp2_with fail
              go_quiet (first | (go_at_call 18; exact Calls.quiet_of (HEND.out _)))
              have HB5 := Lib.hid (below_drewN HB2.out nq)
              have HO5 : Hid ((w2.drewN nq).ownsRow w.heap.size 3 1 (.slice A2 N2 c2) N2 X) := Lib.hid HO2.out
              have hcw5 : (w2.drewN nq).cell? ⟨b, off + q, none⟩ = some (.int .i64 (s : Nat)) := hcw2
              have hz5 : w.heap.size ≤ (w2.drewN nq).heap.size := hz2'
              generalize w2.drewN nq = w5 at *
              go_wp2_with (at_builtin; refine wpList_append_own _ rfl _ _ 22 rfl w.heap.size 3 i3 (.int .i64 0) 1 8 Try.underlying22 h3 hz0 hz1 hz2 rfl (by decide) _ _ _ rfl (HO5.out.alloc _) ⟨w5.heap.size, 0, none⟩ 1 1 [.int .i64 s1] rfl rfl ?c1 ?c2 ?c3 ?c4 ?c5 ?_)
              case c1 => exact cell_one _ _ _
              case c2 => intro u hu; simp at hu; subst hu; rfl
              case c3 => unfold maxLen; omega
              case c4 => omega
              case c5 => simp; omega
              intro v6 w6 hown6 hgrow6 _
              have hb6 : Below w.heap.size w w6 := (HB5.out.alloc hz5 _).grown hgrow6 (by simp; omega) (fun k hk => (HO5.out.lt k hk).1)
              have HO6 := Lib.hid hown6
              have HB6 := Lib.hid hb6
              clear hown6 hgrow6 hb6
              go_wp2_with fail
              all_goals (
                go_roundw
                case rel =>
                  refine ⟨_, _, _, L3, o2 ++ [s1], rfl, HZT.out _ (by first | exact Or.inr rfl | exact Or.inl (by omega) | (by_cases h : c3 = 1; exact Or.inl (by omega); exact Or.inr (if_neg h))), by omega, by have := HMM.out; omega, ?_, by rw [List.length_append, ← HN2.out]; show N2 + 1 ≤ most; omega, HST, HB6.out⟩
                  rw [List.length_append, ← HN2.out, List.map_append, ← HX.out]
                  exact HO6.out
                case measure => simp [lenOfSlice]; omega)
        · rw [decide_eq_false hs] at HSY
          have hs2 := hs
          unfold SymOk at hs2
          rw [if_pos (by omega)] at hdec2
          have HPE := Lib.hid (HP.out (.slice none 0 0) _ w2 hdec2 (World.ownsRow_nil _ _ _ _) HB2.out)
          clear hdec2 HP HANS hs hs2 hx01
          go_wp2_with (at_builtin; refine Lib.wpList_append_run _ rfl _ _ 22 3 rfl (.slice A0 N c0) (.int .i64 Z) rfl rfl (.slice A2 N2 c2) w2 HRUN.out ?_)
          refine HSY.out.mono ?_
          rintro e w3 ⟨rfl, rfl⟩
          go_wp2_with fail
          (first | exact HPE.out | (go_ret2; exact HPE.out))
    · have hdec2 := hdec.out.trans (hover n most o hn HSUM.out)
      have HPE := Lib.hid (HP.out (.slice none 0 0) ([], 3) wr hdec2 (World.ownsRow_nil _ _ _ _) HB.out)
      clear hover hdec2 HP HANS
      go_wp2_with fail
      (first | exact HPE.out | (go_ret2; exact HPE.out))

theorem cdec_all (w : World) (A : Option Addr) (m c : Nat) (L : List Int) (n most : Int) (hL : ZIn w A m L) (hmc : m ≤ c) (hm : m ≤ 1000000) : Calls Try.prog 14 #[.int .i64 n, .int .i64 most, .slice A m c] w (ListPost w (decAns n most L)) := by
  by_cases h : n < 1 ∨ 256 < n ∨ most < 0 ∨ 262144 < most
  · rw [show decAns n most L = ([], 2) from if_pos h]
    exact cdec_out w A m c n most h
  · obtain ⟨k, rfl⟩ : ∃ k : Nat, n = k := ⟨n.toNat, by omega⟩
    obtain ⟨j, rfl⟩ : ∃ j : Nat, most = j := ⟨most.toNat, by omega⟩
    rw [show decAns (k : Int) (j : Int) L = decZ k j L [] 1 false by unfold decAns; rw [if_neg h, Int.toNat_natCast, Int.toNat_natCast]]
    exact cdec_any w A m c L k j hL hmc hm (by omega) (by omega) (by omega)

theorem done : ZrunDone where
  run := crun_any
  enc := fun w A m c L n hL hmc hm _ _ => cenc_all w A m c L n hL hmc hm
  dec := fun w A m c L n most hL hmc hm _ _ _ _ => cdec_all w A m c L n most hL hmc (by omega)

end Go.Proofs.Ytdlndcjiccfhgaa
