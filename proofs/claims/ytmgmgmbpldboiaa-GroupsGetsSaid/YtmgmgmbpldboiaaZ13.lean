/- Uz In Ro: texts laid together, what is not used left out. -/
import Derived.Test.YtmgmgmbpldboiaaZ11
import Derived.Test.YtmgmgmbpldboiaaZ12
import Derived.Test.YtmgmgmbpldboiaaZ01
namespace Go.Proofs.Ytmgmgmbpldboiaa
open Go.RowKit

set_option maxHeartbeats 6400000 in
set_option maxRecDepth 100000 in
theorem rgetg_yes (w : World) (v : Value) (T : List (List Int)) (P : List Int) (h : PlanIn w v T P) (A' : Option Addr) (m' c' : Nat) (bits : List Nat) (a0 : Nat) (hbi : IntsIn w A' m' bits) (hmc' : m' ≤ c') (hm' : m' ≤ 1000000) (hc' : c' ≤ maxLen) (h01 : Bit01 bits) (ha0 : a0 ≤ m') (hM : MayPlan T P) :
    Calls Try.prog 13 #[v, .slice A' m' c', .int .i64 a0] w (AllPost w (getG T P bits a0)) := by
  have hpl := h
  obtain ⟨A, n, c, B, m, d, rfl, hT, hnc, hn, hP, hmd, hm⟩ := h
  have hTn := hT.1
  have hPn := hP.1
  obtain ⟨w1, hw1⟩ : ∃ w1, w1 = w.alloc (.cells #[.slice A n c, .slice B m d] 32) := ⟨_, rfl⟩
  have hr1 : Blk w1 w.heap.size 32 #[.slice A n c, .slice B m d] := by rw [hw1]; exact blk_new w _ _
  have hb1 : Below w.heap.size w w1 := by rw [hw1]; exact (Below.refl _ _).alloc (Nat.le_refl _) _
  have hz1 : w.heap.size < w1.heap.size := blk_lt hr1
  have q0 : w1.cell? ⟨w.heap.size, 0, none⟩ = some (.slice A n c) := (blk_cell hr1 0).trans rfl
  have q1 : w1.cell? ⟨w.heap.size, 1, none⟩ = some (.slice B m d) := (blk_cell hr1 1).trans rfl
  have HQ : Hid (∀ wx, Below w1.heap.size w1 wx → wx.cell? ⟨w.heap.size, 0, none⟩ = some (.slice A n c) ∧ wx.cell? ⟨w.heap.size, 1, none⟩ = some (.slice B m d)) := Lib.hid fun wx h =>
    ⟨(h.cell (p := ⟨w.heap.size, 0, none⟩) hz1).trans q0, (h.cell (p := ⟨w.heap.size, 1, none⟩) hz1).trans q1⟩
  have HMAY := Lib.hid (rmay_any w1 _ T P (hpl.below hb1))
  rw [show decide (MayPlan T P) = true from decide_eq_true hM] at HMAY
  obtain ⟨n0, hn0⟩ : ∃ n0, n0 = (T.getD 0 []).length := ⟨_, rfl⟩
  obtain ⟨pn, hpn⟩ : ∃ pn, pn = nl P := ⟨_, rfl⟩
  have hmn := hM
  obtain ⟨hn2, hn6, hm1, hm2, hTs, hPs, hn03⟩ := hmn
  rw [hTn] at hn2 hn6 hPs
  rw [hPn] at hm1 hm2
  rw [← hn0] at hTs hn03
  have hok0 := (hTs _ (list_at (T := T) (q := 0) (by omega))).2
  have hn0b : n0 ≤ 258 := by rw [hn0]; exact hok0.2.1
  have hin : IntsIn w1 B m pn := by rw [hpn]; exact ints_of_zin (hP.below hb1) fun x hx => (hPs x hx).1
  have hpl2 : ∀ x ∈ pn, x < n := by
    intro x hx
    rw [hpn] at hx
    obtain ⟨y, hy, rfl⟩ := List.mem_map.1 hx
    have := hPs y hy
    omega
  have hans : getG T P bits a0 = getF (T.map nl) pn bits n0 (50 * m) 0 a0 [] := by
    rw [getG, if_pos hM, if_neg (by rw [hbi.1]; omega), ← hn0, ← hpn, hPn, Int.toNat_natCast]
  have HPO : Hid (∀ (v : Value) (a : List Nat × Nat × Nat) w', getG T P bits a0 = a → w'.ownsRow w1.heap.size 3 1 v a.1.length (a.1.map iv) → Below w1.heap.size w1 w' → AllPost w (getG T P bits a0) (.returned (.tuple #[v, .int .i64 a.2.1, .int .i64 a.2.2])) w') := Lib.hid fun v a w' h1 h2 h3 => by
    rw [h1]
    exact ⟨v, rfl, World.ownsRow.mono h2 (Nat.le_of_lt hz1), hb1.trans (h3.mono (Nat.le_of_lt hz1))⟩
  have HT := Lib.hid (hT.below hb1)
  have HBI := Lib.hid (ints_low hbi hb1)
  have HBIL := Lib.hid hbi.1
  have H01 := Lib.hid h01
  have HIN := Lib.hid hin
  have HPL := Lib.hid hpl2
  have HTS := Lib.hid hTs
  have HTN := Lib.hid hTn
  have HPN : Hid (pn.length = m) := Lib.hid hin.1
  have HN0 := Lib.hid hn0
  have HCC : Hid (∀ t, t < n → Fits ((T.map nl).getD t []) ∧ ((T.map nl).getD t []).length = n0 ∧ (T.map nl).getD t [] = nl (T.getD t [])) := Lib.hid fun t ht => by
    have h1 := hTs _ (list_at (T := T) (q := t) (by omega))
    have h2 : (T.map nl).getD t [] = nl (T.getD t []) := by
      rw [List.getD_eq_getElem?_getD, List.getElem?_map, List.getD_eq_getElem?_getD, List.getElem?_eq_getElem (by omega)]
      rfl
    rw [h2, nl_length]
    exact ⟨fits_of h1.2, h1.1, rfl⟩
  generalize AllPost w (getG T P bits a0) = PO at *
  generalize getG T P bits a0 = ans at *
  have HANS := Lib.hid hans
  have d0 : decide ((a0 : Int) < 0) = false := decide_eq_false (by omega)
  have d1 : decide ((m' : Int) < (a0 : Int)) = false := decide_eq_false (by omega)
  have dn : decide (m' < a0) = false := decide_eq_false (by omega)
  have HCX := Lib.hid hc'
  obtain ⟨i3, h3, hz0, hz11, hz2⟩ := info_parts Try.info3
  rw [hw1] at q0 q1
  clear hT hP hbi hTn hPn hin hpl hpl2 hTs hPs hpn hans hM hnc hn hmd hm hr1 hb1 hok0 hn0 h01 hc'
  go_enter Try.func13, Try.ntmps13
  go_wp2_with fail
  rw [← hw1]
  clear hw1 q0 q1
  refine HMAY.out.mono ?_
  rintro e w2 ⟨rfl, hb2⟩
  have HB2 := Lib.hid hb2
  clear hb2 HMAY
  go_wp2_with fail
  clear d0 d1 dn
  go_loopw [9, 10] (fun tv iv' wx => ∃ (t : Nat) (G : Nat → Nat), t ≤ n ∧ iv' = .int .i64 t ∧ Tabs w1 wx tv t n0 G fun j => codeB ((T.map nl).getD j [])) (fun _ iv' _ => n - (intOf iv').toNat)
  case atStart => exact ⟨0, fun _ => 0, Nat.zero_le _, rfl, Tabs.nil _ _ _ _ _ HB2.out⟩
  case round =>
    clear HB2
    obtain ⟨t, G, ht, rfl, htb⟩ := hrel
    have HTB := Lib.hid htb
    obtain ⟨p0, p1⟩ := HQ.out _ htb.below
    obtain ⟨A5, c5, rfl, _, _, _⟩ := own_slice htb.row
    by_cases et : t < n
    · have d1 : decide ((t : Int) < (n : Int)) = true := decide_eq_true (by omega)
      have htI : (0 : Int) ≤ (t : Int) := by omega
      have htn : (t : Int) < (n : Int) := by omega
      obtain ⟨b, off, rfl, hc⟩ := (HT.out.below htb.below).2 (by omega)
      obtain ⟨A2, c2, h1, h2, h3', h4⟩ := hc t et
      have hcc := HCC.out t et
      have hts := HTS.out _ (list_at (T := T) (q := t) (by rw [HTN.out]; exact et))
      obtain ⟨K, hK⟩ : ∃ K, K = T.getD t [] := ⟨_, rfl⟩
      rw [← hK] at h1 h2 h3' h4 hcc hts
      rw [hts.1] at h1 h2 h3' h4
      have HTO := Lib.hid (table_own _ A2 n0 c2 K h2 hts.2)
      have HD : Hid (codeB ((T.map nl).getD t []) = codeB (nl K)) := Lib.hid (by rw [hcc.2.2])
      clear htb hc h2 h3' h4 hcc hts hK
      go_wp2_with fail
      refine HTO.out.mono ?_
      rintro e w5 ⟨g, rfl, hg, hb5⟩
      obtain ⟨A6, c6, w6, hr6, htb6⟩ := HTB.out.push hg hb5 (by omega) HD.out
      have HR6 := Lib.hid hr6
      have HTB6 := Lib.hid htb6
      clear hg hb5 hr6 htb6
      go_wp2_with (at_builtin; refine Lib.wpList_append_run _ rfl (.tmp 34) (.tmp 41) 63 63 rfl (.slice A5 t c5) (.slice (some ⟨w5.heap.size, 0, none⟩) 1 1) rfl rfl _ _ HR6.out ?_)
      go_roundw
      case rel => exact ⟨t + 1, _, by omega, by go_num, HTB6.out⟩
      case measure => simp [intOf]; omega
    · obtain rfl : t = n := by omega
      have d1 : decide ((t : Int) < (t : Int)) = false := decide_eq_false (by omega)
      rename World => w6
      obtain ⟨bv, cv, hv, hcells⟩ := htb.read (by omega)
      simp only [Value.slice.injEq] at hv
      obtain ⟨rfl, _, rfl⟩ := hv
      have HB6 := Lib.hid htb.below
      have HC6 : Hid (∀ wx, Below w6.heap.size w6 wx → ∀ j, j < t → ∃ g, wx.cell? ⟨bv, j, none⟩ = some (.slice (some ⟨g, 0, none⟩) n0 n0) ∧ TabR wx g n0 (codeB ((T.map nl).getD j []))) := Lib.hid fun wx hb j hj => by
        obtain ⟨g, h1, h2⟩ := hcells j hj
        exact ⟨g, (hb.cell (p := ⟨bv, j, none⟩) (World.block_lt_of_cell? w6 _ h1)).trans h1, h2.below hb⟩
      obtain ⟨M, hMd⟩ : ∃ M, M = 50 * m := ⟨_, rfl⟩
      have hMI : (50 : Int) * (m : Int) = (M : Int) := by omega
      have hMb : M ≤ 1638350 := by omega
      have HMD := Lib.hid hMd
      have hans := HANS.out
      rw [← hMd] at hans
      have HANS2 := Lib.hid hans
      clear htb HTB hcells hMd hans HANS
      go_wp2_with fail
      go_loopw [2, 11, 12] (fun av ov iv' wx => ∃ (q a : Nat) (o : List Nat), q ≤ M ∧ iv' = .int .i64 q ∧ av = .int .i64 a ∧ a ≤ m' ∧ o.length ≤ a ∧ Hid (ans = getF (T.map nl) pn bits n0 (M - q) q a o) ∧ wx.ownsRow w6.heap.size 3 1 ov o.length (o.map iv) ∧ Below w6.heap.size w6 wx) (fun _ _ iv' _ => M - (intOf iv').toNat)
      case atStart => exact ⟨0, a0, [], Nat.zero_le _, rfl, rfl, ha0, Nat.zero_le _, HANS2, World.ownsRow_nil _ _ _ _, Below.refl _ _⟩
      case round =>
        clear p0 p1
        rename World => wy
        obtain ⟨q, a, o, hq, rfl, rfl, ham, hoa, hrun, hrow, hbx⟩ := hrel
        have hb1y := HB6.out.trans (hbx.mono HB6.out.size)
        obtain ⟨p0, p1⟩ := HQ.out _ hb1y
        have hzy := hbx.size
        obtain ⟨A8, c8, rfl, _, _, _⟩ := own_slice hrow
        obtain ⟨N, hN⟩ : ∃ N, N = o.length := ⟨_, rfl⟩
        rw [← hN] at hrow hoa ⊢
        have HROW := Lib.hid hrow
        have HBX := Lib.hid hbx
        have HB1Y := Lib.hid hb1y
        have HN := Lib.hid hN
        by_cases e : q < M
        · have d0 : decide ((q : Int) < (M : Int)) = true := decide_eq_true (by omega)
          have hqI : (0 : Int) ≤ (q : Int) := by omega
          obtain ⟨k, hk⟩ : ∃ k, k = q / 50 := ⟨_, rfl⟩
          have hkz : (q : Int) / 50 = (k : Int) := by omega
          have hkt : (q : Int).tdiv 50 = (k : Int) := by rw [Int.tdiv_eq_ediv_of_nonneg hqI]; exact hkz
          have hkw : IntKind.i64.wrap (k : Int) = (k : Int) := by rw [IntKind.wrap_i64]; omega
          have hkw2 : IntKind.i64.wrap ((q : Int).tdiv 50) = (k : Int) := by rw [hkt, hkw]
          have hkw3 : IntKind.i64.wrap ((q : Int) / 50) = (k : Int) := by rw [hkz, hkw]
          have hkm : k < m := by have := HMD.out; omega
          have hkI : (0 : Int) ≤ (k : Int) := by omega
          have hkmI : (k : Int) < (m : Int) := by omega
          obtain ⟨bp, op, rfl, hcp⟩ := (ints_low HIN.out HB1Y.out).2 (by omega)
          have hcpk := hcp k hkm
          have hpt := HPL.out _ (nat_mem (L := pn) (j := k) (by rw [HPN.out]; exact hkm))
          have hstep := hrun.out
          rw [show M - q = (M - q - 1) + 1 by omega, getF_more, ← hk] at hstep
          obtain ⟨pk, hpk⟩ : ∃ pk, pk = pn.getD k 0 := ⟨_, rfl⟩
          rw [← hpk] at hcpk hpt hstep
          have hpI : (0 : Int) ≤ (pk : Int) := by omega
          have hptI : (pk : Int) < (t : Int) := by omega
          obtain ⟨g, hcg, htr⟩ := HC6.out _ HBX.out pk hpt
          have hcc := HCC.out pk hpt
          obtain ⟨l, hl⟩ : ∃ l, l = (T.map nl).getD pk [] := ⟨_, rfl⟩
          rw [← hl] at htr hcc hstep
          have HNX := Lib.hid (next_any wy g n0 l htr hcc.1 hcc.2.1 hn0b A' m' c' bits (ints_low HBI.out HB1Y.out) hmc' hm' HCX.out H01.out a ham)
          have HFIT := Lib.hid hcc.1
          have HLL := Lib.hid hcc.2.1
          obtain ⟨X, hX⟩ : ∃ X, X = o.map iv := ⟨_, rfl⟩
          rw [← hX] at HROW
          have HX := Lib.hid hX
          clear hk hcp hpk htr hcc hl hrow hbx hb1y hN hX hrun
          cases hx : nextL l (bits.drop a) with
          | hit x =>
            rw [hx] at HNX hstep
            have his := nextF_is 20 1 (show nextF l (bits.drop a) 20 1 = .hit x from hx)
            have hin := his.2.1
            have hone := HFIT.out.one hin
            have hle : a + l.getD x 0 ≤ m' := by
              have := his.1
              rw [List.length_drop, HBIL.out] at this
              omega
            rw [HLL.out] at hin
            obtain ⟨a2, ha2⟩ : ∃ a2, a2 = a + l.getD x 0 := ⟨_, rfl⟩
            have HNX2 : Hid (Calls Try.prog 31 #[.slice (some ⟨g, 0, none⟩) n0 n0, .slice A' m' c', .int .i64 a] wy fun e w' => e = .returned (.tuple #[.int .i64 (x : Nat), .int .i64 (a2 : Nat), .int .i64 0]) ∧ ∃ d, w' = wy.drewN d) := Lib.hid (by
              have h := HNX.out
              rw [show nxAns l a (.hit x) = (x, a2, 0) by rw [ha2]; rfl] at h
              exact h)
            have hst2 : ans = if x + 1 = n0 then (o ++ [x], a2, 0) else getF (T.map nl) pn bits n0 (M - q - 1) (q + 1) a2 (o ++ [x]) := by rw [hstep, ha2]
            rw [← ha2] at hle
            have ha3 : a < a2 := by omega
            have HST := Lib.hid hst2
            obtain ⟨n1, hn1⟩ : ∃ n1, n1 = n0 - 1 := ⟨_, rfl⟩
            have hn1I : (n0 : Int) - 1 = (n1 : Int) := by omega
            have HN1 := Lib.hid hn1
            clear hstep hst2 hx his hone ha2 HNX hn1
            go_wp2_with fail
            refine HNX2.out.mono ?_
            rintro e w7 ⟨rfl, dd, rfl⟩
            have HO3 : Hid ((wy.drewN dd).ownsRow w6.heap.size 3 1 (.slice A8 N c8) N X) := HROW
            have HB3 := Lib.hid (below_drewN HBX.out dd)
            have hz5 : w6.heap.size ≤ (wy.drewN dd).heap.size := hzy
            clear p0 p1 hcpk hcg HROW HBX HB1Y HNX2
            generalize wy.drewN dd = w8 at *
            go_wp2_with (at_builtin; refine wpList_append_own _ rfl _ _ 30 rfl w6.heap.size 3 i3 (.int .i64 0) 1 8 Try.underlying30 h3 hz0 hz11 hz2 rfl (by decide) _ _ _ rfl (HO3.out.alloc _) ⟨w8.heap.size, 0, none⟩ 1 1 [.int .i64 x] rfl rfl ?c1 ?c2 ?c3 ?c4 ?c5 ?_)
            case c1 => exact cell_one _ _ _
            case c2 => intro u hu; simp at hu; subst hu; rfl
            case c3 => unfold maxLen; omega
            case c4 => omega
            case c5 => simp; omega
            intro v9 w9 hown9 hgrow9 _
            have hb9 : Below w6.heap.size w6 w9 := (HB3.out.alloc hz5 _).grown hgrow9 (by simp; omega) (fun k hk => (HO3.out.lt k hk).1)
            obtain ⟨A9, c9, rfl, hn9, hm9, _⟩ := own_slice hown9
            have HO9 := Lib.hid hown9
            have HB9 := Lib.hid hb9
            have hb19 := HB6.out.trans (hb9.mono HB6.out.size)
            have HB19 := Lib.hid hb19
            obtain ⟨p0, p1⟩ := HQ.out _ hb19
            obtain ⟨b0, o0, rfl, hc0⟩ := (HT.out.below hb19).2 (by omega)
            obtain ⟨A0, c0, h01', _⟩ := hc0 0 (by omega)
            rw [← HN0.out] at h01'
            have h02 := h01'
            rw [Nat.add_zero] at h02
            have htI : (0 : Int) < (t : Int) := by omega
            clear hown9 hgrow9 hb9 hb19 hc0
            by_cases ex : x + 1 = n0
            · have d4 : ((x : Int) == (n1 : Int)) = true := by
                have := HN1.out
                rw [beq_iff_eq]
                omega
              have hans2 := HST.out
              rw [if_pos ex] at hans2
              have HPE := Lib.hid (HPO.out (.slice A9 (N + 1) c9) (o ++ [x], a2, 0) w9 hans2 (by
                rw [List.length_append, ← HN.out, List.map_append, ← HX.out]
                exact World.ownsRow.mono HO9.out HB6.out.size) HB19.out)
              clear hans2 HST ex
              go_wp2_with fail
              first | exact HPE.out | (go_ret3; exact HPE.out)
            · have d4 : ((x : Int) == (n1 : Int)) = false := by
                have := HN1.out
                rw [beq_eq_false_iff_ne]
                omega
              have hans2 := HST.out
              rw [if_neg ex] at hans2
              have HA3 := Lib.hid hans2
              clear hans2 HST ex
              go_wp2_with fail
              go_roundw
              case rel =>
                refine ⟨q + 1, a2, o ++ [x], by omega, by go_num, rfl, hle, by rw [List.length_append, ← HN.out]; show N + 1 ≤ a2; omega, Lib.hid ?_, ?_, HB9.out⟩
                · rw [show M - (q + 1) = M - q - 1 by omega]
                  exact HA3.out
                · rw [List.length_append, ← HN.out, List.map_append, ← HX.out]
                  exact HO9.out
              case measure => simp [intOf]; omega
          | short =>
            rw [hx] at HNX hstep
            have HPE := Lib.hid fun d => HPO.out (.slice none 0 0) _ (wy.drewN d) hstep (World.ownsRow_nil _ _ _ _) (below_drewN HB1Y.out d)
            have HNX2 : Hid (Calls Try.prog 31 #[.slice (some ⟨g, 0, none⟩) n0 n0, .slice A' m' c', .int .i64 a] wy fun e w' => e = .returned (.tuple #[.int .i64 0, .int .i64 0, .int .i64 10]) ∧ ∃ d, w' = wy.drewN d) := HNX
            clear hstep hx HNX
            go_wp2_with fail
            refine HNX2.out.mono ?_
            rintro e w7 ⟨rfl, dd, rfl⟩
            go_wp2_with fail
            first | exact HPE.out _ | (go_ret3; exact HPE.out _)
          | code =>
            rw [hx] at HNX hstep
            have HPE := Lib.hid fun d => HPO.out (.slice none 0 0) _ (wy.drewN d) hstep (World.ownsRow_nil _ _ _ _) (below_drewN HB1Y.out d)
            have HNX2 : Hid (Calls Try.prog 31 #[.slice (some ⟨g, 0, none⟩) n0 n0, .slice A' m' c', .int .i64 a] wy fun e w' => e = .returned (.tuple #[.int .i64 0, .int .i64 0, .int .i64 90]) ∧ ∃ d, w' = wy.drewN d) := HNX
            clear hstep hx HNX
            go_wp2_with fail
            refine HNX2.out.mono ?_
            rintro e w7 ⟨rfl, dd, rfl⟩
            go_wp2_with fail
            first | exact HPE.out _ | (go_ret3; exact HPE.out _)
        · have d0 : decide ((q : Int) < (M : Int)) = false := decide_eq_false (by omega)
          have hend := hrun.out
          rw [show M - q = 0 by omega] at hend
          have hend2 : ans = ([], 0, 110) := hend
          have HPE := Lib.hid (HPO.out (.slice none 0 0) _ wy hend2 (World.ownsRow_nil _ _ _ _) HB1Y.out)
          clear hend hend2 hrun hrow hbx hN hb1y
          go_wp2_with fail
          first | exact HPE.out | (go_ret3; exact HPE.out)
theorem rgetg_any (w : World) (v : Value) (T : List (List Int)) (P : List Int) (h : PlanIn w v T P) (A' : Option Addr) (m' c' : Nat) (bits : List Nat) (at' : Int) (hbi : IntsIn w A' m' bits) (hmc' : m' ≤ c') (hm' : m' ≤ 1000000) (hc' : c' ≤ maxLen) (h01 : Bit01 bits) :
    Calls Try.prog 13 #[v, .slice A' m' c', .int .i64 at'] w (AllPost w (getG T P bits at')) := by
  by_cases hM : MayPlan T P ∧ 0 ≤ at' ∧ at' ≤ (m' : Int)
  · obtain ⟨a0, rfl⟩ : ∃ a0 : Nat, at' = a0 := ⟨at'.toNat, by omega⟩
    exact rgetg_yes w v T P h A' m' c' bits a0 hbi hmc' hm' hc' h01 (by omega) hM.1
  · exact rgetg_out w v T P h A' m' c' bits at' hbi.1 hm' hM

end Go.Proofs.Ytmgmgmbpldboiaa
namespace Go.Proofs.Ytmgmgmbpldboiaa
open Go.RowKit

set_option maxHeartbeats 1600000 in
set_option maxRecDepth 100000 in
theorem ints_same (w : World) (A B : Option Addr) (n c d : Nat) (L : List Nat) (h : IntsIn w A n L) (k : IntsIn w B n L) (hn : n ≤ 1000000) :
    Calls Try.prog 15 #[.slice A n c, .slice B n d] w fun e w' => e = .returned (.bool true) ∧ ∃ m, w' = w.drewN m := by
  have d0 : ((n : Int) != (n : Int)) = false := by simp
  have H := Lib.hid h
  have K := Lib.hid k
  clear h k
  go_enter Try.func15, Try.ntmps15
  go_wp2_with fail
  go_loopw [5] (fun x wr => ∃ q : Nat, q ≤ n ∧ x = .int .i64 q ∧ ∃ m, wr = w.drewN m) (fun x _ => n - (intOf x).toNat)
  case atStart => exact ⟨0, Nat.zero_le _, rfl, 0, rfl⟩
  case round =>
    obtain ⟨q, hq, rfl, hd⟩ := hrel
    have HD := Lib.hid hd
    by_cases e : q < n
    · obtain ⟨b1, o1, rfl, hc1⟩ := H.out.2 (by omega)
      obtain ⟨b2, o2, rfl, hc2⟩ := K.out.2 (by omega)
      have c1 : wr.cell? ⟨b1, o1 + q, none⟩ = some (.int .i64 (L.getD q 0)) := by obtain ⟨m, rfl⟩ := hd; exact hc1 q e
      have c2 : wr.cell? ⟨b2, o2 + q, none⟩ = some (.int .i64 (L.getD q 0)) := by obtain ⟨m, rfl⟩ := hd; exact hc2 q e
      obtain ⟨v, hv⟩ : ∃ v, v = L.getD q 0 := ⟨_, rfl⟩
      rw [← hv] at c1 c2
      clear hv hd hc1 hc2
      have d1 : decide ((q : Int) < (n : Int)) = true := decide_eq_true (by omega)
      have d2 : ((v : Int) != (v : Int)) = false := by simp
      go_wp2_with fail
      go_quiet (fail)
      go_wp2_with fail
      go_roundw
      case rel =>
        obtain ⟨m, hm⟩ := HD.out
        exact ⟨q + 1, by omega, by go_num, m + nq, by rw [hm]; simp⟩
      case measure => simp [intOf]; omega
    · have d1 : decide ((q : Int) < (n : Int)) = false := decide_eq_false (by omega)
      clear hd
      go_wp2_with fail
      go_ret
      exact ⟨rfl, HD.out⟩

end Go.Proofs.Ytmgmgmbpldboiaa
namespace Go.Proofs.Ytmgmgmbpldboiaa
open Go.RowKit

set_option maxRecDepth 100000 in
theorem of_any (w : World) (s : ByteArray) (hs : s.size ≤ 1000000) :
    Calls Try.prog 14 #[.string s] w fun e w' => ∃ v, e = .returned v ∧ w'.ownsRow w.heap.size 3 1 v (8 * s.size) ((bitsB s.data.toList).map iv) ∧ Below w.heap.size w w' := by
  obtain ⟨i3, hi, hz0, hz1, hz2⟩ := info_parts Try.info3
  go_enter Try.func14, Try.ntmps14
  go_wp2
  go_loopw [3, 4] (fun v i wr => ∃ j : Nat, j ≤ s.size ∧ i = .int .i64 j ∧ wr.ownsRow w.heap.size 3 1 v (8 * j) ((bitsB (s.data.toList.take j)).map iv) ∧ Below w.heap.size w wr) (fun _ i _ => s.size - (intOf i).toNat)
  case atStart => exact ⟨0, Nat.zero_le _, rfl, World.ownsRow_nil _ _ _ _, Below.refl _ _⟩
  case round =>
    obtain ⟨j, hj, rfl, hown, hb⟩ := hrel
    rename_i v0 _
    have hsize := hb.size
    by_cases h : j < s.size
    · go_wp2
      obtain ⟨wo, ho⟩ : ∃ wo : World, wo = wr := ⟨_, rfl⟩
      have HO := Lib.hid ho
      clear ho
      go_loopw [3, 5] (fun v k wx => ∃ m r : Nat, m + r = 8 ∧ k = .int .i64 ((r : Int) - 1) ∧ wx.ownsRow w.heap.size 3 1 v (8 * j + m) ((bitsB (s.data.toList.take j) ++ (bitsN (s[j]).toNat 8).take m).map iv) ∧ Below w.heap.size w wx) (fun _ k _ => (intOf k + 1).toNat)
      case atStart => exact ⟨0, 8, rfl, rfl, by simpa using hown, hb⟩
      case round =>
        obtain ⟨m, r, hmr, rfl, hown1, hb1⟩ := hrel
        have hmr1 : m ≤ 8 := by omega
        have hsize1 := hb1.size
        match r, hmr with
        | 0, hmr =>
          obtain rfl : m = 8 := by omega
          have e1 : ((0 : Nat) : Int) - 1 = -1 := rfl
          rw [e1]
          clear e1
          have hown4 := hown1
          rw [List.take_of_length_le (show (bitsN (s[j]).toNat 8).length ≤ 8 by rw [bitsN_length]; exact Nat.le_refl _)] at hown4
          have HT : Hid (s.data.toList.take (j + 1) = s.data.toList.take j ++ [s[j]]) := by
            have hjl : j < s.data.toList.length := by simpa using h
            exact List.take_succ_eq_append_getElem hjl
          go_wp2
          go_roundw
          case rel =>
            refine ⟨j + 1, h, by go_num, ?_, hb1⟩
            rw [HT.out, bitsB_append, bitsB_cons, bitsB_nil, List.append_nil]
            exact hown4
          case measure => simp [intOf]; omega
        | q + 1, hmr =>
          have e1 : ((q + 1 : Nat) : Int) - 1 = (q : Int) := by omega
          rw [e1]
          clear e1
          have hq : (q : Int) ≤ 7 := by omega
          obtain ⟨xs, hxs⟩ : ∃ xs, xs = (bitsB (s.data.toList.take j) ++ (bitsN (s[j]).toNat 8).take m).map iv := ⟨_, rfl⟩
          rw [← hxs] at hown1
          have HX := Lib.hid hxs
          clear hxs
          have hbyte : (s[j].toNat : Int) < 256 := by have := s[j].toNat_lt; omega
          go_wp2_with (at_builtin; refine wpList_append_own _ rfl _ _ 30 rfl w.heap.size 3 i3 (.int .i64 0) 1 8 Try.underlying30 hi hz0 hz1 hz2 rfl (by decide) _ _ _ rfl (hown1.alloc _) ⟨wr.heap.size, 0, none⟩ 1 1 [.int .i64 (bits BinOp.and IntKind.i64 (s[j].toNat / 2 ^ q) 1)] rfl rfl ?c1 ?c2 ?c3 ?c4 ?c5 ?_)
          case c1 => exact cell_one_new _ _ _
          case c2 => intro u hu; simp at hu; subst hu; rfl
          case c3 => unfold maxLen; omega
          case c4 => omega
          case c5 => simp; omega
          intro v2 w2 hown2 hgrow2 _
          have hb2 : Below w.heap.size w w2 := (hb1.alloc hsize1 _).grown hgrow2 (by simp; omega) (fun k hk => (hown1.lt k hk).1)
          have HE := bit_and _ q s[j].toNat_lt
          rw [HE] at hown2
          clear HE
          have hown3 : w2.ownsRow w.heap.size 3 1 v2 (8 * j + (m + 1)) ((bitsB (s.data.toList.take j) ++ (bitsN (s[j]).toNat 8).take (m + 1)).map iv) := by
            have hg := bitsN_get 8 (s[j]).toNat m (by omega)
            rw [List.take_add_one, hg, ← List.append_assoc, List.map_append, ← HX.out, show 8 - 1 - m = q by omega, ← Nat.add_assoc]
            exact hown2
          clear hown2 hgrow2 hown1 hb1
          go_wp2
          go_roundw
          case rel => exact ⟨m + 1, q, by omega, rfl, hown3, hb2⟩
          case measure => simp [intOf]
    · obtain rfl : j = s.size := by omega
      go_wp2
      go_ret
      refine ⟨_, rfl, ?_, hb⟩
      rw [List.take_of_length_le (by simp)] at hown
      exact hown

end Go.Proofs.Ytmgmgmbpldboiaa
