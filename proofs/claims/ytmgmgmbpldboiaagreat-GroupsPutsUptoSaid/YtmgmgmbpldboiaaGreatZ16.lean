/- Uq Ur: texts laid together, what is not used left out. -/
import Derived.Test.YtmgmgmbpldboiaaGreatZ15
namespace Go.Proofs.YtmgmgmbpldboiaaGreat
open Go.RowKit

/-- Symbols may be told by a plan. -/
def FitG (T : List (List Int)) (P L : List Int) : Prop := MayPlan T P ∧ groupsN L.length ≤ P.length
instance (T : List (List Int)) (P L : List Int) : Decidable (FitG T P L) := inferInstanceAs (Decidable (_ ∧ _))
/-- What Codes answers. -/
def codesG (T : List (List Int)) (P L : List Int) : List Nat × Nat :=
  if FitG T P L then (if ∀ x ∈ L, 0 ≤ x ∧ x < ((T.getD 0 []).length : Int) then (codesQ (T.map nl) (nl P) (nl L) L.length, 0) else ([], 60)) else ([], 110)

set_option maxHeartbeats 3200000 in
set_option maxRecDepth 100000 in
theorem rcodes_few (w : World) (v : Value) (T : List (List Int)) (P : List Int) (h : PlanIn w v T P) (A' : Option Addr) (n' c' : Nat) (L : List Int) (hL : L.length = n') (hn' : n' ≤ 2000000) (hP : MayPlan T P) (hM : ¬ FitG T P L) :
    Calls Tryz.prog 62 #[v, .slice A' n' c'] w (ListPost w (codesG T P L)) := by
  obtain ⟨A, n, c, B, m, d, rfl, hpl, hPm, hmm⟩ : ∃ A n c B m d, v = .agg #[.slice A n c, .slice B m d] ∧ PlanIn w (.agg #[.slice A n c, .slice B m d]) T P ∧ P.length = m ∧ m ≤ maxLen := by
    obtain ⟨A, n, c, B, m, d, hv, hr1, hr2, hr3, hr4, hr5, hr6⟩ := id h
    exact ⟨A, n, c, B, m, d, hv, by rw [← hv]; exact h, hr4.1, hr6⟩
  clear h
  obtain ⟨w1, hw1⟩ : ∃ w1, w1 = w.alloc (.cells #[.slice A n c, .slice B m d] 26) := ⟨_, rfl⟩
  have hr1 : Blk w1 w.heap.size 26 #[.slice A n c, .slice B m d] := by rw [hw1]; exact blk_new w _ _
  have hb1 : Below w.heap.size w w1 := by rw [hw1]; exact (Below.refl _ _).alloc (Nat.le_refl _) _
  have hz1 : w.heap.size < w1.heap.size := blk_lt hr1
  have q0 : w1.cell? ⟨w.heap.size, 0, none⟩ = some (.slice A n c) := (blk_cell hr1 0).trans rfl
  have q1 : w1.cell? ⟨w.heap.size, 1, none⟩ = some (.slice B m d) := (blk_cell hr1 1).trans rfl
  have HMAY := Lib.hid (rmay_any w1.drew _ T P (hpl.below (hb1.drew)))
  have HGR := Lib.hid fun (wx : World) => rgroups_any wx n' (by omega)
  have HPE : Hid (∀ w', Below w.heap.size w w' → ListPost w (codesG T P L) (.returned (.tuple #[.slice none 0 0, .int .i64 110])) w') := Lib.hid fun w' hb => by
    rw [show codesG T P L = ([], 110) from if_neg hM]
    exact ⟨_, rfl, World.ownsRow_nil _ _ _ _, hb⟩
  have HB1 := Lib.hid hb1
  have hM2 : ¬ (MayPlan T P ∧ groupsN n' ≤ m) := by rw [← hL, ← hPm]; exact hM
  generalize ListPost w (codesG T P L) = PO at *
  obtain ⟨z, hz⟩ : ∃ z, z = groupsN n' := ⟨_, rfl⟩
  have hzb : z ≤ 50000 := by rw [hz]; unfold groupsN; omega
  rw [← hz] at hM2 HGR
  unfold maxLen at hmm
  rw [show decide (MayPlan T P) = true from decide_eq_true hP] at HMAY
  have d0 : decide ((m : Int) < (z : Int)) = true := decide_eq_true (by have : ¬ z ≤ m := fun k => hM2 ⟨hP, k⟩; omega)
  clear hb1 hr1 hpl hM hM2 hP hz hL hPm
  go_enter Tryz.func62, Tryz.ntmps62
  go_upto_region 1 with fail
  rw [← hw1]
  clear hw1
  go_region_held3 (fun w' => w'.cell? ⟨w.heap.size, 0, none⟩ = some (.slice A n c) ∧ w'.cell? ⟨w.heap.size, 1, none⟩ = some (.slice B m d))
    (first | exact ⟨q0, q1⟩ | exact ⟨p0, p1⟩ | go_keep)
    (first
      | (go_at_call 105; refine HMAY.out.mono ?_; rintro e w2 ⟨rfl, hb2⟩
         have p0 : w2.cell? ⟨w.heap.size, 0, none⟩ = some (.slice A n c) := (hb2.cell (p := ⟨w.heap.size, 0, none⟩) hz1).trans q0
         have p1 : w2.cell? ⟨w.heap.size, 1, none⟩ = some (.slice B m d) := (hb2.cell (p := ⟨w.heap.size, 1, none⟩) hz1).trans q1
         have HB2 := Lib.hid (HB1.out.drew.trans (hb2.mono HB1.out.drew.size)))
      | (go_at_call 37; refine (HGR.out _).mono ?_; rintro e w3 ⟨rfl, rfl⟩))
  have dn : decide (m < z) = true := decide_eq_true (by have := of_decide_eq_true d0; omega)
  rw [dn]
  go_wp2_with fail
  first | exact HPE.out _ HB2.out | (go_ret2; exact HPE.out _ HB2.out)

set_option maxHeartbeats 3200000 in
set_option maxRecDepth 100000 in
theorem rcodes_yes (w : World) (v : Value) (T : List (List Int)) (P : List Int) (h : PlanIn w v T P) (A' : Option Addr) (n' c' : Nat) (L : List Int) (hL : ZIn w A' n' L) (hn' : n' ≤ 2000000) (hM : FitG T P L) :
    Calls Tryz.prog 62 #[v, .slice A' n' c'] w (ListPost w (codesG T P L)) := by
  have hpl := h
  obtain ⟨A, n, c, B, m, d, rfl, hT, hnc, hn, hP, hmd, hm⟩ := h
  have hTn := hT.1
  have hPn := hP.1
  have hLn := hL.1
  obtain ⟨w1, hw1⟩ : ∃ w1, w1 = w.alloc (.cells #[.slice A n c, .slice B m d] 26) := ⟨_, rfl⟩
  have hr1 : Blk w1 w.heap.size 26 #[.slice A n c, .slice B m d] := by rw [hw1]; exact blk_new w _ _
  have hb1 : Below w.heap.size w w1 := by rw [hw1]; exact (Below.refl _ _).alloc (Nat.le_refl _) _
  have hz1 : w.heap.size < w1.heap.size := blk_lt hr1
  have q0 : w1.cell? ⟨w.heap.size, 0, none⟩ = some (.slice A n c) := (blk_cell hr1 0).trans rfl
  have q1 : w1.cell? ⟨w.heap.size, 1, none⟩ = some (.slice B m d) := (blk_cell hr1 1).trans rfl
  have HQ : Hid (∀ wx, Below w1.heap.size w1 wx → wx.cell? ⟨w.heap.size, 0, none⟩ = some (.slice A n c) ∧ wx.cell? ⟨w.heap.size, 1, none⟩ = some (.slice B m d)) := Lib.hid fun wx h =>
    ⟨(h.cell (p := ⟨w.heap.size, 0, none⟩) hz1).trans q0, (h.cell (p := ⟨w.heap.size, 1, none⟩) hz1).trans q1⟩
  have HMAY := Lib.hid (rmay_any w1.drew _ T P (hpl.below (hb1.drew)))
  rw [show decide (MayPlan T P) = true from decide_eq_true hM.1] at HMAY
  have HGR := Lib.hid fun (wx : World) => rgroups_any wx n' (by omega)
  obtain ⟨n0, hn0⟩ : ∃ n0, n0 = (T.getD 0 []).length := ⟨_, rfl⟩
  obtain ⟨pn, hpn⟩ : ∃ pn, pn = nl P := ⟨_, rfl⟩
  have hmn := hM.1
  obtain ⟨hn2, hn6, hm1, hm2, hTs, hPs, hn03⟩ := hmn
  rw [hTn] at hn2 hn6 hPs
  rw [hPn] at hm1 hm2
  rw [← hn0] at hTs hn03
  have hok0 := (hTs _ (list_at (T := T) (q := 0) (by omega))).2
  have hn0b : n0 ≤ 258 := by rw [hn0]; exact hok0.2.1
  have hin : IntsIn w1 B m pn := by rw [hpn]; exact ints_of_zin (hP.below hb1) fun x hx => (hPs x hx).1
  have hpl2 : ∀ x ∈ pn, x < n := by
    intro x hx
    rw [hpn] at hx
    obtain ⟨y, hy, rfl⟩ := List.mem_map.1 hx
    have := hPs y hy
    omega
  have hzm : groupsN n' ≤ m := by have := hM.2; rw [hLn, hPn] at this; exact this
  have hin2 : n' ≤ 50 * m := by unfold groupsN at hzm; omega
  have hans : codesG T P L = if ∀ x ∈ L, 0 ≤ x ∧ x < (n0 : Int) then (codesQ (T.map nl) pn (nl L) n', 0) else ([], 60) := by
    unfold codesG
    rw [if_pos hM, ← hn0, ← hpn, hLn]
  have HPO : Hid (∀ (v : Value) (a : List Nat × Nat) w', codesG T P L = a → w'.ownsRow w1.heap.size 3 1 v a.1.length (a.1.map iv) → Below w1.heap.size w1 w' → ListPost w (codesG T P L) (.returned (.tuple #[v, .int .i64 a.2])) w') := Lib.hid fun v a w' h1 h2 h3 => by
    rw [h1]
    exact ⟨v, rfl, World.ownsRow.mono h2 (Nat.le_of_lt hz1), hb1.trans (h3.mono (Nat.le_of_lt hz1))⟩
  have HT := Lib.hid (hT.below hb1)
  have HL := Lib.hid (hL.below hb1)
  have HIN := Lib.hid hin
  have HPL := Lib.hid hpl2
  have HTS := Lib.hid hTs
  have HTN := Lib.hid hTn
  have HLN := Lib.hid hLn
  have HPN : Hid (pn.length = m) := Lib.hid hin.1
  have HN0 := Lib.hid hn0
  obtain ⟨z, hz⟩ : ∃ z, z = groupsN n' := ⟨_, rfl⟩
  rw [← hz] at hzm HGR
  have HCC : Hid (∀ t, t < n → Fits ((T.map nl).getD t []) ∧ ((T.map nl).getD t []).length = n0 ∧ (T.map nl).getD t [] = nl (T.getD t [])) := Lib.hid fun t ht => by
    have h1 := hTs _ (list_at (T := T) (q := t) (by omega))
    have h2 : (T.map nl).getD t [] = nl (T.getD t []) := by
      rw [List.getD_eq_getElem?_getD, List.getElem?_map, List.getD_eq_getElem?_getD, List.getElem?_eq_getElem (by omega)]
      rfl
    rw [h2, nl_length]
    exact ⟨fits_of h1.2, h1.1, rfl⟩
  generalize ListPost w (codesG T P L) = PO at *
  generalize codesG T P L = ans at *
  have HANS := Lib.hid hans
  have d0 : decide ((m : Int) < (z : Int)) = false := decide_eq_false (by omega)
  have dn : decide (m < z) = false := decide_eq_false (by omega)
  clear hT hP hL hTn hPn hLn hin hpl hpl2 hTs hPs hpn hans hM hnc hn hmd hm hr1 hb1 hok0 hn0 hz hzm
  go_enter Tryz.func62, Tryz.ntmps62
  go_upto_region 1 with fail
  rw [← hw1]
  clear hw1
  go_region_held3 (fun w' => w'.cell? ⟨w.heap.size, 0, none⟩ = some (.slice A n c) ∧ w'.cell? ⟨w.heap.size, 1, none⟩ = some (.slice B m d))
    (first | exact ⟨q0, q1⟩ | exact ⟨p0, p1⟩ | go_keep)
    (first
      | (go_at_call 105; refine HMAY.out.mono ?_; rintro e w2 ⟨rfl, hb2⟩
         have p0 : w2.cell? ⟨w.heap.size, 0, none⟩ = some (.slice A n c) := (hb2.cell (p := ⟨w.heap.size, 0, none⟩) hz1).trans q0
         have p1 : w2.cell? ⟨w.heap.size, 1, none⟩ = some (.slice B m d) := (hb2.cell (p := ⟨w.heap.size, 1, none⟩) hz1).trans q1
         have HB2 := Lib.hid ((Below.refl _ w1).drew.trans hb2))
      | (go_at_call 37; refine (HGR.out _).mono ?_; rintro e w3 ⟨rfl, rfl⟩))
  go_wp2_with fail
  clear d0 dn HMAY HGR q0 q1
  rename World => w2
  go_loopw [7, 8] (fun tv iv' wx => ∃ (t : Nat) (G : Nat → Nat), t ≤ n ∧ iv' = .int .i64 t ∧ Tabs w1 wx tv t n0 G fun j => codeB ((T.map nl).getD j [])) (fun _ iv' _ => n - (intOf iv').toNat)
  case atStart => exact ⟨0, fun _ => 0, Nat.zero_le _, rfl, Tabs.nil _ _ _ _ _ HB2.out⟩
  case round =>
    clear HB2 p0 p1
    obtain ⟨t, G, ht, rfl, htb⟩ := hrel
    have HTB := Lib.hid htb
    obtain ⟨p0, p1⟩ := HQ.out _ htb.below
    obtain ⟨A5, c5, rfl, _, _, _⟩ := own_slice htb.row
    by_cases et : t < n
    · have d1 : decide ((t : Int) < (n : Int)) = true := decide_eq_true (by omega)
      have htI : (0 : Int) ≤ (t : Int) := by omega
      have htn : (t : Int) < (n : Int) := by omega
      obtain ⟨b, off, rfl, hc⟩ := (HT.out.below htb.below).2 (by omega)
      obtain ⟨A2, c2, h1, h2, h3, h4⟩ := hc t et
      have hcc := HCC.out t et
      have hts := HTS.out _ (list_at (T := T) (q := t) (by rw [HTN.out]; exact et))
      obtain ⟨K, hK⟩ : ∃ K, K = T.getD t [] := ⟨_, rfl⟩
      rw [← hK] at h1 h2 h3 h4 hcc hts
      rw [hts.1] at h1 h2 h3 h4
      have HTO := Lib.hid (table_own _ A2 n0 c2 K h2 hts.2)
      have HD : Hid (codeB ((T.map nl).getD t []) = codeB (nl K)) := Lib.hid (by rw [hcc.2.2])
      clear htb hc h2 h3 h4 hcc hts hK
      go_wp2_with fail
      refine HTO.out.mono ?_
      rintro e w5 ⟨g, rfl, hg, hb5⟩
      obtain ⟨A6, c6, w6, hr6, htb6⟩ := HTB.out.push hg hb5 (by omega) HD.out
      have HR6 := Lib.hid hr6
      have HTB6 := Lib.hid htb6
      clear hg hb5 hr6 htb6
      go_wp2_with (at_builtin; refine Lib.wpList_append_run _ rfl (.tmp 29) (.tmp 36) 137 137 rfl (.slice A5 t c5) (.slice (some ⟨w5.heap.size, 0, none⟩) 1 1) rfl rfl _ _ HR6.out ?_)
      go_roundw
      case rel => exact ⟨t + 1, _, by omega, by go_num, HTB6.out⟩
      case measure => simp [intOf]; omega
    · obtain rfl : t = n := by omega
      have d1 : decide ((t : Int) < (t : Int)) = false := decide_eq_false (by omega)
      rename World => w6
      obtain ⟨bv, cv, hv, hcells⟩ := htb.read (by omega)
      simp only [Value.slice.injEq] at hv
      obtain ⟨rfl, _, rfl⟩ := hv
      have HB6 := Lib.hid htb.below
      have HC6 : Hid (∀ wx, Below w6.heap.size w6 wx → ∀ j, j < t → ∃ g, wx.cell? ⟨bv, j, none⟩ = some (.slice (some ⟨g, 0, none⟩) n0 n0) ∧ TabR wx g n0 (codeB ((T.map nl).getD j []))) := Lib.hid fun wx hb j hj => by
        obtain ⟨g, h1, h2⟩ := hcells j hj
        exact ⟨g, (hb.cell (p := ⟨bv, j, none⟩) (World.block_lt_of_cell? w6 _ h1)).trans h1, h2.below hb⟩
      clear htb HTB hcells
      go_wp2_with fail
      go_loopw [6, 9] (fun ov iv' wx => ∃ (q : Nat) (X : List Nat), q ≤ n' ∧ iv' = .int .i64 q ∧ Hid (X = codesQ (T.map nl) pn (nl L) q) ∧ X.length ≤ 20 * q ∧ Hid (∀ x ∈ L.take q, 0 ≤ x ∧ x < (n0 : Int)) ∧ wx.ownsRow w6.heap.size 3 1 ov X.length (X.map iv) ∧ Below w6.heap.size w6 wx) (fun _ iv' _ => n' - (intOf iv').toNat)
      case atStart => exact ⟨0, [], Nat.zero_le _, rfl, Lib.hid rfl, Nat.le_refl _, Lib.hid (by simp), World.ownsRow_nil _ _ _ _, Below.refl _ _⟩
      case round =>
        clear p0 p1
        rename World => wy
        obtain ⟨q, X, hq, rfl, hX, hXl, hval, hrow, hbx⟩ := hrel
        have hb1y := HB6.out.trans (hbx.mono HB6.out.size)
        obtain ⟨p0, p1⟩ := HQ.out _ hb1y
        have hzy := hbx.size
        obtain ⟨A8, c8, rfl, _, _, _⟩ := own_slice hrow
        obtain ⟨N, hN⟩ : ∃ N, N = X.length := ⟨_, rfl⟩
        rw [← hN] at hrow hXl ⊢
        have HROW := Lib.hid hrow
        have HBX := Lib.hid hbx
        have HB1Y := Lib.hid hb1y
        have HN := Lib.hid hN
        by_cases e : q < n'
        · have d0 : decide ((q : Int) < (n' : Int)) = true := decide_eq_true (by omega)
          have hqI : (0 : Int) ≤ (q : Int) := by omega
          have hqn : (q : Int) < (n' : Int) := by omega
          obtain ⟨bl, ol, rfl, hcl⟩ := (HL.out.below hb1y).2 (by omega)
          have hcx := hcl q e
          have htk := take_snoc_int L q (by rw [HLN.out]; exact e)
          have hgn : (nl L).getD q 0 = (L.getD q 0).toNat := nl_get L q
          obtain ⟨x, hx⟩ : ∃ x, x = L.getD q 0 := ⟨_, rfl⟩
          rw [← hx] at hcx htk hgn
          have HTK := Lib.hid htk
          obtain ⟨b0, o0, rfl, hc0⟩ := (HT.out.below hb1y).2 (by omega)
          obtain ⟨A0, c0, h01, _⟩ := hc0 0 (by omega)
          rw [← HN0.out] at h01
          have h02 := h01
          rw [Nat.add_zero] at h02
          have htI : (0 : Int) < (t : Int) := by omega
          clear hcl hc0 hx htk hN hrow hb1y
          by_cases e1 : 0 ≤ x ∧ x < (n0 : Int)
          · obtain ⟨y, rfl⟩ : ∃ y : Nat, x = y := ⟨x.toNat, by omega⟩
            have hyn : y < n0 := by omega
            have e2 : decide ((y : Int) < 0) = false := decide_eq_false (by omega)
            have hny : ¬ n0 ≤ y := by omega
            have e3 : decide ((n0 : Int) ≤ (y : Int)) = false := decide_eq_false (by omega)
            obtain ⟨k, hk⟩ : ∃ k, k = q / 50 := ⟨_, rfl⟩
            have hkz : (q : Int) / 50 = (k : Int) := by omega
            have hkt : (q : Int).tdiv 50 = (k : Int) := by rw [Int.tdiv_eq_ediv_of_nonneg hqI]; exact hkz
            have hkw : IntKind.i64.wrap (k : Int) = (k : Int) := by rw [IntKind.wrap_i64]; omega
            have hkw2 : IntKind.i64.wrap ((q : Int).tdiv 50) = (k : Int) := by rw [hkt, hkw]
            have hkw3 : IntKind.i64.wrap ((q : Int) / 50) = (k : Int) := by rw [hkz, hkw]
            have hkm : k < m := by omega
            have hkI : (0 : Int) ≤ (k : Int) := by omega
            have hkmI : (k : Int) < (m : Int) := by omega
            obtain ⟨bp, op, rfl, hcp⟩ := (ints_low HIN.out HB1Y.out).2 (by omega)
            have hcpk := hcp k hkm
            have hpt := HPL.out _ (nat_mem (L := pn) (j := k) (by rw [HPN.out]; exact hkm))
            have hnext := codesQ_next (T.map nl) pn (nl L) q
            rw [← hk, hgn, Int.toNat_natCast, ← hX.out] at hnext
            obtain ⟨pk, hpk⟩ : ∃ pk, pk = pn.getD k 0 := ⟨_, rfl⟩
            rw [← hpk] at hcpk hpt hnext
            have hpI : (0 : Int) ≤ (pk : Int) := by omega
            have hptI : (pk : Int) < (t : Int) := by omega
            have hyI : (0 : Int) ≤ (y : Int) := by omega
            have hynI : (y : Int) < (n0 : Int) := by omega
            obtain ⟨g, hcg, htr⟩ := HC6.out _ HBX.out pk hpt
            have hcc := HCC.out pk hpt
            obtain ⟨A7, c7, hc7, hi7, hk7⟩ := htr y hyn
            obtain ⟨Z, hZ⟩ : ∃ Z, Z = codeB ((T.map nl).getD pk []) y := ⟨_, rfl⟩
            have hZl : Z.length ≤ 20 := by
              rw [hZ, codeB_length]
              exact (hcc.1.one (i := y) (by rw [hcc.2.1]; exact hyn)).2
            rw [← hZ] at hc7 hi7 hnext
            obtain ⟨r, hr⟩ : ∃ r, r = Z.length := ⟨_, rfl⟩
            rw [← hr] at hc7 hi7 hZl
            have HV2 : Hid (∀ x ∈ L.take (q + 1), 0 ≤ x ∧ x < (n0 : Int)) := Lib.hid (by
              rw [HTK.out]
              intro x hx
              rcases List.mem_append.1 hx with hx | hx
              · exact hval.out x hx
              · rw [List.mem_singleton.1 hx]
                exact e1)
            have HI7 := Lib.hid hi7
            have HNEXT := Lib.hid hnext
            have HR := Lib.hid hr
            clear hk hcp hpk htr hcc hi7 hk7 hZ hnext hr hX hval hgn hbx e1
            go_wp2_with fail
            go_quiet (fail)
            go_upto_region 14 with fail
            have s1 : (wy.drewN nq).cell? ⟨w.heap.size, 1, none⟩ = some (.slice (some ⟨bp, op, none⟩) m d) := p1
            have s2 : (wy.drewN nq).cell? ⟨bp, op + k, none⟩ = some (.int .i64 (pk : Nat)) := hcpk
            have s3 : (wy.drewN nq).cell? ⟨bv, pk, none⟩ = some (.slice (some ⟨g, 0, none⟩) n0 n0) := hcg
            have s4 : (wy.drewN nq).cell? ⟨bl, ol + q, none⟩ = some (.int .i64 (y : Nat)) := hcx
            have s5 : (wy.drewN nq).cell? ⟨g, y, none⟩ = some (.slice A7 r c7) := hc7
            have hrow7 : (wy.drewN nq).ownsRow w6.heap.size 3 1 (.slice A8 N c8) N (X.map iv) := HROW.out
            have hi7 : IntsIn (wy.drewN nq) A7 r Z := ints_low HI7.out (below_drewN (Below.refl _ _) _)
            have hb7 : Below w6.heap.size w6 (wy.drewN nq) := below_drewN HBX.out _
            clear p0 p1 hcpk hcg hcx hc7 h01 h02 HROW HI7 HBX HB1Y
            generalize wy.drewN nq = w7 at *
            have hb8 : Below w6.heap.size w6 w7.drew := hb7.drew
            obtain ⟨v9, w9, hr9, ho9, hg9⟩ := append_ints w7.drew w6.heap.size _ N _ (show w7.drew.ownsRow w6.heap.size 3 1 (.slice A8 N c8) N (X.map iv) from hrow7) A7 r c7 Z (ints_low hi7 ((Below.refl _ _).drew)) (by omega) hb8.size
            have hb9 : Below w6.heap.size w6 w9 := hb8.grown hg9 hb8.size (fun k hk => (World.ownsRow.lt hrow7 k hk).1)
            rw [← List.map_append] at ho9
            have HO9 := Lib.hid ho9
            have HB9 := Lib.hid hb9
            have HR9 := Lib.hid hr9
            clear hrow7 hi7 hb7 hb8 hr9 ho9 hg9 hb9
            have t1 : ({ heap := w7.heap, tape := w7.tape, drawn := w7.drawn + 1, os := w7.os, output := w7.output } : World).cell? ⟨w.heap.size, 1, none⟩ = some (.slice (some ⟨bp, op, none⟩) m d) := s1
            have t2 : ({ heap := w7.heap, tape := w7.tape, drawn := w7.drawn + 1, os := w7.os, output := w7.output } : World).cell? ⟨bp, op + k, none⟩ = some (.int .i64 (pk : Nat)) := s2
            have t3 : ({ heap := w7.heap, tape := w7.tape, drawn := w7.drawn + 1, os := w7.os, output := w7.output } : World).cell? ⟨bv, pk, none⟩ = some (.slice (some ⟨g, 0, none⟩) n0 n0) := s3
            have t4 : ({ heap := w7.heap, tape := w7.tape, drawn := w7.drawn + 1, os := w7.os, output := w7.output } : World).cell? ⟨bl, ol + q, none⟩ = some (.int .i64 (y : Nat)) := s4
            have t5 : ({ heap := w7.heap, tape := w7.tape, drawn := w7.drawn + 1, os := w7.os, output := w7.output } : World).cell? ⟨g, y, none⟩ = some (.slice A7 r c7) := s5
            go_still_tail 16, (by kernel_rfl)
            change wpList _ _ _ _ _ w7.drew
            clear s1 s2 s3 s4 s5 t1 t2 t3 t4 t5
            generalize w7.drew = w8 at *
            go_wp2_with (at_builtin; refine Lib.wpList_append_run _ rfl (.tmp 61) (.tmp 76) 22 22 rfl (.slice A8 N c8) (.slice A7 r c7) rfl rfl _ _ HR9.out ?_)
            go_roundw
            case rel =>
              refine ⟨q + 1, X ++ Z, by omega, by go_num, Lib.hid HNEXT.out.symm, ?_, HV2, ?_, HB9.out⟩
              · rw [List.length_append, ← HN.out, ← HR.out]
                omega
              · rw [List.length_append, ← HN.out, ← HR.out]
                exact HO9.out
            case measure => simp [intOf]; omega
          · have hno : ans = ([], 60) := by
              rw [HANS.out, if_neg]
              intro hall
              refine e1 (hall x ?_)
              have h1 : x ∈ L.take (q + 1) := by rw [HTK.out]; exact List.mem_append_right _ (List.mem_singleton.2 rfl)
              exact List.mem_of_mem_take h1
            have HPE := Lib.hid fun k => HPO.out (.slice none 0 0) _ (wy.drewN k) hno (World.ownsRow_nil _ _ _ _) (below_drewN HB1Y.out _)
            clear hno hX hval hgn hbx
            by_cases e2 : x < 0
            · have e3 : decide (x < 0) = true := decide_eq_true e2
              clear e1
              go_wp2_with fail
              go_quiet (fail)
              go_wp2_with fail
              first | exact HPE.out _ | (go_ret2; exact HPE.out _)
            · have e3 : decide (x < 0) = false := decide_eq_false e2
              have e4 : decide ((n0 : Int) ≤ x) = true := decide_eq_true (by omega)
              clear e1
              go_wp2_with fail
              go_quiet (fail)
              go_wp2_with fail
              first | exact HPE.out _ | (go_ret2; exact HPE.out _)
        · obtain rfl : q = n' := by omega
          have d0 : decide ((q : Int) < (q : Int)) = false := decide_eq_false (by omega)
          have hvv := hval.out
          rw [List.take_of_length_le (Nat.le_of_eq HLN.out)] at hvv
          have hans2 : ans = (X, 0) := by rw [HANS.out, if_pos hvv, hX.out]
          have HPE := Lib.hid (HPO.out (.slice A8 N c8) (X, 0) wy hans2 (by show wy.ownsRow w1.heap.size 3 1 (.slice A8 N c8) X.length (X.map iv); rw [← HN.out]; exact World.ownsRow.mono HROW.out HB6.out.size) HB1Y.out)
          clear hvv hans2 hX hval hrow hbx hN hb1y
          go_wp2_with fail
          first | exact HPE.out | (go_ret2; exact HPE.out)
end Go.Proofs.YtmgmgmbpldboiaaGreat
namespace Go.Proofs.YtmgmgmbpldboiaaGreat
open Go.RowKit

set_option maxHeartbeats 3200000 in
set_option maxRecDepth 100000 in
theorem rcodes_bad (w : World) (v : Value) (T : List (List Int)) (P : List Int) (h : PlanIn w v T P) (A' : Option Addr) (n' c' : Nat) (L : List Int) (hM : ¬ MayPlan T P) :
    Calls Tryz.prog 62 #[v, .slice A' n' c'] w (ListPost w (codesG T P L)) := by
  obtain ⟨A, n, c, B, m, d, rfl, hpl⟩ : ∃ A n c B m d, v = .agg #[.slice A n c, .slice B m d] ∧ PlanIn w (.agg #[.slice A n c, .slice B m d]) T P := by
    obtain ⟨A, n, c, B, m, d, hv, hr1, hr2, hr3, hr4, hr5, hr6⟩ := id h
    exact ⟨A, n, c, B, m, d, hv, by rw [← hv]; exact h⟩
  clear h
  obtain ⟨w1, hw1⟩ : ∃ w1, w1 = w.alloc (.cells #[.slice A n c, .slice B m d] 26) := ⟨_, rfl⟩
  have hr1 : Blk w1 w.heap.size 26 #[.slice A n c, .slice B m d] := by rw [hw1]; exact blk_new w _ _
  have hb1 : Below w.heap.size w w1 := by rw [hw1]; exact (Below.refl _ _).alloc (Nat.le_refl _) _
  have hz1 : w.heap.size < w1.heap.size := blk_lt hr1
  have q0 : w1.cell? ⟨w.heap.size, 0, none⟩ = some (.slice A n c) := (blk_cell hr1 0).trans rfl
  have q1 : w1.cell? ⟨w.heap.size, 1, none⟩ = some (.slice B m d) := (blk_cell hr1 1).trans rfl
  have HMAY := Lib.hid (rmay_any w1.drew _ T P (hpl.below (hb1.drew)))
  have HPE : Hid (∀ w', Below w.heap.size w w' → ListPost w (codesG T P L) (.returned (.tuple #[.slice none 0 0, .int .i64 110])) w') := Lib.hid fun w' hb => by
    rw [show codesG T P L = ([], 110) from if_neg (fun k => hM k.1)]
    exact ⟨_, rfl, World.ownsRow_nil _ _ _ _, hb⟩
  have HB1 := Lib.hid hb1
  generalize ListPost w (codesG T P L) = PO at *
  rw [show decide (MayPlan T P) = false from decide_eq_false hM] at HMAY
  clear hb1 hr1 hpl hM
  go_enter Tryz.func62, Tryz.ntmps62
  go_upto_region 1 with fail
  rw [← hw1]
  clear hw1
  refine wp_region_held_drew (S := fun w' => w'.cell? ⟨w.heap.size, 0, none⟩ = some (.slice A n c) ∧ w'.cell? ⟨w.heap.size, 1, none⟩ = some (.slice B m d)) (by kernel_rfl) ⟨q0, q1⟩ (fun hHeld => ?_)
  refine wpAnyH_take (i := 0) (v := .agg #[.slice A n c, .slice B m d]) rfl (by kernel_rfl) (by kernel_rfl) (by kernel_rfl) (fun _ _ _ h => h) (Or.inl ⟨by rfl, ?hy⟩) (by assumption) ?_
  case hy =>
    intro w hSw
    (try dsimp only at hSw)
    obtain ⟨s0, s1⟩ := hSw
    go_simp
  (try simp only [List.getElem_toArray, List.getElem_cons_zero, Act.put, List.setIfInBounds_toArray, List.set_cons_zero, List.set_cons_succ])
  refine wpAnyH_ready (rs := [1]) (by kernel_rfl) (by simp) (AllReadyH.cons rfl (fun K hK => ?_) AllReadyH.nil)
  go_simp
  go_at_call 105
  refine HMAY.out.mono ?_
  rintro e w2 ⟨rfl, hb2⟩
  have p0 : w2.cell? ⟨w.heap.size, 0, none⟩ = some (.slice A n c) := (hb2.cell (p := ⟨w.heap.size, 0, none⟩) hz1).trans q0
  have p1 : w2.cell? ⟨w.heap.size, 1, none⟩ = some (.slice B m d) := (hb2.cell (p := ⟨w.heap.size, 1, none⟩) hz1).trans q1
  have HB2 := Lib.hid (HB1.out.drew.trans (hb2.mono HB1.out.drew.size))
  dsimp only
  refine hK.out _ _ ⟨p0, p1⟩ (fun hHeld2 => ?_)
  clear hK K hb2 HMAY hHeld
  (try simp only [List.getElem_toArray, List.getElem_cons_succ, List.getElem_cons_zero, Act.put, List.setIfInBounds_toArray, List.set_cons_zero, List.set_cons_succ])
  refine wpAnyH_take (i := 2) (v := .bool true) rfl (by kernel_rfl) (by kernel_rfl) (by kernel_rfl) (fun _ _ _ h => h) (Or.inl ⟨by rfl, fun w _ => by go_simp⟩) (by assumption) ?_
  (try simp only [List.getElem_toArray, List.getElem_cons_succ, List.getElem_cons_zero, Act.put, List.setIfInBounds_toArray, List.set_cons_zero, List.set_cons_succ])
  refine wpAnyH_take (i := 3) (v := .bool true) rfl (by kernel_rfl) (by kernel_rfl) (by kernel_rfl) (fun _ _ _ h => h) (Or.inl ⟨by rfl, fun w _ => by go_simp⟩) (by assumption) ?_
  (try simp only [List.getElem_toArray, List.getElem_cons_succ, List.getElem_cons_zero, Act.put, List.setIfInBounds_toArray, List.set_cons_zero, List.set_cons_succ])
  refine wpAnyH_take (i := 4) (v := undef) rfl (by kernel_rfl) (by kernel_rfl) (by kernel_rfl) (fun _ _ _ h => h) (Or.inr ⟨by rfl, rfl⟩) (by assumption) ?_
  (try simp only [List.getElem_toArray, List.getElem_cons_succ, List.getElem_cons_zero, Act.put, List.setIfInBounds_toArray, List.set_cons_zero, List.set_cons_succ])
  refine wpAnyH_take (i := 5) (v := undef) rfl (by kernel_rfl) (by kernel_rfl) (by kernel_rfl) (fun _ _ _ h => h) (Or.inr ⟨by rfl, rfl⟩) (by assumption) ?_
  (try simp only [List.getElem_toArray, List.getElem_cons_succ, List.getElem_cons_zero, Act.put, List.setIfInBounds_toArray, List.set_cons_zero, List.set_cons_succ])
  refine wpAnyH_take (i := 6) (v := undef) rfl (by kernel_rfl) (by kernel_rfl) (by kernel_rfl) (fun _ _ _ h => h) (Or.inr ⟨by rfl, rfl⟩) (by assumption) ?_
  (try simp only [List.getElem_toArray, List.getElem_cons_succ, List.getElem_cons_zero, Act.put, List.setIfInBounds_toArray, List.set_cons_zero, List.set_cons_succ])
  refine wpAnyH_take (i := 7) (v := undef) rfl (by kernel_rfl) (by kernel_rfl) (by kernel_rfl) (fun _ _ _ h => h) (Or.inr ⟨by rfl, rfl⟩) (by assumption) ?_
  (try simp only [List.getElem_toArray, List.getElem_cons_succ, List.getElem_cons_zero, Act.put, List.setIfInBounds_toArray, List.set_cons_zero, List.set_cons_succ])
  refine wpAnyH_take (i := 8) (v := undef) rfl (by kernel_rfl) (by kernel_rfl) (by kernel_rfl) (fun _ _ _ h => h) (Or.inr ⟨by rfl, rfl⟩) (by assumption) ?_
  (try simp only [List.getElem_toArray, List.getElem_cons_succ, List.getElem_cons_zero, Act.put, List.setIfInBounds_toArray, List.set_cons_zero, List.set_cons_succ])
  refine wpAnyH_take (i := 9) (v := undef) rfl (by kernel_rfl) (by kernel_rfl) (by kernel_rfl) (fun _ _ _ h => h) (Or.inr ⟨by rfl, rfl⟩) (by assumption) ?_
  (try simp only [List.getElem_toArray, List.getElem_cons_succ, List.getElem_cons_zero, Act.put, List.setIfInBounds_toArray, List.set_cons_zero, List.set_cons_succ])
  refine wpAnyH_take (i := 10) (v := undef) rfl (by kernel_rfl) (by kernel_rfl) (by kernel_rfl) (fun _ _ _ h => h) (Or.inr ⟨by rfl, rfl⟩) (by assumption) ?_
  (try simp only [List.getElem_toArray, List.getElem_cons_succ, List.getElem_cons_zero, Act.put, List.setIfInBounds_toArray, List.set_cons_zero, List.set_cons_succ])
  refine wpAnyH_take (i := 11) (v := .bool true) rfl (by kernel_rfl) (by kernel_rfl) (by kernel_rfl) (fun _ _ _ h => h) (Or.inl ⟨by rfl, fun w _ => by go_simp⟩) (by assumption) ?_
  (try simp only [List.getElem_toArray, List.getElem_cons_succ, List.getElem_cons_zero, Act.put, List.setIfInBounds_toArray, List.set_cons_zero, List.set_cons_succ])
  refine wpAnyH_done (by kernel_rfl) ?_ _
  go_wp2_with fail
  first | exact HPE.out _ HB2.out | (go_ret2; exact HPE.out _ HB2.out)

theorem rcodes_any (w : World) (v : Value) (T : List (List Int)) (P : List Int) (h : PlanIn w v T P) (A' : Option Addr) (n' c' : Nat) (L : List Int) (hL : ZIn w A' n' L) (hn' : n' ≤ 2000000) :
    Calls Tryz.prog 62 #[v, .slice A' n' c'] w (ListPost w (codesG T P L)) := by
  by_cases hP : MayPlan T P
  · by_cases hM : FitG T P L
    · exact rcodes_yes w v T P h A' n' c' L hL hn' hM
    · exact rcodes_few w v T P h A' n' c' L hL.1 hn' hP hM
  · exact rcodes_bad w v T P h A' n' c' L hP
end Go.Proofs.YtmgmgmbpldboiaaGreat
