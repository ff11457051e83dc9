/- Ug Uh Ui Uj: texts laid together, what is not used left out. -/
import Derived.Test.YtmgmgmbpldboiaaZ05
import Derived.Test.YtmgmgmbpldboiaaZ04
namespace Go.Proofs.Ytmgmgmbpldboiaa
open Go.RowKit

/-- A table with what stands at each place. -/
structure TabF (w : World) (B g n : Nat) (C : Nat → List Nat) (F : Nat → Value) : Prop where
  own : w.ownsRow B 30 1 (.slice (some ⟨g, 0, none⟩) n n) n ((List.range n).map F)
  rows : ∀ j, j < n → (∃ A k, F j = .slice A (C j).length k ∧ (C j).length ≤ k) ∧ w.ownsRow B 3 1 (F j) (C j).length ((C j).map iv) ∧ ∀ b, (F j).ownBlock = some b → b < w.heap.size ∧ b ≠ g
/-- A table no row of which lies in block b. -/
def TabX (w : World) (B g n : Nat) (C : Nat → List Nat) (b : Nat) : Prop := ∃ F : Nat → Value, w.ownsRow B 30 1 (.slice (some ⟨g, 0, none⟩) n n) n ((List.range n).map F) ∧
  ∀ j, j < n → ∃ A k, F j = .slice A (C j).length k ∧ (C j).length ≤ k ∧ w.ownsRow B 3 1 (F j) (C j).length ((C j).map iv) ∧ (F j).ownBlock ≠ some b
theorem TabX.same {w : World} {B g n b : Nat} {C D : Nat → List Nat} (h : TabX w B g n C b) (hs : ∀ j, j < n → C j = D j) : TabX w B g n D b := by
  obtain ⟨F, h1, h2⟩ := h
  refine ⟨F, h1, fun j hj => ?_⟩
  rw [← hs j hj]
  exact h2 j hj
theorem TabX.step {w w' : World} {B B' g n b : Nat} {C : Nat → List Nat} (h : TabX w B g n C b) (hs : Step B' [] [] w w') : TabX w' B g n C b := by
  obtain ⟨F, h1, h2⟩ := h
  refine ⟨F, hs.row h1 (fun _ _ => List.not_mem_nil) List.not_mem_nil, fun j hj => ?_⟩
  obtain ⟨A, k, x, y, z, u⟩ := h2 j hj
  exact ⟨A, k, x, y, hs.row z (fun _ _ => List.not_mem_nil) List.not_mem_nil, u⟩
set_option maxRecDepth 100000 in
/-- A store into block b, which is a row of ints. -/
theorem TabX.other {w : World} {B g n b B2 m c : Nat} {f C} (h : TabX w B g n C b) (hb : FRow w B2 b c m f) (i : Nat) (v : Value) : TabX (w.setCell ⟨b, i, none⟩ v) B g n C b := by
  obtain ⟨F, h1, h2⟩ := h
  have hgb : b ≠ g := by
    intro e
    obtain ⟨c1, f1, e1⟩ := Lib.ownsRow_kind hb b rfl
    obtain ⟨c2, f2, e2⟩ := Lib.ownsRow_kind h1 g rfl
    rw [e, e2] at e1
    simp at e1
  have hs : Step 0 [b] [] w (w.setCell ⟨b, i, none⟩ v) := (Step.refl 0 [b] [] w).set (p := ⟨b, i, none⟩) (Nat.zero_le _) (by simp) v
  refine ⟨F, hs.row h1 (fun k hk => ?_) List.not_mem_nil, fun j hj => ?_⟩
  · simp [Value.ownBlock] at hk
    simp
    omega
  · obtain ⟨A, k, x, y, z, u⟩ := h2 j hj
    refine ⟨A, k, x, y, hs.row z (fun k2 hk2 => ?_) List.not_mem_nil, u⟩
    rw [List.mem_singleton]
    intro e
    exact u (by rw [hk2, e])
set_option maxRecDepth 100000 in
/-- A row is laid into the table. -/
theorem TabX.set {w : World} {B g n b : Nat} {C : Nat → List Nat} (h : TabX w B g n C b) (i : Nat) {A : Option Addr} {k : Nat} {L : List Nat} (hL : w.ownsRow B 3 1 (.slice A L.length k) L.length (L.map iv)) (hk : L.length ≤ k) (hb : (Value.slice A L.length k).ownBlock ≠ some b) :
    TabX (w.setCell ⟨g, i, none⟩ (.slice A L.length k)) B g n (fun j => if j = i then L else C j) b := by
  obtain ⟨F, h1, h2⟩ := h
  have hst := World.ownsRow.stored h1 i (.slice A L.length k)
  have hset : ((List.range n).map F).set i (.slice A L.length k) = (List.range n).map fun j => if j = i then (.slice A L.length k) else F j := by
    apply List.ext_getElem?
    intro j
    rw [List.getElem?_set]
    by_cases e : i = j
    · subst e
      by_cases hj : i < n
      · simp [hj]
      · simp [hj]
    · have e' : ¬ j = i := fun k => e k.symm
      rw [if_neg e, List.getElem?_map, List.getElem?_map]
      by_cases hj : j < n
      · rw [List.getElem?_range hj]
        simp [e']
      · rw [List.getElem?_eq_none (by rw [List.length_range]; omega)]
        rfl
  rw [hset] at hst
  have keep : ∀ (v : Value) (m : Nat) (xs : List Value), w.ownsRow B 3 1 v m xs → (w.setCell ⟨g, i, none⟩ (.slice A L.length k)).ownsRow B 3 1 v m xs := by
    intro v m xs hv
    refine hv.kept hst.2 (.inr fun e => ?_)
    obtain ⟨c1, f1, e1⟩ := Lib.ownsRow_kind hv g e
    obtain ⟨c2, f2, e2⟩ := Lib.ownsRow_kind h1 g rfl
    rw [e1] at e2
    simp at e2
  refine ⟨_, hst.1, fun j hj => ?_⟩
  by_cases e : j = i
  · refine ⟨A, k, ?_, ?_, ?_, ?_⟩
    · simp only [if_pos e]
    · simp only [if_pos e]
      exact hk
    · simp only [if_pos e]
      exact keep _ _ _ hL
    · simp only [if_pos e]
      exact hb
  · obtain ⟨A2, k2, x, y, z, u⟩ := h2 j hj
    refine ⟨A2, k2, ?_, ?_, ?_, ?_⟩
    · simp only [if_neg e]
      exact x
    · simp only [if_neg e]
      exact y
    · simp only [if_neg e]
      exact keep _ _ _ z
    · simp only [if_neg e]
      exact u
set_option maxRecDepth 100000 in
theorem FRow.keep {w : World} {B B2 g n b c m : Nat} {C : Nat → List Nat} {f : Nat → Nat} (hb : FRow w B2 b c m f) (h : TabX w B g n C b) (i : Nat) (v : Value) : FRow (w.setCell ⟨g, i, none⟩ v) B2 b c m f := by
  obtain ⟨F, h1, _⟩ := h
  refine hb.other (fun e => ?_) i v
  obtain ⟨c1, f1, e1⟩ := Lib.ownsRow_kind hb b rfl
  obtain ⟨c2, f2, e2⟩ := Lib.ownsRow_kind h1 g rfl
  rw [← e, e2] at e1
  simp at e1

end Go.Proofs.Ytmgmgmbpldboiaa
namespace Go.Proofs.Ytmgmgmbpldboiaa
open Go.RowKit

end Go.Proofs.Ytmgmgmbpldboiaa
namespace Go.Proofs.Ytmgmgmbpldboiaa
open Go.RowKit

/-- What Flat answers. -/
def flatPl (l : List Nat) (m : Nat) : List Nat := flatG (countsG l (List.replicate (groupsN l.length) 0) 0 m)
def flatAns (L : List Int) (m : Int) : List (List Int) × List Int × Nat :=
  if MayG L m then ([zL (flatPl (natL L) m.toNat), zL (flatPl (natL L) m.toNat)], zL (List.replicate (groupsN L.length) 0), 0) else ([], [], 2)

/-- Two rows in a new block, read as tables. -/
theorem tabZ_two {w : World} {g : Nat} {A1 A2 : Option Addr} {m c1 c2 : Nat} {x y : List Nat} (hg : Blk w g 30 #[.slice A1 m c1, .slice A2 m c2]) (hx : IntsIn w A1 m x) (h1 : m ≤ c1) (hy : IntsIn w A2 m y) (h2 : m ≤ c2) (hm : m ≤ maxLen) :
    TabZ w (some ⟨g, 0, none⟩) 2 [zL x, zL y] := by
  refine ⟨rfl, fun _ => ⟨g, 0, rfl, fun i hi => ?_⟩⟩
  have hxl : (zL x).length = m := by unfold zL; rw [List.length_map, hx.1]
  have hyl : (zL y).length = m := by unfold zL; rw [List.length_map, hy.1]
  rw [Nat.zero_add]
  match i, hi with
  | 0, _ =>
    refine ⟨A1, c1, ?_, ?_, ?_, ?_⟩
    · show w.cell? ⟨g, 0, none⟩ = some (.slice A1 (zL x).length c1)
      rw [hxl]
      exact (blk_cell hg 0).trans rfl
    · show ZIn w A1 (zL x).length (zL x)
      rw [hxl]
      exact zin_of hx
    · show (zL x).length ≤ c1
      omega
    · show (zL x).length ≤ maxLen
      omega
  | 1, _ =>
    refine ⟨A2, c2, ?_, ?_, ?_, ?_⟩
    · show w.cell? ⟨g, 1, none⟩ = some (.slice A2 (zL y).length c2)
      rw [hyl]
      exact (blk_cell hg 1).trans rfl
    · show ZIn w A2 (zL y).length (zL y)
      rw [hyl]
      exact zin_of hy
    · show (zL y).length ≤ c2
      omega
    · show (zL y).length ≤ maxLen
      omega

end Go.Proofs.Ytmgmgmbpldboiaa
namespace Go.Proofs.Ytmgmgmbpldboiaa
open Go.RowKit

theorem list_at {T : List (List Int)} {q : Nat} (h : q < T.length) : T.getD q [] ∈ T := by
  rw [List.getD_eq_getElem?_getD, List.getElem?_eq_getElem h]
  exact List.getElem_mem h

set_option maxHeartbeats 3200000 in
set_option maxRecDepth 100000 in
theorem rmay_any (w : World) (v : Value) (T : List (List Int)) (P : List Int) (h : PlanIn w v T P) :
    Calls Try.prog 29 #[v] w fun e w' => e = .returned (.bool (decide (MayPlan T P))) ∧ Below w.heap.size w w' := by
  obtain ⟨A, n, c, B, m, d, rfl, hT, hnc, hn, hP, hmd, hm⟩ := h
  have hTn := hT.1
  have hPn := hP.1
  unfold maxLen at hn hm
  obtain ⟨n0, hn0⟩ : ∃ n0, n0 = (T.getD 0 []).length := ⟨_, rfl⟩
  have HN1 : Hid (n < 2 → decide (MayPlan T P) = false) := Lib.hid fun h => decide_eq_false fun k => by have := k.1; omega
  have HN2 : Hid (6 < n → decide (MayPlan T P) = false) := Lib.hid fun h => decide_eq_false fun k => by have := k.2.1; omega
  have HN3 : Hid (m < 1 → decide (MayPlan T P) = false) := Lib.hid fun h => decide_eq_false fun k => by have := k.2.2.1; omega
  have HN4 : Hid (32767 < m → decide (MayPlan T P) = false) := Lib.hid fun h => decide_eq_false fun k => by have := k.2.2.2.1; omega
  have HNT : Hid (∀ q, q < n → ((T.getD q []).length ≠ n0 ∨ ¬ LenOk (T.getD q [])) → decide (MayPlan T P) = false) := Lib.hid fun q hq h => decide_eq_false fun k => by
    have := k.2.2.2.2.1 (T.getD q []) (list_at (by omega))
    rw [← hn0] at this
    rcases h with h | h
    · exact h this.1
    · exact h this.2
  have HNP : Hid (∀ x ∈ P, (x < 0 ∨ (n : Int) ≤ x) → decide (MayPlan T P) = false) := Lib.hid fun x hx h => decide_eq_false fun k => by
    have := k.2.2.2.2.2.1 x hx
    omega
  have HNZ : Hid (n0 < 3 → decide (MayPlan T P) = false) := Lib.hid fun h => decide_eq_false fun k => by
    have := k.2.2.2.2.2.2
    omega
  have HYES : Hid (2 ≤ n → n ≤ 6 → 1 ≤ m → m ≤ 32767 → (∀ q, q < n → (T.getD q []).length = n0 ∧ LenOk (T.getD q [])) → (∀ x ∈ P, 0 ≤ x ∧ x < (n : Int)) → 3 ≤ n0 → decide (MayPlan T P) = true) := Lib.hid fun h1 h2 h3 h4 h5 h6 h7 =>
    decide_eq_true ⟨by omega, by omega, by omega, by omega, fun t ht => by
      obtain ⟨q, hq, rfl⟩ := List.mem_iff_getElem.1 ht
      have := h5 q (by omega)
      rw [List.getD_eq_getElem?_getD, List.getElem?_eq_getElem hq] at this
      rw [← hn0]
      exact this, fun x hx => by have := h6 x hx; omega, by omega⟩
  generalize decide (MayPlan T P) = ans at *
  have q0 : (w.alloc (.cells #[.slice A n c, .slice B m d] 32)).cell? ⟨w.heap.size, 0, none⟩ = some (.slice A n c) := (blk_cell (blk_new w _ _) 0).trans rfl
  have q1 : (w.alloc (.cells #[.slice A n c, .slice B m d] 32)).cell? ⟨w.heap.size, 1, none⟩ = some (.slice B m d) := (blk_cell (blk_new w _ _) 1).trans rfl
  have HB : Hid (Below w.heap.size w (w.alloc (.cells #[.slice A n c, .slice B m d] 32))) := Lib.hid ((Below.refl _ _).alloc (Nat.le_refl _) _)
  have HT := Lib.hid (hT.below HB.out)
  have HP := Lib.hid (hP.below HB.out)
  have HN0 := Lib.hid hn0
  have HPN := Lib.hid hPn
  clear hT hP hTn hPn hn0
  go_enter Try.func29, Try.ntmps29
  by_cases e1 : n < 2
  · have hans := HN1.out e1
    have d1 : decide ((n : Int) < 2) = true := decide_eq_true (by omega)
    subst hans
    go_wp2_with fail
    go_ret
    exact ⟨rfl, HB.out⟩
  have d1 : decide ((n : Int) < 2) = false := decide_eq_false (by omega)
  by_cases e2 : 6 < n
  · have hans := HN2.out e2
    have d2 : decide ((6 : Int) < (n : Int)) = true := decide_eq_true (by omega)
    subst hans
    go_wp2_with fail
    go_ret
    exact ⟨rfl, HB.out⟩
  have d2 : decide ((6 : Int) < (n : Int)) = false := decide_eq_false (by omega)
  by_cases e3 : m < 1
  · have hans := HN3.out e3
    have d3 : decide ((m : Int) < 1) = true := decide_eq_true (by omega)
    subst hans
    go_wp2_with fail
    go_ret
    exact ⟨rfl, HB.out⟩
  have d3 : decide ((m : Int) < 1) = false := decide_eq_false (by omega)
  by_cases e4 : 32767 < m
  · have hans := HN4.out e4
    have d4 : decide ((32767 : Int) < (m : Int)) = true := decide_eq_true (by omega)
    subst hans
    clear e4
    go_wp2_with fail
    go_ret
    exact ⟨rfl, HB.out⟩
  have d4 : decide ((32767 : Int) < (m : Int)) = false := decide_eq_false (by omega)
  have HYES2 : Hid ((∀ q, q < n → (T.getD q []).length = n0 ∧ LenOk (T.getD q [])) → (∀ x ∈ P, 0 ≤ x ∧ x < (n : Int)) → 3 ≤ n0 → ans = true) := Lib.hid (HYES.out (by omega) (by omega) (by omega) (by omega))
  have hm2 : m ≤ 100000 := by omega
  have hn2 : n ≤ 6 := by omega
  have hn3 : 2 ≤ n := by omega
  clear e1 e2 e3 e4 HN1 HN2 HN3 HN4 HYES hn hm hnc hmd
  obtain ⟨b, off, rfl, hc⟩ := HT.out.2 (by omega)
  obtain ⟨A0, c0, h01, _⟩ := hc 0 (by omega)
  rw [← HN0.out] at h01
  have h02 := h01
  rw [Nat.add_zero] at h02
  have hnI : (0 : Int) < (n : Int) := by omega
  clear hc
  go_wp2_with fail
  clear h01 h02
  generalize w.alloc (.cells #[.slice (some ⟨b, off, none⟩) n c, .slice B m d] 32) = w1 at *
  go_loopw [4] (fun i wx => ∃ q : Nat, q ≤ n ∧ i = .int .i64 q ∧ Hid (∀ j, j < q → (T.getD j []).length = n0 ∧ LenOk (T.getD j [])) ∧ w1 = wx) (fun i _ => n - (intOf i).toNat)
  case atStart => exact ⟨0, Nat.zero_le _, rfl, by intro j hj; omega, rfl⟩
  case round =>
    obtain ⟨q, hq, rfl, hv, rfl⟩ := hrel
    by_cases e : q < n
    · have dq : decide ((q : Int) < (n : Int)) = true := decide_eq_true (by omega)
      have hqI : (0 : Int) ≤ (q : Int) := by omega
      have hqn : (q : Int) < (n : Int) := by omega
      obtain ⟨b', off', hbo, hc⟩ := HT.out.2 (by omega)
      simp only [Option.some.injEq, Addr.mk.injEq, and_true] at hbo
      obtain ⟨rfl, rfl⟩ := hbo
      obtain ⟨A2, c2, h1, h2, h3, h4⟩ := hc q e
      obtain ⟨L, hL⟩ : ∃ L, L = T.getD q [] := ⟨_, rfl⟩
      rw [← hL] at h1 h2 h3 h4
      obtain ⟨k, hk⟩ : ∃ k, k = L.length := ⟨_, rfl⟩
      rw [← hk] at h1 h2 h3 h4
      have HCK := Lib.hid (check_any _ A2 k c2 L h2 h4)
      have HNO : Hid ((k ≠ n0 ∨ ¬ LenOk L) → ans = false) := Lib.hid fun h => HNT.out q e (by rw [← hL, ← hk]; exact h)
      have HV2 : Hid (k = n0 → LenOk L → ∀ j, j < q + 1 → (T.getD j []).length = n0 ∧ LenOk (T.getD j [])) := Lib.hid fun a b j hj => by
        rcases Nat.lt_or_ge j q with hj2 | hj2
        · exact hv.out j hj2
        · obtain rfl : j = q := by omega
          rw [← hL, ← hk]
          exact ⟨a, b⟩
      clear hc hL hk h2 h3 h4
      by_cases ek : k = n0
      · have d1 : ((k : Int) != (n0 : Int)) = false := by rw [ek]; simp
        by_cases el : LenOk L
        · rw [if_pos el] at HCK
          have HV3 := Lib.hid (HV2.out ek el)
          clear ek el HNO HV2
          go_wp2_with fail
          refine HCK.out.mono ?_
          rintro e w' ⟨rfl, rfl⟩
          go_wp2_with fail
          go_roundw
          case rel => exact ⟨q + 1, by omega, by go_num, HV3, trivial⟩
          case measure => simp [intOf]; omega
        · rw [if_neg el] at HCK
          have hans := HNO.out (.inr el)
          subst hans
          clear ek el HNO HV2
          go_wp2_with fail
          refine HCK.out.mono ?_
          rintro e w' ⟨rfl, rfl⟩
          go_wp2_with fail
          go_ret
          exact ⟨rfl, HB.out⟩
      · have d1 : ((k : Int) != (n0 : Int)) = true := by
          rw [bne_iff_ne]
          omega
        have hans := HNO.out (.inl ek)
        subst hans
        clear ek HNO HV2
        go_wp2_with fail
        go_ret
        exact ⟨rfl, HB.out⟩
    · obtain rfl : q = n := by omega
      have dq : decide ((q : Int) < (q : Int)) = false := decide_eq_false (by omega)
      have HV := Lib.hid (HYES2.out hv.out)
      clear hv HNT HYES2
      go_wp2_with fail
      go_loopw [5] (fun i wx => ∃ z : Nat, z ≤ m ∧ i = .int .i64 z ∧ Hid (∀ x ∈ P.take z, 0 ≤ x ∧ x < (q : Int)) ∧ Below w1.heap.size w1 wx) (fun i _ => m - (intOf i).toNat)
      case atStart => exact ⟨0, Nat.zero_le _, rfl, by simp [Hid], Below.refl _ _⟩
      case round =>
        obtain ⟨z, hz, rfl, hv, hbx⟩ := hrel
        have HBX := Lib.hid hbx
        have p0 := (hbx.cell (World.block_lt_of_cell? w1 _ q0)).trans q0
        have p1 := (hbx.cell (World.block_lt_of_cell? w1 _ q1)).trans q1
        have HPX := Lib.hid (HP.out.below hbx)
        clear hbx
        by_cases e : z < m
        · have dz : decide ((z : Int) < (m : Int)) = true := decide_eq_true (by omega)
          have hzI : (0 : Int) ≤ (z : Int) := by omega
          have hzn : (z : Int) < (m : Int) := by omega
          obtain ⟨b', off', rfl, hc⟩ := HPX.out.2 (by omega)
          have hcw := hc z e
          have htk := take_snoc_int P z (by rw [HPN.out]; exact e)
          have hmem := getD_mem_int P z (by rw [HPN.out]; exact e)
          obtain ⟨x, hx⟩ : ∃ x, x = P.getD z 0 := ⟨_, rfl⟩
          rw [← hx] at hcw htk hmem
          have HTK := Lib.hid htk
          have HM := Lib.hid hmem
          clear hc hx htk hmem
          by_cases e1 : x < 0
          · have d1 : decide (x < 0) = true := decide_eq_true e1
            have hans := HNP.out x HM.out (.inl e1)
            subst hans
            go_wp2_with fail
            go_quiet (fail)
            go_wp2_with fail
            go_ret
            exact ⟨rfl, HB.out.trans (below_drewN (HBX.out.mono HB.out.size) _)⟩
          · have d1 : decide (x < 0) = false := decide_eq_false e1
            by_cases e2 : (q : Int) ≤ x
            · have d2 : decide ((q : Int) ≤ x) = true := decide_eq_true e2
              have hans := HNP.out x HM.out (.inr e2)
              subst hans
              go_wp2_with fail
              go_quiet (fail)
              go_wp2_with fail
              go_ret
              exact ⟨rfl, HB.out.trans (below_drewN (HBX.out.mono HB.out.size) _)⟩
            · have d2 : decide ((q : Int) ≤ x) = false := decide_eq_false e2
              have HV2 : Hid (∀ y ∈ P.take (z + 1), 0 ≤ y ∧ y < (q : Int)) := Lib.hid (by
                rw [HTK.out]
                intro y hy
                rcases List.mem_append.1 hy with hy | hy
                · exact hv.out y hy
                · rw [List.mem_singleton.1 hy]
                  omega)
              go_wp2_with fail
              go_quiet (fail)
              go_wp2_with fail
              go_roundw
              case rel => exact ⟨z + 1, by omega, by go_num, HV2, below_drewN HBX.out _⟩
              case measure => simp [intOf]; omega
        · obtain rfl : z = m := by omega
          have dz : decide ((z : Int) < (z : Int)) = false := decide_eq_false (by omega)
          have hv2 := hv.out
          rw [List.take_of_length_le (Nat.le_of_eq HPN.out)] at hv2
          have HYS := Lib.hid (HV.out hv2)
          clear hv hv2 HV
          by_cases e3 : 3 ≤ n0
          · have d3 : decide ((3 : Int) ≤ (n0 : Int)) = true := decide_eq_true (by omega)
            have hans := HYS.out e3
            subst hans
            go_wp2_with fail
            go_ret
            exact ⟨rfl, HB.out.trans (HBX.out.mono HB.out.size)⟩
          · have d3 : decide ((3 : Int) ≤ (n0 : Int)) = false := decide_eq_false (by omega)
            have hans := HNZ.out (by omega)
            subst hans
            go_wp2_with fail
            go_ret
            exact ⟨rfl, HB.out.trans (HBX.out.mono HB.out.size)⟩
end Go.Proofs.Ytmgmgmbpldboiaa
