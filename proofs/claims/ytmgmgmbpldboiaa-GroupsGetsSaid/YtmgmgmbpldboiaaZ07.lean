/- Uk Ul Rt: texts laid together, what is not used left out. -/
import Derived.Test.YtmgmgmbpldboiaaZ06
import Derived.Test.YtmgmgmbpldboiaaZ01
namespace Go.Proofs.Ytmgmgmbpldboiaa
open Go.RowKit

set_option maxHeartbeats 3200000 in
set_option maxRecDepth 100000 in
theorem rints_any (w : World) (A B : Option Addr) (n m c d : Nat) (L M : List Int) (hL : ZIn w A n L) (hM : ZIn w B m M) (hn : n ≤ maxLen) (hm : m ≤ maxLen) :
    Calls Try.prog 37 #[.slice A n c, .slice B m d] w fun e w' => e = .returned (.bool (decide (L = M))) ∧ ∃ k, w' = w.drewN k := by
  unfold maxLen at hn hm
  have hLn := hL.1
  have hMm := hM.1
  by_cases enm : n = m
  case neg =>
    rw [show decide (L = M) = false from decide_eq_false fun e => enm (by rw [← hLn, ← hMm, e])]
    have d0 : ((n : Int) != (m : Int)) = true := by
      rw [bne_iff_ne]
      omega
    clear hL hM hLn hMm
    go_enter Try.func37, Try.ntmps37
    go_wp2_with fail
    go_ret
    exact ⟨rfl, 0, rfl⟩
  case pos =>
    subst enm
    have d0 : ((n : Int) != (n : Int)) = false := by simp
    have HL := Lib.hid hL
    have HM := Lib.hid hM
    have HNO : Hid (∀ q, q < n → L.getD q 0 ≠ M.getD q 0 → decide (L = M) = false) := Lib.hid fun q hq h => decide_eq_false fun e => h (by rw [e])
    have HYES : Hid ((∀ q, q < n → L.getD q 0 = M.getD q 0) → decide (L = M) = true) := Lib.hid fun h => decide_eq_true (by
      apply List.ext_getElem (by omega)
      intro q h1 h2
      have := h q (by omega)
      rw [List.getD_eq_getElem?_getD, List.getD_eq_getElem?_getD, List.getElem?_eq_getElem h1, List.getElem?_eq_getElem h2] at this
      exact this)
    clear hL hM hLn hMm
    generalize decide (L = M) = ans at *
    go_enter Try.func37, Try.ntmps37
    go_wp2_with fail
    clear d0
    go_loopw [5] (fun i wx => ∃ q : Nat, q ≤ n ∧ i = .int .i64 q ∧ Hid (∀ j, j < q → L.getD j 0 = M.getD j 0) ∧ ∃ k, wx = w.drewN k) (fun i _ => n - (intOf i).toNat)
    case atStart => exact ⟨0, Nat.zero_le _, rfl, by intro j hj; omega, 0, rfl⟩
    case round =>
      obtain ⟨q, hq, rfl, hv, hbx⟩ := hrel
      have HBX := Lib.hid hbx
      have HL2 : Hid (ZIn wr A n L) := Lib.hid (by obtain ⟨k, rfl⟩ := hbx; exact HL.out.below (below_drewN (Below.refl _ _) k))
      have HM2 : Hid (ZIn wr B n M) := Lib.hid (by obtain ⟨k, rfl⟩ := hbx; exact HM.out.below (below_drewN (Below.refl _ _) k))
      clear hbx
      by_cases e : q < n
      · have dq : decide ((q : Int) < (n : Int)) = true := decide_eq_true (by omega)
        have hqI : (0 : Int) ≤ (q : Int) := by omega
        have hqn : (q : Int) < (n : Int) := by omega
        obtain ⟨b, off, rfl, hc⟩ := HL2.out.2 (by omega)
        obtain ⟨b2, off2, rfl, hc2⟩ := HM2.out.2 (by omega)
        have hcw := hc q e
        have hcw2 := hc2 q e
        obtain ⟨x, hx⟩ : ∃ x, x = L.getD q 0 := ⟨_, rfl⟩
        obtain ⟨y, hy⟩ : ∃ y, y = M.getD q 0 := ⟨_, rfl⟩
        rw [← hx] at hcw
        rw [← hy] at hcw2
        have HXY : Hid (x = L.getD q 0 ∧ y = M.getD q 0) := Lib.hid ⟨hx, hy⟩
        clear hc hc2 hx hy
        by_cases e1 : x = y
        · have HV2 : Hid (∀ j, j < q + 1 → L.getD j 0 = M.getD j 0) := Lib.hid fun j hj => by
            rcases Nat.lt_or_ge j q with hj2 | hj2
            · exact hv.out j hj2
            · obtain rfl : j = q := by omega
              rw [← HXY.out.1, ← HXY.out.2, e1]
          have d1 : (x != y) = false := by rw [e1]; simp
          clear e1
          go_wp2_with fail
          go_quiet (fail)
          go_wp2_with fail
          go_roundw
          case rel =>
            obtain ⟨k, hk⟩ := HBX.out
            exact ⟨q + 1, by omega, by go_num, HV2, k + nq, by rw [hk]; simp⟩
          case measure => simp [intOf]; omega
        · have d1 : (x != y) = true := by rw [bne_iff_ne]; exact e1
          have hans := HNO.out q e (by rw [← HXY.out.1, ← HXY.out.2]; exact e1)
          subst hans
          clear e1
          go_wp2_with fail
          go_quiet (fail)
          go_wp2_with fail
          go_ret
          obtain ⟨k, hk⟩ := HBX.out
          exact ⟨rfl, k + nq, by rw [hk]; simp⟩
      · obtain rfl : q = n := by omega
        have dq : decide ((q : Int) < (q : Int)) = false := decide_eq_false (by omega)
        have hans := HYES.out hv.out
        subst hans
        go_wp2_with fail
        go_ret
        exact ⟨rfl, HBX.out⟩

set_option maxHeartbeats 3200000 in
set_option maxRecDepth 100000 in
theorem rplans_any (w : World) (v u : Value) (T U : List (List Int)) (P R : List Int) (h : PlanIn w v T P) (k : PlanIn w u U R) :
    Calls Try.prog 18 #[v, u] w fun e w' => e = .returned (.bool (decide (T = U ∧ P = R))) ∧ Below w.heap.size w w' := by
  obtain ⟨A, n, c, B, m, d, rfl, hT, hnc, hn, hP, hmd, hm⟩ := h
  obtain ⟨A2, n2, c2, B2, m2, d2, rfl, hT2, hnc2, hn2, hP2, hmd2, hm2⟩ := k
  have hTn := hT.1
  have hTn2 := hT2.1
  obtain ⟨w1, hw1⟩ : ∃ w1, w1 = w.alloc (.cells #[.slice A n c, .slice B m d] 32) := ⟨_, rfl⟩
  obtain ⟨w2, hw2⟩ : ∃ w2, w2 = w1.alloc (.cells #[.slice A2 n2 c2, .slice B2 m2 d2] 32) := ⟨_, rfl⟩
  have hr1 : Blk w1 w.heap.size 32 #[.slice A n c, .slice B m d] := by rw [hw1]; exact blk_new w _ _
  have hr2 : Blk w2 w1.heap.size 32 #[.slice A2 n2 c2, .slice B2 m2 d2] := by rw [hw2]; exact blk_new w1 _ _
  have hsz : w1.heap.size = w.heap.size + 1 := by rw [hw1]; simp
  have hb1 : Below w.heap.size w w1 := by rw [hw1]; exact (Below.refl _ _).alloc (Nat.le_refl _) _
  have hb12 : Below w1.heap.size w1 w2 := by rw [hw2]; exact (Below.refl _ _).alloc (Nat.le_refl _) _
  have hb2 : Below w.heap.size w w2 := hb1.trans (hb12.mono hb1.size)
  have q0 : w2.cell? ⟨w.heap.size, 0, none⟩ = some (.slice A n c) := (hb12.cell (p := ⟨w.heap.size, 0, none⟩) (blk_lt hr1)).trans ((blk_cell hr1 0).trans rfl)
  have q1 : w2.cell? ⟨w.heap.size, 1, none⟩ = some (.slice B m d) := (hb12.cell (p := ⟨w.heap.size, 1, none⟩) (blk_lt hr1)).trans ((blk_cell hr1 1).trans rfl)
  have q2 : w2.cell? ⟨w.heap.size + 1, 0, none⟩ = some (.slice A2 n2 c2) := by rw [← hsz]; exact (blk_cell hr2 0).trans rfl
  have q3 : w2.cell? ⟨w.heap.size + 1, 1, none⟩ = some (.slice B2 m2 d2) := by rw [← hsz]; exact (blk_cell hr2 1).trans rfl
  rw [hw1] at hw2
  have HT := Lib.hid (hT.below hb2)
  have HT2 := Lib.hid (hT2.below hb2)
  have HB := Lib.hid hb2
  have HTN : Hid (T.length = n ∧ U.length = n2) := Lib.hid ⟨hTn, hTn2⟩
  have HP := Lib.hid (rints_any w2 B B2 m m2 d d2 P R (hP.below hb2) (hP2.below hb2) hm hm2)
  unfold maxLen at hn hn2
  clear hr1 hr2 hb1 hb12 hb2 hsz hw1 hT hT2 hTn hTn2 hP hP2 hm hm2 hmd hmd2 hnc hnc2
  by_cases en : n = n2
  case neg =>
    rw [show decide (T = U ∧ P = R) = false from decide_eq_false fun e => en (by rw [← HTN.out.1, ← HTN.out.2, e.1])]
    have d0 : ((n : Int) != (n2 : Int)) = true := by
      rw [bne_iff_ne]
      omega
    clear en HP
    subst hw2
    go_enter Try.func18, Try.ntmps18
    go_wp2_with fail
    go_ret
    exact ⟨rfl, HB.out⟩
  case pos =>
    subst en
    have d0 : ((n : Int) != (n : Int)) = false := by simp
    by_cases ep : P = R
    case neg =>
      rw [show decide (T = U ∧ P = R) = false from decide_eq_false fun e => ep e.2]
      rw [show decide (P = R) = false from decide_eq_false ep] at HP
      clear ep
      subst hw2
      go_enter Try.func18, Try.ntmps18
      go_wp2_with fail
      refine HP.out.mono ?_
      rintro e w3 ⟨rfl, k, rfl⟩
      go_wp2_with fail
      go_ret
      exact ⟨rfl, below_drewN HB.out _⟩
    case pos =>
      rw [show decide (P = R) = true from decide_eq_true ep] at HP
      have HNO : Hid (∀ q, q < n → T.getD q [] ≠ U.getD q [] → decide (T = U ∧ P = R) = false) := Lib.hid fun q hq h => decide_eq_false fun e => h (by rw [e.1])
      have HYES : Hid ((∀ q, q < n → T.getD q [] = U.getD q []) → decide (T = U ∧ P = R) = true) := Lib.hid fun h => decide_eq_true ⟨by
        have h1 := HTN.out.1
        have h2 := HTN.out.2
        apply List.ext_getElem (by omega)
        intro q k1 k2
        have := h q (by omega)
        rw [List.getD_eq_getElem?_getD, List.getD_eq_getElem?_getD, List.getElem?_eq_getElem k1, List.getElem?_eq_getElem k2] at this
        exact this, ep⟩
      generalize decide (T = U ∧ P = R) = ans at *
      clear ep
      subst hw2
      go_enter Try.func18, Try.ntmps18
      go_wp2_with fail
      generalize (w.alloc (.cells #[.slice A n c, .slice B m d] 32)).alloc (.cells #[.slice A2 n c2, .slice B2 m2 d2] 32) = w2 at *
      refine HP.out.mono ?_
      rintro e w3 ⟨rfl, hd3⟩
      have HB3 : Hid (Below w2.heap.size w2 w3) := Lib.hid (by obtain ⟨k, rfl⟩ := hd3; exact below_drewN (Below.refl _ _) k)
      clear hd3 HP
      go_wp2_with fail
      clear d0
      go_loopw [5] (fun i wx => ∃ q : Nat, q ≤ n ∧ i = .int .i64 q ∧ Hid (∀ j, j < q → T.getD j [] = U.getD j []) ∧ Below w2.heap.size w2 wx) (fun i _ => n - (intOf i).toNat)
      case atStart => exact ⟨0, Nat.zero_le _, rfl, by intro j hj; omega, HB3.out⟩
      case round =>
        obtain ⟨q, hq, rfl, hv, hbx⟩ := hrel
        have HBX := Lib.hid hbx
        have HL2 := Lib.hid (HT.out.below hbx)
        have HM2 := Lib.hid (HT2.out.below hbx)
        have p0 := (hbx.cell (World.block_lt_of_cell? w2 _ q0)).trans q0
        have p2 := (hbx.cell (World.block_lt_of_cell? w2 _ q2)).trans q2
        have hz2 : w.heap.size + 1 < w2.heap.size := World.block_lt_of_cell? w2 _ q2
        have HBB : Hid (Below w.heap.size w _) := Lib.hid (HB.out.trans (hbx.mono HB.out.size))
        clear hbx
        by_cases e : q < n
        · have dq : decide ((q : Int) < (n : Int)) = true := decide_eq_true (by omega)
          have hqI : (0 : Int) ≤ (q : Int) := by omega
          have hqn : (q : Int) < (n : Int) := by omega
          obtain ⟨b, off, rfl, hc⟩ := HL2.out.2 (by omega)
          obtain ⟨b2, off2, rfl, hc2⟩ := HM2.out.2 (by omega)
          obtain ⟨A3, c3, h1, h2, h3, h4⟩ := hc q e
          obtain ⟨A4, c4, k1, k2, k3, k4⟩ := hc2 q e
          have HV2 : Hid (T.getD q [] = U.getD q [] → ∀ j, j < q + 1 → T.getD j [] = U.getD j []) := Lib.hid fun a j hj => by
            rcases Nat.lt_or_ge j q with hj2 | hj2
            · exact hv.out j hj2
            · obtain rfl : j = q := by omega
              exact a
          have HNQ := Lib.hid (HNO.out q e)
          obtain ⟨x, hx⟩ : ∃ x, x = T.getD q [] := ⟨_, rfl⟩
          obtain ⟨y, hy⟩ : ∃ y, y = U.getD q [] := ⟨_, rfl⟩
          rw [← hx] at h1 h2 h3 h4 HV2 HNQ
          rw [← hy] at k1 k2 k3 k4 HV2 HNQ
          obtain ⟨lx, hlx⟩ : ∃ lx, lx = x.length := ⟨_, rfl⟩
          obtain ⟨ly, hly⟩ : ∃ ly, ly = y.length := ⟨_, rfl⟩
          rw [← hlx] at h1 h2 h3 h4
          rw [← hly] at k1 k2 k3 k4
          have HI := Lib.hid fun (w3 : World) (hb : Below wr.heap.size wr w3) => rints_any w3 A3 A4 lx ly c3 c4 x y (h2.below hb) (k2.below hb) h4 k4
          clear hc hc2 hx hy h2 h3 h4 k2 k3 k4 hlx hly
          by_cases e1 : x = y
          · rw [show decide (x = y) = true from decide_eq_true e1] at HI
            have HV3 := Lib.hid (HV2.out e1)
            clear e1 HV2 HNQ
            go_wp2_with fail
            go_quiet (first | (go_at_call 37; exact Calls.quiet_of (HI.out _ (below_drewN (Below.refl _ _) _))))
            go_wp2_with fail
            go_roundw
            case rel => exact ⟨q + 1, by omega, by go_num, HV3, below_drewN HBX.out _⟩
            case measure => simp [intOf]; omega
          · rw [show decide (x = y) = false from decide_eq_false e1] at HI
            have hans := HNQ.out e1
            subst hans
            clear e1 HV2 HNQ
            go_wp2_with fail
            go_quiet (first | (go_at_call 37; exact Calls.quiet_of (HI.out _ (below_drewN (Below.refl _ _) _))))
            go_wp2_with fail
            go_ret
            exact ⟨rfl, below_drewN HBB.out _⟩
        · obtain rfl : q = n := by omega
          have dq : decide ((q : Int) < (q : Int)) = false := decide_eq_false (by omega)
          have hans := HYES.out hv.out
          subst hans
          go_wp2_with fail
          go_ret
          exact ⟨rfl, HBB.out⟩
end Go.Proofs.Ytmgmgmbpldboiaa
namespace Go.Proofs.Ytmgmgmbpldboiaa
open Go.RowKit

set_option maxRecDepth 100000 in
theorem place_other : ∀ (l : List Nat) (x j : Nat), j < placeOf l x → l.getD j 0 ≠ x
  | [], _, j, h => by simp [placeOf] at h
  | y :: l, x, j, h => by
    rw [placeOf] at h
    by_cases e : y = x
    · rw [if_pos e] at h
      exact absurd h (Nat.not_lt_zero _)
    · rw [if_neg e] at h
      cases j with
      | zero => simpa using e
      | succ j => simpa using place_other l x j (by omega)
theorem place_head (o : List Nat) (x : Nat) (r : List Nat) : putPicks o (x :: r) = List.replicate (placeOf o x) 1 ++ 0 :: putPicks (moveF o (placeOf o x)) r := rfl

set_option maxRecDepth 100000 in
theorem row_low {B k n : Nat} {e : TypeId} {v : Value} {xs : List Value} {w w' : World} (h : w.ownsRow B e k v n xs) (hb : Below w.heap.size w w') : w'.ownsRow B e k v n xs :=
  World.ownsRow.kept (row := none) h ⟨hb.os, hb.tape, hb.output, hb.size, fun j hj _ => hb.block j hj⟩ (by cases hv : v.ownBlock <;> simp)
/-- A row that grows, and an order of six beside it. -/
structure OutOrd (w0 w : World) (v : Value) (X : List Nat) (g c : Nat) (o : List Nat) : Prop where
  out : w.ownsRow w0.heap.size 3 1 v X.length (X.map iv)
  ord : w.ownsRow w0.heap.size 3 1 (.slice (some ⟨g, 0, none⟩) 6 c) 6 (o.map iv)
  ne : v.ownBlock ≠ some g
  below : Below w0.heap.size w0 w
theorem OutOrd.drewN {w0 w : World} {v : Value} {X : List Nat} {g c : Nat} {o : List Nat} (h : OutOrd w0 w v X g c o) (k : Nat) : OutOrd w0 (w.drewN k) v X g c o :=
  ⟨h.out, h.ord, h.ne, below_drewN h.below k⟩
set_option maxRecDepth 100000 in
theorem OutOrd.len {w0 w : World} {v : Value} {X : List Nat} {g c : Nat} {o : List Nat} (h : OutOrd w0 w v X g c o) : o.length = 6 := by
  have := h.ord.1
  simpa using this
theorem OutOrd.cell {w0 w : World} {v : Value} {X : List Nat} {g c : Nat} {o : List Nat} (h : OutOrd w0 w v X g c o) (j : Nat) (hj : j < 6) : w.cell? ⟨g, j, none⟩ = some (.int .i64 (o.getD j 0 : Nat)) := by
  have hl := h.len
  rw [World.ownsRow.cellAt h.ord j (by omega), List.getElem?_map, List.getElem?_eq_getElem (by omega), List.getD_eq_getElem?_getD, List.getElem?_eq_getElem (by omega)]
  rfl
set_option maxRecDepth 100000 in
theorem OutOrd.push {w0 w : World} {A : Option Addr} {N cap : Nat} {X : List Nat} {g c : Nat} {o : List Nat} (h : OutOrd w0 w (.slice A N cap) X g c o) (x : Nat) (hN : X.length = N) (hX : N ≤ 1000000) :
    ∃ A2 cap2 w2, (Builtin.append_ #[30, 30] 30 #[.slice A N cap, .slice (some ⟨w.heap.size, 0, none⟩) 1 1]).run Try.prog (w.alloc (.cells #[.int .i64 x] 3)) = .ok (.slice A2 (N + 1) cap2) w2 ∧
      OutOrd w0 w2 (.slice A2 (N + 1) cap2) (X ++ [x]) g c o := by
  obtain ⟨i3, h3, hz0, hz1, hz2⟩ := info_parts Try.info3
  subst hN
  have hsz := h.below.size
  obtain ⟨v2, w2, hr, ho, hg, _, hat⟩ := run_append_own_at (P := Try.prog) (w.alloc (.cells #[.int .i64 x] 3)) w0.heap.size 30 30 3 i3 (.int .i64 0) 1 8 Try.underlying30 h3 hz0 hz1 hz2 rfl (by decide) _ _ _ (h.out.alloc _) ⟨w.heap.size, 0, none⟩ 1 1 [iv x] rfl (cell_one w (iv x) 3)
    (fun u hu => by rw [List.mem_singleton.1 hu]; rfl) (by unfold maxLen; omega) (by omega) (by simp; omega)
  obtain ⟨A2, cap2, rfl, _, _, _⟩ := own_slice ho
  have hlt := World.ownsRow.lt h.ord g rfl
  refine ⟨A2, cap2, w2, hr, ?_, World.ownsRow.kept (h.ord.alloc _) hg (.inr fun e => h.ne e.symm), ?_, ?_⟩
  · have h2 := ho
    rw [show X.map iv ++ [iv x] = (X ++ [x]).map iv by simp] at h2
    rw [List.length_append]
    exact h2
  · rcases hat with e | e
    · rw [e]
      exact h.ne
    · rw [e]
      intro e2
      have := Option.some.inj e2
      simp at this
      omega
  · exact (h.below.alloc hsz _).grown hg (by simp; omega) (fun k hk => (h.out.lt k hk).1)
/-- An order is made anew. -/
theorem OutOrd.turn {w0 w w2 : World} {v v2 : Value} {X : List Nat} {g c : Nat} {o o2 : List Nat} (h : OutOrd w0 w v X g c o) (hb : Below w.heap.size w w2) (hr : w2.ownsRow w.heap.size 3 1 v2 6 (o2.map iv)) :
    ∃ g2 c2, v2 = .slice (some ⟨g2, 0, none⟩) 6 c2 ∧ OutOrd w0 w2 v X g2 c2 o2 := by
  obtain ⟨A2, c2, rfl, _, _, hA⟩ := own_slice hr
  obtain ⟨g2, rfl⟩ := hA (by omega)
  refine ⟨g2, c2, rfl, row_low h.out hb, World.ownsRow.mono hr h.below.size, ?_, h.below.trans (hb.mono h.below.size)⟩
  intro e
  have h1 := (World.ownsRow.lt h.out g2 e).2
  have h2 := (World.ownsRow.lt hr g2 rfl).1
  omega
end Go.Proofs.Ytmgmgmbpldboiaa
namespace Go.Proofs.Ytmgmgmbpldboiaa
open Go.RowKit

set_option maxRecDepth 100000 in
theorem conv_row {w : World} {B : Nat} {v : Value} {l : List UInt8} (h : w.ownsRow B 5 1 v l.length (l.map bv)) : (convert 76 9 v).run Try.prog w = .ok (.string ⟨l.toArray⟩) w := by
  rcases h.2 with ⟨rfl, h0⟩ | ⟨g, cap, cur, rfl, _⟩
  · have : l = [] := List.eq_nil_of_length_eq_zero h0
    subst this
    exact run_convert_bytes_nil w 76 5 Try.underlying76 Try.underlying5 0 0 9 Try.underlying9
  · have hn : ∀ j (hj : j < l.length), w.cell? ((⟨g, 0, none⟩ : Addr).add j) = some (.int .u8 (l[j].toNat : Int)) := by
      intro j hj
      have h1 := h.cells (g := g) rfl j (.int .u8 (l[j].toNat : Int))
      exact h1 (by rw [List.getElem?_map, List.getElem?_eq_getElem hj]; rfl)
    exact run_convert_bytes_back w 76 9 5 ⟨g, 0, none⟩ cap l Try.underlying76 Try.underlying5 Try.underlying9 hn

/-- Eight bits from bit number i on, filled up with 0 bits. -/
def eight (L : List Nat) (i : Nat) : List Nat := (L.drop i).take 8 ++ List.replicate (8 - ((L.drop i).take 8).length) 0

theorem eight_length (L : List Nat) (i : Nat) : (eight L i).length = 8 := by
  unfold eight
  rw [List.length_append, List.length_replicate]
  have : ((L.drop i).take 8).length ≤ 8 := by rw [List.length_take]; omega
  omega

theorem eight_get (L : List Nat) (i m : Nat) (hm : m < 8) : (eight L i)[m]? = some (L.getD (i + m) 0) := by
  unfold eight
  rw [List.getD_eq_getElem?_getD]
  by_cases h : i + m < L.length
  · rw [List.getElem?_append_left (by rw [List.length_take, List.length_drop]; omega), List.getElem?_take, if_pos hm, List.getElem?_drop, List.getElem?_eq_getElem h]
    rfl
  · rw [List.getElem?_append_right (by rw [List.length_take, List.length_drop]; omega), List.getElem?_replicate, if_pos (by rw [List.length_take, List.length_drop]; omega), List.getElem?_eq_none (by omega)]
    rfl

theorem eight_bits (L : List Nat) (i : Nat) (h : Bit01 L) : Bit01 (eight L i) := by
  refine ((h.drop i).take 8).append ?_
  intro b hb
  have := (List.mem_replicate.1 hb).2
  omega

theorem val_zeros (k : Nat) : val (List.replicate k 0) = 0 := by
  rw [← bitsN_zero, val_bitsN, Nat.zero_mod]

theorem pack_eight (L : List Nat) (j : Nat) (h : 8 * j < L.length) : pack (L.take (8 * (j + 1))) = pack (L.take (8 * j)) ++ [UInt8.ofNat (val (eight L (8 * j)))] := by
  rw [show 8 * (j + 1) = 8 * j + 8 by omega, List.take_add, pack_append j _ _ (by rw [List.length_take]; omega)]
  congr 1
  have hl : ((L.drop (8 * j)).take 8).length ≤ 8 := by rw [List.length_take]; omega
  rw [pack_short _ (by rw [List.length_take, List.length_drop]; omega) hl]
  unfold eight
  rw [val_append, val_zeros, List.length_replicate, Nat.add_zero]

theorem eight_next (L : List Nat) (i m : Nat) (hm : m < 8) : val ((eight L i).take (m + 1)) = 2 * val ((eight L i).take m) + L.getD (i + m) 0 := by
  rw [List.take_add_one, eight_get L i m hm]
  exact val_snoc _ _

set_option maxRecDepth 100000 in
theorem text_any (w : World) (A : Option Addr) (n c : Nat) (L : List Nat) (hi : IntsIn w A n L) (hb : Bit01 L) (hn : n ≤ 1000000000) :
    Calls Try.prog 27 #[.slice A n c] w fun e w' => e = .returned (.string ⟨(pack L).toArray⟩) ∧ Below w.heap.size w w' := by
  obtain ⟨i5, h5, hz0, hz1, hz2⟩ := info_parts Try.info5
  have hI : (0 < n → ∃ b off, A = some ⟨b, off, none⟩ ∧ b < w.heap.size ∧ ∀ i, i < n → w.cell? ⟨b, off + i, none⟩ = some (.int .i64 (L.getD i 0))) := fun h => by
    obtain ⟨b, off, hA, hc⟩ := hi.2 h
    exact ⟨b, off, hA, World.block_lt_of_cell? w _ (hc 0 h), hc⟩
  have HL := Lib.hid hi.1
  have HI := Lib.hid hI
  clear hi hI
  go_enter Try.func27, Try.ntmps27
  go_wp2
  go_loopw [3, 4] (fun v i wr => ∃ j : Nat, 8 * j ≤ n + 7 ∧ i = .int .i64 (8 * j : Nat) ∧ wr.ownsRow w.heap.size 5 1 v (pack (L.take (8 * j))).length ((pack (L.take (8 * j))).map bv) ∧ Below w.heap.size w wr) (fun _ i _ => n + 8 - (intOf i).toNat)
  case atStart => exact ⟨0, by omega, rfl, World.ownsRow_nil _ _ _ _, Below.refl _ _⟩
  case round =>
    obtain ⟨j, hj, rfl, hown, hbl⟩ := hrel
    have hsize := hbl.size
    by_cases h : 8 * j < n
    · obtain ⟨J, hJ⟩ : ∃ J, J = 8 * j := ⟨_, rfl⟩
      rw [← hJ] at hown h hj ⊢
      have HJ := Lib.hid hJ
      clear hJ
      obtain ⟨b, off, rfl, hbB, hc⟩ := HI.out (by omega)
      go_wp2
      go_loop [5, 6] (fun x k => ∃ m : Nat, m ≤ 8 ∧ k = .int .i64 m ∧ x = .int .i64 (val ((eight L J).take m))) (fun _ k => 8 - (intOf k).toNat)
      case atStart => exact ⟨0, by omega, rfl, by simp [val]⟩
      case round =>
        obtain ⟨m, hm, rfl, rfl⟩ := hrel
        have hv : val ((eight L J).take m) < 256 := by
          refine Nat.lt_of_lt_of_le (val_lt _ ((eight_bits L J hb).take m)) (Nat.le_trans (Nat.pow_le_pow_right (by omega) (show ((eight L J).take m).length ≤ 8 by rw [List.length_take]; omega)) (by decide))
        by_cases hm8 : m < 8
        · have hnext := eight_next L J m hm8
          by_cases hin : J + m < n
          · have hcell := (hbl.cell (p := ⟨b, off + (J + m), none⟩) hbB).trans (hc (J + m) hin)
            have hy2 : L.getD (J + m) 0 < 2 := bit_lt L (J + m) hb
            generalize val ((eight L J).take m) = X at *
            generalize L.getD (J + m) 0 = y at *
            have HN := Lib.hid hnext
            clear hnext hc
            go_wp2
            go_round
            case rel => exact ⟨m + 1, hm8, by go_num, by rw [HN.out]; congr 1; omega⟩
            case measure => simp [intOf]; omega
          · have hy0 : L.getD (J + m) 0 = 0 := by
              rw [List.getD_eq_getElem?_getD, List.getElem?_eq_none (by rw [HL.out]; omega)]; rfl
            rw [hy0] at hnext
            generalize val ((eight L J).take m) = X at *
            have HN := Lib.hid hnext
            clear hnext hc hy0
            go_wp2
            go_round
            case rel => exact ⟨m + 1, hm8, by go_num, by rw [HN.out]; congr 1; omega⟩
            case measure => simp [intOf]; omega
        · obtain rfl : m = 8 := by omega
          obtain ⟨xs, hxs⟩ : ∃ xs, xs = (pack (L.take J)).map bv := ⟨_, rfl⟩
          rw [← hxs] at hown
          have HX := Lib.hid hxs
          clear hxs
          have hpl : (pack (L.take J)).length ≤ n := by rw [pack_length, List.length_take]; omega
          generalize hpk : (pack (L.take J)).length = K at *
          have HK := Lib.hid hpk
          clear hpk
          rw [List.take_of_length_le (by rw [eight_length]; exact Nat.le_refl _)] at hv ⊢
          generalize hev : val (eight L J) = X at *
          have HE := Lib.hid hev
          clear hev hc
          go_wp2_with (at_builtin; refine wpList_append_own _ rfl _ _ 76 rfl w.heap.size 5 i5 (.int .u8 0) 1 1 Try.underlying76 h5 hz0 hz1 hz2 rfl (by decide) _ _ _ rfl (hown.alloc _) ⟨wr.heap.size, 0, none⟩ 1 1 [.int .u8 X] rfl rfl ?c1 ?c2 ?c3 ?c4 ?c5 ?_)
          case c2 => rfl
          case c3 => unfold maxLen; omega
          case c4 => omega
          case c5 => omega
          intro v2 w2 hown2 hgrow2 _
          have hb2 : Below w.heap.size w w2 := (hbl.alloc hsize _).grown hgrow2 (by simp; omega) (fun k hk => (hown.lt k hk).1)
          have hpe := pack_eight L j (by rw [HL.out, ← HJ.out]; exact h)
          rw [← HJ.out, HE.out] at hpe
          have hown3 : w2.ownsRow w.heap.size 5 1 v2 (pack (L.take (8 * (j + 1)))).length ((pack (L.take (8 * (j + 1)))).map bv) := by
            rw [hpe, List.length_append, List.length_singleton, HK.out, List.map_append, ← HX.out]
            have : bv (UInt8.ofNat X) = .int .u8 X := by simp [bv]; omega
            rw [List.map_singleton, this]
            exact hown2
          have HP := Lib.hid hpe
          clear hpe hown2 hgrow2 hown hbl
          go_wp2
          go_roundw
          case rel => exact ⟨j + 1, by rw [HJ.out] at h; omega, by rw [HJ.out]; rfl, hown3, hb2⟩
          case measure => simp [intOf]; omega
    · have hall : L.take (8 * j) = L := List.take_of_length_le (by rw [HL.out]; omega)
      rw [hall] at hown
      have hconv := conv_row hown
      have HA := Lib.hid hall
      clear hall
      go_wp2
      go_ret
      exact ⟨rfl, hbl⟩

end Go.Proofs.Ytmgmgmbpldboiaa
