/- Mc Yh Md Me Mf Mg: texts laid together, what is not used left out. -/
import Derived.Test.YtmgmgmbpldboiaaZ14
import Derived.Test.YtmgmgmbpldboiaaZ04
import Derived.Test.YtmgmgmbpldboiaaZ13
namespace Go.Proofs.Ytmgmgmbpldboiaa
open Go.RowKit

section
variable (R : GroupsDone)
include R
set_option maxHeartbeats 1600000 in
set_option maxRecDepth 100000 in
theorem tables_law (w : World) (m : Int) (h1 : -9223372036854775808 ≤ m) (h2 : m ≤ 9223372036854775807) : Calls Try.prog 3 #[.int .i64 m] w fun e w' => e = .returned (.bool true) ∧ Below w.heap.size w w' := by
  have HC := Lib.hid (R.tables w m h1 h2)
  have HR := Lib.hid fun wx => rtables_any wx m
  have HAW := Lib.hid (awake_any R)
  generalize tablesAns m = a at *
  obtain ⟨x, y⟩ := a
  dsimp only at HC HR
  go_enter Try.func3, Try.ntmps3
  go_wp2_with fail
  refine HC.out.mono ?_
  rintro e w2 ⟨rfl, hb2⟩
  have HB2 := Lib.hid hb2
  clear hb2
  go_wp2_with fail
  refine (HR.out w2).mono ?_
  rintro e w3 ⟨rfl, rfl⟩
  go_wp2_with fail
  refine (HAW.out _).mono ?_
  rintro e w4 ⟨rfl, hb4⟩
  have HB4 := Lib.hid (HB2.out.trans (hb4.mono HB2.out.size))
  clear hb4
  go_wp2_with fail
  go_ret
  exact ⟨rfl, HB4.out⟩
end

/-- How much a plan holds, by its first tables. -/
def lightS (T : List (List Int)) (P : List Int) (q : Nat) : Nat := P.length + ((T.take q).map List.length).sum
def IsLight (T : List (List Int)) (P : List Int) : Prop := lightS T P (min T.length 10) ≤ 3000 ∧ T.length ≤ 10
instance (T : List (List Int)) (P : List Int) : Decidable (IsLight T P) := inferInstanceAs (Decidable (_ ∧ _))
theorem lightS_next (T : List (List Int)) (P : List Int) (q : Nat) (h : q < T.length) : lightS T P (q + 1) = lightS T P q + (T.getD q []).length := by
  unfold lightS
  rw [List.take_add_one, List.getElem?_eq_getElem h, List.getD_eq_getElem?_getD, List.getElem?_eq_getElem h]
  show P.length + ((T.take q ++ [T[q]]).map List.length).sum = P.length + ((T.take q).map List.length).sum + (T[q]).length
  rw [List.map_append, List.sum_append, List.map_singleton, List.sum_singleton]
  omega
set_option maxRecDepth 100000 in
theorem sum_one : ∀ (l : List Nat) (x : Nat), x ∈ l → x ≤ l.sum
  | [], x, h => absurd h List.not_mem_nil
  | y :: l, x, h => by
    rw [List.sum_cons]
    rcases List.mem_cons.1 h with rfl | h
    · exact Nat.le_add_right _ _
    · have := sum_one l x h
      omega
theorem light_of {T : List (List Int)} {P : List Int} (h : IsLight T P) : LightP T P := by
  obtain ⟨h1, h2⟩ := h
  rw [Nat.min_eq_left h2] at h1
  unfold lightS at h1
  rw [List.take_length] at h1
  refine ⟨h2, by omega, fun t ht => ?_⟩
  have := sum_one (T.map List.length) t.length (List.mem_map.2 ⟨t, ht, rfl⟩)
  omega
/-- Plans of a bulk that no reckoning wraps. -/
def SmallP (T : List (List Int)) (P : List Int) : Prop := T.length ≤ 140737488355328 ∧ P.length ≤ 140737488355328 ∧ ∀ t ∈ T, t.length ≤ 140737488355328
set_option maxRecDepth 100000 in
theorem lightS_le {T : List (List Int)} {P : List Int} (h : SmallP T P) : ∀ q, q ≤ T.length → lightS T P q ≤ 140737488355328 * (q + 1)
  | 0, _ => by
    have := h.2.1
    simp [lightS]
    omega
  | q + 1, hq => by
    have h1 := lightS_le h q (by omega)
    have h2 := h.2.2 _ (list_at (T := T) (q := q) (by omega))
    rw [lightS_next T P q (by omega)]
    omega

set_option maxHeartbeats 1600000 in
set_option maxRecDepth 100000 in
theorem llight_any (w : World) (v : Value) (T : List (List Int)) (P : List Int) (h : PlanIn w v T P) (hs : SmallP T P) : Calls Try.prog 9 #[v] w fun e w' => e = .returned (.bool (decide (IsLight T P))) ∧ Below w.heap.size w w' := by
  obtain ⟨A, n, c, B, m, d, rfl, hT, hnc, hn, hP, hmd, hm⟩ := h
  have hTn := hT.1
  have hPn := hP.1
  obtain ⟨w1, hw1⟩ : ∃ w1, w1 = w.alloc (.cells #[.slice A n c, .slice B m d] 32) := ⟨_, rfl⟩
  have hb1 : Below w.heap.size w w1 := by rw [hw1]; exact (Below.refl _ _).alloc (Nat.le_refl _) _
  have hr1 : Blk w1 w.heap.size 32 #[.slice A n c, .slice B m d] := by rw [hw1]; exact blk_new w _ _
  have q0 : w1.cell? ⟨w.heap.size, 0, none⟩ = some (.slice A n c) := (blk_cell hr1 0).trans rfl
  have q1 : w1.cell? ⟨w.heap.size, 1, none⟩ = some (.slice B m d) := (blk_cell hr1 1).trans rfl
  have HQ0 := Lib.hid q0
  have HQ1 := Lib.hid q1
  have HT := Lib.hid (hT.below hb1)
  have HTN := Lib.hid hTn
  have HSL := Lib.hid (lightS_le hs)
  have HS := Lib.hid hs
  have h0 : lightS T P 0 = m := by simp [lightS, hPn]
  have HH0 := Lib.hid h0
  have hn2 : n ≤ 140737488355328 := by rw [← hTn]; exact hs.1
  have hm2 : m ≤ 140737488355328 := by rw [← hPn]; exact hs.2.1
  have HB1 := Lib.hid hb1
  rw [hw1] at q0 q1
  clear hT hP hTn hPn hb1 hr1 hs hnc hmd hn hm h0
  go_enter Try.func9, Try.ntmps9
  go_wp2_with fail
  rw [← hw1]
  clear hw1 q0 q1
  go_loopw [3, 4] (fun sv iv' wx => ∃ q s : Nat, q ≤ n ∧ q ≤ 10 ∧ iv' = .int .i64 q ∧ sv = .int .i64 s ∧ Hid (s = lightS T P q) ∧ wx = w1) (fun _ iv' _ => n - (intOf iv').toNat)
  case atStart => exact ⟨0, m, Nat.zero_le _, Nat.zero_le _, rfl, rfl, Lib.hid HH0.out.symm, rfl⟩
  case round =>
    obtain ⟨q, s, hqn, hq10, rfl, rfl, hsum, rfl⟩ := hrel
    have q0 := HQ0.out
    have q1 := HQ1.out
    have hsb : s ≤ 1548112371908608 := by
      have h1 := HSL.out q (by rw [HTN.out]; exact hqn)
      have h2 := hsum.out
      omega
    by_cases e : q < n
    · have d0 : decide ((q : Int) < (n : Int)) = true := decide_eq_true (by omega)
      by_cases e2 : q < 10
      · have d1 : decide ((q : Int) < 10) = true := decide_eq_true (by omega)
        obtain ⟨b, off, rfl, hc⟩ := HT.out.2 (by omega)
        obtain ⟨A2, c2, k1, _⟩ := hc q e
        have hlen := HS.out.2.2 _ (list_at (T := T) (q := q) (by rw [HTN.out]; exact e))
        obtain ⟨K, hK⟩ : ∃ K, K = (T.getD q []).length := ⟨_, rfl⟩
        rw [← hK] at k1 hlen
        have HNX : Hid (s + K = lightS T P (q + 1)) := Lib.hid (by rw [lightS_next T P q (by rw [HTN.out]; exact e), ← hsum.out, hK])
        have hqI : (q : Int) < (n : Int) := by omega
        clear hc hK hsum
        go_wp2_with fail
        go_roundw
        case rel => exact ⟨q + 1, s + K, by omega, by omega, by go_num, by go_num, HNX, by first | trivial | rfl⟩
        case measure => simp [intOf]; omega
      · obtain rfl : q = 10 := by omega
        have d1 : decide ((10 : Int) < 10) = false := decide_eq_false (by omega)
        have hno : ¬ IsLight T P := fun h => by
          have := h.2
          rw [HTN.out] at this
          omega
        have hd : decide (IsLight T P) = false := decide_eq_false hno
        have d2 : decide ((n : Int) ≤ 10) = false := decide_eq_false (by omega)
        clear hno hsum
        by_cases es : s ≤ 3000
        · have d3 : decide ((s : Int) ≤ 3000) = true := decide_eq_true (by omega)
          go_wp2_with fail
          go_ret
          exact ⟨by rw [hd]; rfl, HB1.out⟩
        · have d3 : decide ((s : Int) ≤ 3000) = false := decide_eq_false (by omega)
          go_wp2_with fail
          go_ret
          exact ⟨by rw [hd]; rfl, HB1.out⟩
    · obtain rfl : q = n := by omega
      have d0 : decide ((q : Int) < (q : Int)) = false := decide_eq_false (by omega)
      have d2 : decide ((q : Int) ≤ 10) = true := decide_eq_true (by omega)
      have hlig : IsLight T P ↔ s ≤ 3000 := by
        unfold IsLight
        rw [HTN.out, Nat.min_eq_left hq10, ← hsum.out]
        exact ⟨fun h => h.1, fun h => ⟨h, hq10⟩⟩
      have HLIG := Lib.hid hlig
      clear hsum hlig
      by_cases es : s ≤ 3000
      · have d3 : decide ((s : Int) ≤ 3000) = true := decide_eq_true (by omega)
        have hd : decide (IsLight T P) = true := decide_eq_true (HLIG.out.2 es)
        go_wp2_with fail
        go_ret
        exact ⟨by rw [hd]; rfl, HB1.out⟩
      · have d3 : decide ((s : Int) ≤ 3000) = false := decide_eq_false (by omega)
        have hd : decide (IsLight T P) = false := decide_eq_false (fun k => es (HLIG.out.1 k))
        go_wp2_with fail
        go_ret
        exact ⟨by rw [hd]; rfl, HB1.out⟩

theorem guardB : Try.prog.eqGuardType Try.prog.depth 35 = false := by kernel_rfl
theorem heldB : Try.prog.stoodInHeld 35 = false := by kernel_rfl
set_option maxRecDepth 100000 in
theorem fieldsB : Try.prog.underlying 35 = some (.struct (Try.prog.fieldsOf 35)) := by simp [Program.fieldsOf, Try.underlying35]
set_option maxRecDepth 100000 in
/-- Two pieces of one text and one count are equal. -/
theorem bits_eql (T : ByteArray) (n : Int) (w : World) : (binOp .eql 35 (.agg #[.string T, .int .i64 n]) (.agg #[.string T, .int .i64 n])).run Try.prog w = .ok (.bool true) w := by
  rw [run_eql_struct, run_equalIn_agg w 9999 35 _ _ fieldsB heldB]
  simp [Program.fieldsOf, Try.underlying35, Op.eqFields, part, go_sem]
section
variable (R : GroupsDone)
include R
set_option maxHeartbeats 1600000 in
set_option maxRecDepth 100000 in
theorem shows_law (w : World) (v : Value) (T : List (List Int)) (P : List Int) (h : PlanIn w v T P) (hs : SmallP T P) : Calls Try.prog 4 #[v] w fun e w' => e = .returned (.bool true) ∧ Below w.heap.size w w' := by
  obtain ⟨A, n, c, B, m, d, rfl, hpl⟩ := h.parts
  clear h
  obtain ⟨w1, hw1⟩ : ∃ w1, w1 = w.alloc (.cells #[.slice A n c, .slice B m d] 32) := ⟨_, rfl⟩
  have hb1 : Below w.heap.size w w1 := by rw [hw1]; exact (Below.refl _ _).alloc (Nat.le_refl _) _
  have hr1 : Blk w1 w.heap.size 32 #[.slice A n c, .slice B m d] := by rw [hw1]; exact blk_new w _ _
  have hz1 : w.heap.size < w1.heap.size := blk_lt hr1
  have q0 : w1.cell? ⟨w.heap.size, 0, none⟩ = some (.slice A n c) := (blk_cell hr1 0).trans rfl
  have q1 : w1.cell? ⟨w.heap.size, 1, none⟩ = some (.slice B m d) := (blk_cell hr1 1).trans rfl
  have HQ : Hid (∀ wx, Below w1.heap.size w1 wx → wx.cell? ⟨w.heap.size, 0, none⟩ = some (.slice A n c) ∧ wx.cell? ⟨w.heap.size, 1, none⟩ = some (.slice B m d)) := Lib.hid fun wx h =>
    ⟨(h.cell (p := ⟨w.heap.size, 0, none⟩) hz1).trans q0, (h.cell (p := ⟨w.heap.size, 1, none⟩) hz1).trans q1⟩
  have HPL := Lib.hid (hpl.below hb1)
  have HLI := Lib.hid (llight_any w1 _ T P (hpl.below hb1) hs)
  have HAW := Lib.hid (awake_any R)
  have HSH := Lib.hid R.shows
  have HRS := Lib.hid rshowg_any
  have HB1 := Lib.hid hb1
  rw [hw1] at q0 q1
  clear hb1 hr1 hpl hs
  by_cases hl : IsLight T P
  · rw [decide_eq_true hl] at HLI
    have HLP := Lib.hid (light_of hl)
    clear hl R
    go_enter Try.func4, Try.ntmps4
    go_wp2_with fail
    rw [← hw1]
    clear hw1 q0 q1
    refine HLI.out.mono ?_
    rintro e w2 ⟨rfl, hb2⟩
    obtain ⟨q0, q1⟩ := HQ.out _ hb2
    have HB2 := Lib.hid hb2
    have HS2 := Lib.hid (HSH.out w2 _ T P (HPL.out.below hb2) HLP.out)
    clear hb2 HLI
    go_wp2_with fail
    refine HS2.out.mono ?_
    rintro e w3 ⟨rfl, hb3⟩
    have hb23 := HB2.out.trans (hb3.mono HB2.out.size)
    clear q0 q1 hb3 HS2 HB2
    have hR3 := fun wx (hb : Below w1.heap.size w1 wx) => HRS.out wx _ T P (HPL.out.below hb)
    generalize bitsG T P = bs at *
    obtain ⟨bl, k⟩ := bs
    dsimp only at hR3 ⊢
    have HR3 := Lib.hid hR3
    obtain ⟨X, hX⟩ : ∃ X, X = (⟨(pack bl).toArray⟩ : ByteArray) := ⟨_, rfl⟩
    obtain ⟨N, hN⟩ : ∃ N, N = bl.length := ⟨_, rfl⟩
    rw [← hX, ← hN]
    have HX := Lib.hid hX
    have HN := Lib.hid hN
    have hb34 : Below w3.heap.size w3 (w3.alloc (.cells #[.string X, .int .i64 N] 35)) := (Below.refl _ _).alloc (Nat.le_refl _) _
    have HK4 := Lib.hid (blk_new w3 35 #[.string X, .int .i64 N])
    have hb14 := hb23.trans (hb34.mono hb23.size)
    have HB4 := Lib.hid hb14
    obtain ⟨q0, q1⟩ := HQ.out _ hb14
    clear hb23 hb34 hb14 hX hN hR3
    go_upto_region 4 with fail
    generalize w3.alloc (.cells #[.string X, .int .i64 N] 35) = w4 at *
    generalize w3.heap.size = g3 at *
    have HR4 := Lib.hid (HR3.out w4 HB4.out)
    go_wp2_with fail
    refine HR4.out.mono ?_
    rintro e w5 ⟨rfl, hb5⟩
    dsimp only
    rw [← HX.out, ← HN.out]
    have hb56 : Below w5.heap.size w5 (w5.alloc (.cells #[.string X, .int .i64 N] 35)) := (Below.refl _ _).alloc (Nat.le_refl _) _
    have hk5 := blk_new w5 35 #[.string X, .int .i64 N]
    have hb46 := hb5.trans (hb56.mono hb5.size)
    have hk46 := (step_of_below hb46).blk HK4.out List.not_mem_nil List.not_mem_nil
    have r0 := (blk_cell hk46 0).trans rfl
    have r1 := (blk_cell hk46 1).trans rfl
    have s0 := (blk_cell hk5 0).trans rfl
    have s1 := (blk_cell hk5 1).trans rfl
    have HB6 := Lib.hid (HB1.out.trans ((HB4.out.trans (hb46.mono HB4.out.size)).mono HB1.out.size))
    clear q0 q1 hb5 hb56 hb46 hk5 hk46 HR4 HK4
    go_upto_region 5 with fail
    generalize w5.alloc (.cells #[.string X, .int .i64 N] 35) = w6 at *
    generalize w5.heap.size = g5 at *
    have heq := bits_eql X N
    have hg := guardB
    go_wp2_with fail
    refine (HAW.out _).mono ?_
    rintro e w7 ⟨rfl, hb7⟩
    have HB7 := Lib.hid (HB6.out.trans (hb7.mono HB6.out.size))
    clear hb7
    go_wp2_with fail
    go_ret
    exact ⟨rfl, HB7.out⟩
  · rw [decide_eq_false hl] at HLI
    clear hl R
    go_enter Try.func4, Try.ntmps4
    go_wp2_with fail
    rw [← hw1]
    clear hw1 q0 q1
    refine HLI.out.mono ?_
    rintro e w2 ⟨rfl, hb2⟩
    have HB2 := Lib.hid (HB1.out.trans (hb2.mono HB1.out.size))
    clear hb2 HLI
    go_wp2_with fail
    refine (HAW.out _).mono ?_
    rintro e w7 ⟨rfl, hb7⟩
    have HB7 := Lib.hid (HB2.out.trans (hb7.mono HB2.out.size))
    clear hb7
    go_wp2_with fail
    go_ret
    exact ⟨rfl, HB7.out⟩
end

end Go.Proofs.Ytmgmgmbpldboiaa
namespace Go.Proofs.Ytmgmgmbpldboiaa
open Go.RowKit

set_option maxHeartbeats 1600000 in
set_option maxRecDepth 100000 in
theorem zs_same (w : World) (A B : Option Addr) (n c d : Nat) (L : List Int) (h : ZIn w A n L) (k : ZIn w B n L) (hn : n ≤ 2000000) :
    Calls Try.prog 15 #[.slice A n c, .slice B n d] w fun e w' => e = .returned (.bool true) ∧ ∃ m, w' = w.drewN m := by
  have d0 : ((n : Int) != (n : Int)) = false := by simp
  have H := Lib.hid h
  have K := Lib.hid k
  clear h k
  go_enter Try.func15, Try.ntmps15
  go_wp2_with fail
  go_loopw [5] (fun x wr => ∃ q : Nat, q ≤ n ∧ x = .int .i64 q ∧ ∃ m, wr = w.drewN m) (fun x _ => n - (intOf x).toNat)
  case atStart => exact ⟨0, Nat.zero_le _, rfl, 0, rfl⟩
  case round =>
    obtain ⟨q, hq, rfl, hd⟩ := hrel
    have HD := Lib.hid hd
    by_cases e : q < n
    · obtain ⟨b1, o1, rfl, hc1⟩ := H.out.2 (by omega)
      obtain ⟨b2, o2, rfl, hc2⟩ := K.out.2 (by omega)
      have c1 : wr.cell? ⟨b1, o1 + q, none⟩ = some (.int .i64 (L.getD q 0)) := by obtain ⟨m, rfl⟩ := hd; exact hc1 q e
      have c2 : wr.cell? ⟨b2, o2 + q, none⟩ = some (.int .i64 (L.getD q 0)) := by obtain ⟨m, rfl⟩ := hd; exact hc2 q e
      obtain ⟨v, hv⟩ : ∃ v, v = L.getD q 0 := ⟨_, rfl⟩
      rw [← hv] at c1 c2
      clear hv hd hc1 hc2
      have d1 : decide ((q : Int) < (n : Int)) = true := decide_eq_true (by omega)
      have d2 : (v != v) = false := by simp
      go_wp2_with fail
      go_quiet (fail)
      go_wp2_with fail
      go_roundw
      case rel =>
        obtain ⟨m, hm⟩ := HD.out
        exact ⟨q + 1, by omega, by go_num, m + nq, by rw [hm]; simp⟩
      case measure => simp [intOf]; omega
    · have d1 : decide ((q : Int) < (n : Int)) = false := decide_eq_false (by omega)
      clear hd
      go_wp2_with fail
      go_ret
      exact ⟨rfl, HD.out⟩

/-- What is asked of the code's functions; Make and Flat for at most N weights. -/
structure LenDone (N : Nat) : Prop where
  flat : ∀ (w : World) (A : Option Addr) (n c : Nat) (L : List Int), ZIn w A n L → n ≤ c → n ≤ N → n ≤ maxLen → Calls Try.prog 34 #[.slice A n c] w (FlatPost w L)
  check : ∀ (w : World) (A : Option Addr) (n c : Nat) (L : List Int), ZIn w A n L → n ≤ c → n ≤ maxLen → Calls Try.prog 69 #[.slice A n c] w fun e w' => e = .returned (.int .i64 (if LenOk L then 0 else 80)) ∧ Below w.heap.size w w'

end Go.Proofs.Ytmgmgmbpldboiaa
namespace Go.Proofs.Ytmgmgmbpldboiaa
open Go.RowKit

/-- A plan that a cell of its own holds. -/
def Held (w : World) (g : Nat) (T : List (List Int)) (P : List Int) (u v : Value) : Prop := Blk w g 32 #[u, v] ∧ PlanIn w (.agg #[u, v]) T P
theorem Held.below {w w' : World} {g : Nat} {T : List (List Int)} {P : List Int} {u v : Value} (h : Held w g T P u v) (hb : Below w.heap.size w w') : Held w' g T P u v :=
  ⟨(step_of_below hb).blk h.1 List.not_mem_nil List.not_mem_nil, h.2.below hb⟩
theorem Held.cells {w : World} {g : Nat} {T : List (List Int)} {P : List Int} {u v : Value} (h : Held w g T P u v) : w.cell? ⟨g, 0, none⟩ = some u ∧ w.cell? ⟨g, 1, none⟩ = some v :=
  ⟨(blk_cell h.1 0).trans rfl, (blk_cell h.1 1).trans rfl⟩
theorem held_new {w : World} {u v : Value} {T : List (List Int)} {P : List Int} (h : PlanIn w (.agg #[u, v]) T P) : Held (w.alloc (.cells #[u, v] 32)) w.heap.size T P u v ∧ Below w.heap.size w (w.alloc (.cells #[u, v] 32)) :=
  ⟨⟨blk_new w _ _, h.below ((Below.refl _ _).alloc (Nat.le_refl _) _)⟩, (Below.refl _ _).alloc (Nat.le_refl _) _⟩

section
variable (R : GroupsDone)
include R
end

end Go.Proofs.Ytmgmgmbpldboiaa
namespace Go.Proofs.Ytmgmgmbpldboiaa
open Go.RowKit

section
variable (R : GroupsDone)
include R
end

end Go.Proofs.Ytmgmgmbpldboiaa
namespace Go.Proofs.Ytmgmgmbpldboiaa
open Go.RowKit

section
variable (R : GroupsDone)
include R
end

end Go.Proofs.Ytmgmgmbpldboiaa
namespace Go.Proofs.Ytmgmgmbpldboiaa
open Go.RowKit

theorem all_slice {w : World} {a : List Nat × Nat × Nat} {e : Ending} {w' : World} (h : AllPost w a e w') : ∃ A c, e = .returned (.tuple #[.slice A a.1.length c, .int .i64 a.2.1, .int .i64 a.2.2]) ∧ a.1.length ≤ c ∧ IntsIn w' A a.1.length a.1 ∧ Below w.heap.size w w' := by
  obtain ⟨v, rfl, ho, hb⟩ := h
  obtain ⟨A, c, rfl, hc, _, _⟩ := own_slice ho
  exact ⟨A, c, rfl, hc, ints_of_own ho, hb⟩
theorem getF_short (T : List (List Nat)) (P bits : List Nat) (n0 : Nat) : ∀ (k i a : Nat) (o : List Nat), (getF T P bits n0 k i a o).1.length ≤ o.length + k
  | 0, _, _, _ => Nat.zero_le _
  | k + 1, i, a, o => by
    rw [getF_more]
    split
    · split
      · rw [List.length_append]
        show o.length + 1 ≤ _
        omega
      · refine Nat.le_trans (getF_short T P bits n0 k (i + 1) _ _) ?_
        rw [List.length_append]
        show o.length + 1 + k ≤ _
        omega
    · exact Nat.zero_le _
    · exact Nat.zero_le _
theorem getG_short (T : List (List Int)) (P : List Int) (bits : List Nat) (a : Int) : (getG T P bits a).1.length ≤ 1638350 := by
  unfold getG
  split
  · rename_i h
    split
    · exact Nat.zero_le _
    · have h1 := getF_short (T.map nl) (nl P) bits (T.getD 0 []).length (50 * P.length) 0 a.toNat []
      have h2 := h.2.2.2.1
      rw [List.length_nil, Nat.zero_add] at h1
      omega
  · exact Nat.zero_le _

theorem ints_all (w : World) (A B : Option Addr) (n c d : Nat) (L : List Nat) (h : IntsIn w A n L) (k : IntsIn w B n L) (hn : n ≤ 2000000) :
    Calls Try.prog 15 #[.slice A n c, .slice B n d] w fun e w' => e = .returned (.bool true) ∧ ∃ m, w' = w.drewN m :=
  zs_same w A B n c d _ (zin_of h) (zin_of k) hn

section
variable (R : GroupsDone)
include R
set_option maxHeartbeats 3200000 in
set_option maxRecDepth 100000 in
theorem gets_law (w : World) (v : Value) (T : List (List Int)) (P : List Int) (h : PlanIn w v T P) (hs : SmallP T P) (s : ByteArray) (a : Int) (hsz : s.size ≤ maxLen) (h1 : -9223372036854775808 ≤ a) (h2 : a ≤ 9223372036854775807) : Calls Try.prog 5 #[v, .string s, .int .i64 a] w fun e w' => e = .returned (.bool true) ∧ Below w.heap.size w w' := by
  unfold maxLen at hsz
  obtain ⟨A, n, c, B, m, d, rfl, hpl⟩ := h.parts
  clear h
  obtain ⟨w1, hw1⟩ : ∃ w1, w1 = w.alloc (.cells #[.slice A n c, .slice B m d] 32) := ⟨_, rfl⟩
  obtain ⟨hh1, hb1⟩ := held_new hpl
  rw [← hw1] at hh1 hb1
  obtain ⟨q0, q1⟩ := hh1.cells
  have HLI := Lib.hid (llight_any w1 _ T P hh1.2 hs)
  have HAW := Lib.hid (awake_any R)
  have HH1 := Lib.hid hh1
  have HB1 := Lib.hid hb1
  rw [hw1] at q0 q1
  clear hb1 hh1 hpl hs
  by_cases hl : IsLight T P
  · rw [decide_eq_true hl] at HLI
    have HLP := Lib.hid (light_of hl)
    clear hl
    by_cases hbig : 1000 < s.size
    · have d0 : decide ((1000 : Int) < (s.size : Int)) = true := decide_eq_true (by omega)
      clear R
      go_enter Try.func5, Try.ntmps5
      go_wp2_with fail
      rw [← hw1]
      clear hw1 q0 q1
      refine HLI.out.mono ?_
      rintro e w2 ⟨rfl, hb2⟩
      have HB2 := Lib.hid (HB1.out.trans (hb2.mono HB1.out.size))
      have HH2 := Lib.hid (HH1.out.below hb2)
      clear hb2 HLI
      go_wp2_with fail
      refine (HAW.out _).mono ?_
      rintro e w7 ⟨rfl, hb7⟩
      have HB7 := Lib.hid (HB2.out.trans (hb7.mono HB2.out.size))
      clear hb7
      go_wp2_with fail
      go_ret
      exact ⟨rfl, HB7.out⟩
    · have d0 : decide ((1000 : Int) < (s.size : Int)) = false := decide_eq_false (by omega)
      have HGE := Lib.hid fun (wx : World) (h : PlanIn wx (.agg #[.slice A n c, .slice B m d]) T P) => R.gets wx _ T P s a h HLP.out (by omega) h1 h2
      have HRG := Lib.hid fun (wx : World) (h : PlanIn wx (.agg #[.slice A n c, .slice B m d]) T P) (A' : Option Addr) (q e : Nat) (hb : IntsIn wx A' q (bitsB s.data.toList)) (hqe : q ≤ e) (hq : q ≤ 1000000) (he : e ≤ maxLen) => rgetg_any wx _ T P h A' q e (bitsB s.data.toList) a hb hqe hq he (bit01_bitsB _)
      have HOF := Lib.hid fun (wx : World) => of_any wx s (by omega)
      have hshort := getG_short T P (bitsB s.data.toList) a
      generalize getG T P (bitsB s.data.toList) a = ga at *
      obtain ⟨X, x, k⟩ := ga
      (try dsimp only at hshort)
      clear R
      go_enter Try.func5, Try.ntmps5
      go_wp2_with fail
      rw [← hw1]
      clear hw1 q0 q1
      refine HLI.out.mono ?_
      rintro e w2 ⟨rfl, hb2⟩
      have HB2 := Lib.hid (HB1.out.trans (hb2.mono HB1.out.size))
      have HH2 := Lib.hid (HH1.out.below hb2)
      clear hb2 HLI
      obtain ⟨q0, q1⟩ := HH2.out.cells
      have HG2 := Lib.hid (HGE.out w2 HH2.out.2)
      go_wp2_with fail
      clear q0 q1
      refine HG2.out.mono ?_
      intro e w3 h
      obtain ⟨A3, c3, rfl, hc3, hi3, hb3⟩ := all_slice h
      (try dsimp only at hc3 hi3 ⊢)
      obtain ⟨N, hN⟩ : ∃ N, N = X.length := ⟨_, rfl⟩
      rw [← hN] at hc3 hi3 hshort ⊢
      have HN := Lib.hid hN
      have hh3 := HH2.out.below hb3
      have HB3 := Lib.hid (HB2.out.trans (hb3.mono HB2.out.size))
      have HI3 := Lib.hid hi3
      obtain ⟨q0, q1⟩ := hh3.cells
      have hlt := blk_lt hh3.1
      have HPL3 := Lib.hid hh3.2.drew
      clear h hi3 hb3 hN hh3 HG2 HH2
      go_upto_region 4 with fail
      go_region_held3 (fun w' => w'.cell? ⟨w.heap.size, 0, none⟩ = some (.slice A n c) ∧ w'.cell? ⟨w.heap.size, 1, none⟩ = some (.slice B m d))
        (first | exact ⟨q0, q1⟩ | exact ⟨r0, r1⟩ | exact ⟨s0, s1⟩ | go_keep)
        (first
          | (go_at_call 14; refine (HOF.out _).mono ?_; rintro e w4 ⟨v4, rfl, ho4, hb4⟩
             have r0 : w4.cell? ⟨w.heap.size, 0, none⟩ = some (.slice A n c) := (hb4.cell (p := ⟨w.heap.size, 0, none⟩) hlt).trans q0
             have r1 : w4.cell? ⟨w.heap.size, 1, none⟩ = some (.slice B m d) := (hb4.cell (p := ⟨w.heap.size, 1, none⟩) hlt).trans q1
             obtain ⟨A4, c4, rfl, hc4, hm4, _⟩ := own_slice ho4)
          | (go_at_call 13; refine (HRG.out _ (HPL3.out.below hb4) A4 (8 * s.size) c4 (ints_of_own ho4) hc4 (by omega) hm4).mono ?_; intro e w5 h; obtain ⟨A5, c5, rfl, hc5, hi5, hb5⟩ := all_slice h
             have s0 : w5.cell? ⟨w.heap.size, 0, none⟩ = some (.slice A n c) := (hb5.cell (p := ⟨w.heap.size, 0, none⟩) (Nat.lt_of_lt_of_le hlt hb4.size)).trans r0
             have s1 : w5.cell? ⟨w.heap.size, 1, none⟩ = some (.slice B m d) := (hb5.cell (p := ⟨w.heap.size, 1, none⟩) (Nat.lt_of_lt_of_le hlt hb4.size)).trans r1))
      (try dsimp only at hi5 hc5 ⊢)
      rw [← HN.out] at hi5 hc5 ⊢
      have hb34 : Below w3.heap.size w3 w4 := ((Below.refl _ w3).drew).trans hb4
      have HB5 := Lib.hid (HB3.out.trans ((hb34.trans (hb5.mono hb34.size)).mono HB3.out.size))
      have HS := Lib.hid (ints_all w5 A3 A5 N c3 c5 X (ints_low (ints_low HI3.out hb34) hb5) hi5 (by omega))
      have dk : ((k : Int) == (k : Int)) = true := beq_self_eq_true _
      have dx : ((x : Int) == (x : Int)) = true := beq_self_eq_true _
      clear h hi5 hb5 hb4 hb34 ho4 q0 q1 r0 r1 s0 s1 hc5
      go_wp2_with fail
      refine HS.out.mono ?_
      rintro e w6 ⟨rfl, m6, rfl⟩
      have HB6 := Lib.hid (below_drewN HB5.out m6)
      generalize w5.drewN m6 = w6 at *
      go_wp2_with fail
      refine (HAW.out w6).mono ?_
      rintro e w7 ⟨rfl, hb7⟩
      have HB7 := Lib.hid (HB6.out.trans (hb7.mono HB6.out.size))
      clear hb7
      go_wp2_with fail
      go_ret
      exact ⟨rfl, HB7.out⟩
  · rw [decide_eq_false hl] at HLI
    clear hl R
    go_enter Try.func5, Try.ntmps5
    go_wp2_with fail
    rw [← hw1]
    clear hw1 q0 q1
    refine HLI.out.mono ?_
    rintro e w2 ⟨rfl, hb2⟩
    have HB2 := Lib.hid (HB1.out.trans (hb2.mono HB1.out.size))
    have HH2 := Lib.hid (HH1.out.below hb2)
    clear hb2 HLI
    go_wp2_with fail
    refine (HAW.out _).mono ?_
    rintro e w7 ⟨rfl, hb7⟩
    have HB7 := Lib.hid (HB2.out.trans (hb7.mono HB2.out.size))
    clear hb7
    go_wp2_with fail
    go_ret
    exact ⟨rfl, HB7.out⟩
end

end Go.Proofs.Ytmgmgmbpldboiaa
