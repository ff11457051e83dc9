/- Uy Oh: texts laid together, what is not used left out. -/
import Derived.Test.YtmgmgmbpldboiaaZ10
import Derived.Test.YtmgmgmbpldboiaaZ05
namespace Go.Proofs.Ytmgmgmbpldboiaa
open Go.RowKit

/-- Symbols from number i on. -/
def getF (T : List (List Nat)) (P bits : List Nat) (n0 : Nat) : Nat → Nat → Nat → List Nat → List Nat × Nat × Nat
  | 0, _, _, _ => ([], 0, 110)
  | k + 1, i, a, out => match nextL (T.getD (P.getD (i / 50) 0) []) (bits.drop a) with
    | .hit x => if x + 1 = n0 then (out ++ [x], a + (T.getD (P.getD (i / 50) 0) []).getD x 0, 0) else getF T P bits n0 k (i + 1) (a + (T.getD (P.getD (i / 50) 0) []).getD x 0) (out ++ [x])
    | .short => ([], 0, 10)
    | .code => ([], 0, 90)
theorem getF_more (T : List (List Nat)) (P bits : List Nat) (n0 k i a : Nat) (out : List Nat) : getF T P bits n0 (k + 1) i a out = match nextL (T.getD (P.getD (i / 50) 0) []) (bits.drop a) with
    | .hit x => if x + 1 = n0 then (out ++ [x], a + (T.getD (P.getD (i / 50) 0) []).getD x 0, 0) else getF T P bits n0 k (i + 1) (a + (T.getD (P.getD (i / 50) 0) []).getD x 0) (out ++ [x])
    | .short => ([], 0, 10)
    | .code => ([], 0, 90) := rfl
/-- What Get answers. -/
def getG (T : List (List Int)) (P : List Int) (bits : List Nat) (at' : Int) : List Nat × Nat × Nat :=
  if MayPlan T P then (if at' < 0 ∨ (bits.length : Int) < at' then ([], 0, 2) else getF (T.map nl) (nl P) bits (T.getD 0 []).length (50 * P.length) 0 at'.toNat []) else ([], 0, 110)

set_option maxHeartbeats 3200000 in
set_option maxRecDepth 100000 in
theorem rgetg_out (w : World) (v : Value) (T : List (List Int)) (P : List Int) (h : PlanIn w v T P) (A' : Option Addr) (m' c' : Nat) (bits : List Nat) (at' : Int) (hb : bits.length = m') (_hm' : m' ≤ 1000000) (hbad : ¬ (MayPlan T P ∧ 0 ≤ at' ∧ at' ≤ (m' : Int))) :
    Calls Try.prog 13 #[v, .slice A' m' c', .int .i64 at'] w (AllPost w (getG T P bits at')) := by
  obtain ⟨A, n, c, B, m, d, rfl, hpl⟩ : ∃ A n c B m d, v = .agg #[.slice A n c, .slice B m d] ∧ PlanIn w (.agg #[.slice A n c, .slice B m d]) T P := by
    obtain ⟨A, n, c, B, m, d, hv, hr1, hr2, hr3, hr4, hr5, hr6⟩ := id h
    exact ⟨A, n, c, B, m, d, hv, by rw [← hv]; exact h⟩
  clear h
  obtain ⟨w1, hw1⟩ : ∃ w1, w1 = w.alloc (.cells #[.slice A n c, .slice B m d] 32) := ⟨_, rfl⟩
  have hr1 : Blk w1 w.heap.size 32 #[.slice A n c, .slice B m d] := by rw [hw1]; exact blk_new w _ _
  have hb1 : Below w.heap.size w w1 := by rw [hw1]; exact (Below.refl _ _).alloc (Nat.le_refl _) _
  have q0 := (blk_cell hr1 0).trans rfl
  have q1 := (blk_cell hr1 1).trans rfl
  have HMAY := Lib.hid (rmay_any w1 _ T P (hpl.below hb1))
  have HB1 := Lib.hid hb1
  rw [hw1] at q0 q1
  by_cases hM : MayPlan T P
  · have HPE : Hid (∀ w', Below w.heap.size w w' → AllPost w (getG T P bits at') (.returned (.tuple #[.slice none 0 0, .int .i64 0, .int .i64 2])) w') := Lib.hid fun w' h => by
      rw [show getG T P bits at' = ([], 0, 2) by rw [getG, if_pos hM, if_pos (by rw [hb]; rcases Classical.em (at' < 0) with k | k; exact .inl k; exact .inr (by rcases Classical.em ((m' : Int) < at') with k2 | k2; exact k2; exact absurd ⟨hM, by omega, by omega⟩ hbad))]]
      exact ⟨_, rfl, World.ownsRow_nil _ _ _ _, h⟩
    generalize AllPost w (getG T P bits at') = PO at *
    rw [show decide (MayPlan T P) = true from decide_eq_true hM] at HMAY
    have hcase : at' < 0 ∨ (m' : Int) < at' := by
      rcases Classical.em (at' < 0) with k | k
      · exact .inl k
      · rcases Classical.em ((m' : Int) < at') with k2 | k2
        · exact .inr k2
        · exact absurd ⟨hM, by omega, by omega⟩ hbad
    clear hb1 hr1 hpl hM hbad hb
    by_cases h1 : at' < 0
    · have d0 : decide (at' < 0) = true := decide_eq_true h1
      clear hcase
      go_enter Try.func13, Try.ntmps13
      go_wp2_with fail
      rw [← hw1]
      clear hw1 q0 q1
      refine HMAY.out.mono ?_
      rintro e w2 ⟨rfl, hb2⟩
      have HPE2 := Lib.hid (HPE.out _ (HB1.out.trans (hb2.mono HB1.out.size)))
      clear hb2
      go_wp2_with fail
      first | exact HPE2.out | (go_ret3; exact HPE2.out)
    · have d0 : decide (at' < 0) = false := decide_eq_false h1
      have d1 : decide ((m' : Int) < at') = true := decide_eq_true (by omega)
      clear hcase
      go_enter Try.func13, Try.ntmps13
      go_wp2_with fail
      rw [← hw1]
      clear hw1 q0 q1
      refine HMAY.out.mono ?_
      rintro e w2 ⟨rfl, hb2⟩
      have HPE2 := Lib.hid (HPE.out _ (HB1.out.trans (hb2.mono HB1.out.size)))
      clear hb2
      go_wp2_with fail
      first | exact HPE2.out | (go_ret3; exact HPE2.out)
  · have HPE : Hid (∀ w', Below w.heap.size w w' → AllPost w (getG T P bits at') (.returned (.tuple #[.slice none 0 0, .int .i64 0, .int .i64 110])) w') := Lib.hid fun w' h => by
      rw [show getG T P bits at' = ([], 0, 110) from if_neg hM]
      exact ⟨_, rfl, World.ownsRow_nil _ _ _ _, h⟩
    generalize AllPost w (getG T P bits at') = PO at *
    rw [show decide (MayPlan T P) = false from decide_eq_false hM] at HMAY
    clear hb1 hr1 hpl hM hbad hb
    go_enter Try.func13, Try.ntmps13
    go_wp2_with fail
    rw [← hw1]
    clear hw1 q0 q1
    refine HMAY.out.mono ?_
    rintro e w2 ⟨rfl, hb2⟩
    have HPE2 := Lib.hid (HPE.out _ (HB1.out.trans (hb2.mono HB1.out.size)))
    clear hb2
    go_wp2_with fail
    first | exact HPE2.out | (go_ret3; exact HPE2.out)

end Go.Proofs.Ytmgmgmbpldboiaa
namespace Go.Proofs.Ytmgmgmbpldboiaa
open Go.RowKit

/-- c begins with b. -/
def Pre (b c : List Nat) : Prop := b.length ≤ c.length ∧ c.take b.length = b
theorem pre_begin {l : List Nat} {i : Nat} (hi : i < l.length) {b : List Nat} (hb : Bit01 b) (h : Fits l) : Pre b (codeB l i) ↔ Begin l b.length (val b) i := by
  have hlen := codeB_length l i
  have hc := bit01_codeB l i
  have hv : val (codeB l i) = codeN l i := by rw [codeB, val_bitsN, Nat.mod_eq_of_lt (code_lt h hi)]
  have key : b.length ≤ l.getD i 0 → val ((codeB l i).take b.length) = codeN l i / 2 ^ (l.getD i 0 - b.length) := by
    intro hle
    have := val_top (codeB l i) hc (k := b.length) (n := l.getD i 0) hle (by rw [hlen]; exact Nat.le_refl _)
    rw [List.take_of_length_le (by rw [hlen]; exact Nat.le_refl _), hv] at this
    exact this.symm
  constructor
  · rintro ⟨h1, h2⟩
    rw [hlen] at h1
    refine ⟨hi, h1, ?_⟩
    rw [← key h1, h2]
  · rintro ⟨_, h1, h2⟩
    refine ⟨by rw [hlen]; exact h1, ?_⟩
    have e1 := bitsN_val b hb
    have e2 := bitsN_val ((codeB l i).take b.length) (hc.take _)
    rw [List.length_take, hlen, Nat.min_eq_left h1, key h1, h2, e1] at e2
    exact e2.symm
theorem same_is {l : List Nat} {i : Nat} (hi : i < l.length) {b : List Nat} (hb : Bit01 b) (h : Fits l) : codeB l i = b ↔ Is l b.length (val b) i := by
  have hlen := codeB_length l i
  have hv : val (codeB l i) = codeN l i := by rw [codeB, val_bitsN, Nat.mod_eq_of_lt (code_lt h hi)]
  constructor
  · intro e
    refine ⟨hi, by rw [← e, hlen], by rw [← e, hv]⟩
  · rintro ⟨_, h1, h2⟩
    have e1 := bitsN_val b hb
    rw [← h1, ← h2] at e1
    exact e1

theorem pre_up {b c : List Nat} {q : Nat} (hq : q < b.length) (hle : b.length ≤ c.length) (h : c.take q = b.take q) (he : c.getD q 0 = b.getD q 0) : c.take (q + 1) = b.take (q + 1) := by
  rw [List.take_succ_eq_append_getElem hq, List.take_succ_eq_append_getElem (by omega : q < c.length), h]
  rw [List.getD_eq_getElem?_getD, List.getD_eq_getElem?_getD, List.getElem?_eq_getElem hq, List.getElem?_eq_getElem (by omega)] at he
  have he2 : c[q] = b[q] := he
  rw [he2]
theorem pre_not {b c : List Nat} {q : Nat} (hq : q < b.length) (he : c.getD q 0 ≠ b.getD q 0) : ¬ Pre b c := by
  rintro ⟨h1, h2⟩
  apply he
  rw [← h2, List.getD_eq_getElem?_getD, List.getD_eq_getElem?_getD, List.getElem?_take, if_pos hq]

def flagOf : Value → Nat
  | .bool true => 1
  | _ => 0
/-- What begins answers. -/
def BegPost (w : World) (n : Nat) (C : Nat → List Nat) (b : List Nat) (e : Ending) (w' : World) : Prop :=
  ∃ (k : Nat) (is : Int), e = .returned (.tuple #[.int .i64 k, .int .i64 is]) ∧ k ≤ n ∧ (k = 0 ↔ ∀ j, j < n → ¬ Pre b (C j)) ∧ ((is = -1 ∧ ∀ j, j < n → C j ≠ b) ∨ ∃ j : Nat, j < n ∧ is = j ∧ C j = b) ∧ ∃ m, w' = w.drewN m

theorem none_up {C : Nat → List Nat} {b : List Nat} {i k : Nat} (h : k = 0 ↔ ∀ j, j < i → ¬ Pre b (C j)) (hn : ¬ Pre b (C i)) : k = 0 ↔ ∀ j, j < i + 1 → ¬ Pre b (C j) := by
  rw [h]
  constructor
  · intro h2 j hj
    by_cases e : j = i
    · rw [e]; exact hn
    · exact h2 j (by omega)
  · intro h2 j hj
    exact h2 j (by omega)
theorem some_up {C : Nat → List Nat} {b : List Nat} {i k : Nat} (hn : Pre b (C i)) : k + 1 = 0 ↔ ∀ j, j < i + 1 → ¬ Pre b (C j) := by
  constructor
  · intro h; omega
  · intro h2
    exact absurd hn (h2 i (by omega))

set_option maxHeartbeats 3200000 in
set_option maxRecDepth 100000 in
theorem begins_any (w : World) (g n : Nat) (C : Nat → List Nat) (hT : TabR w g n C) (hn : n ≤ 258) (B : Option Addr) (m c : Nat) (b : List Nat) (hb : IntsIn w B m b) (hm : m ≤ 20) (h1 : 1 ≤ m) (hC : ∀ j, j < n → (C j).length ≤ 20) : Calls Try.prog 60 #[.slice (some ⟨g, 0, none⟩) n n, .slice B m c] w (BegPost w n C b) := by
  have HT := Lib.hid hT
  have hbl := hb.1
  have HBL := Lib.hid hbl
  obtain ⟨bb, ob, rfl, hbc⟩ := hb.2 (by omega)
  have HBC := Lib.hid hbc
  have HCL := Lib.hid hC
  clear hT hb hbl hbc hC
  go_enter Try.func60, Try.ntmps60
  go_wp2_with fail
  go_loopw [6, 7, 8] (fun cnt isv iv' wx => ∃ (i k : Nat) (is : Int), i ≤ n ∧ k ≤ i ∧ iv' = .int .i64 i ∧ cnt = .int .i64 k ∧ isv = .int .i64 is ∧ Hid (k = 0 ↔ ∀ j, j < i → ¬ Pre b (C j)) ∧ Hid ((is = -1 ∧ ∀ j, j < i → C j ≠ b) ∨ ∃ j : Nat, j < i ∧ is = j ∧ C j = b) ∧ ∃ d, wx = w.drewN d) (fun _ _ iv' _ => n - (intOf iv').toNat)
  case atStart => exact ⟨0, 0, -1, Nat.zero_le _, Nat.le_refl _, rfl, rfl, rfl, Lib.hid (by simp), Lib.hid (.inl ⟨rfl, by simp⟩), 0, rfl⟩
  case round =>
    obtain ⟨i, k, is, hi, hk, rfl, rfl, rfl, hcnt, his, hd⟩ := hrel
    have HD := Lib.hid hd
    by_cases e : i < n
    · have d0 : decide ((i : Int) < (n : Int)) = true := decide_eq_true (by omega)
      obtain ⟨A5, k5, hc5, hi5, hk5⟩ := HT.out i e
      have hcl := HCL.out i e
      obtain ⟨s5, hs5⟩ : ∃ s5, s5 = (C i).length := ⟨_, rfl⟩
      rw [← hs5] at hc5 hi5 hk5 hcl
      have HS5 := Lib.hid hs5
      have hc5w : ∀ d, (w.drewN d).cell? ⟨g, i, none⟩ = some (.slice A5 s5 k5) := fun d => hc5
      have hc5r : wr.cell? ⟨g, i, none⟩ = some (.slice A5 s5 k5) := by
        obtain ⟨d, rfl⟩ := hd
        exact hc5
      have HI5 := Lib.hid hi5
      have HC5 := Lib.hid hc5w
      clear hs5 hi5 hc5 hd hc5w
      by_cases el : m ≤ s5
      · have d1 : decide ((m : Int) ≤ (s5 : Int)) = true := decide_eq_true (by omega)
        go_wp2_with fail
        go_loopw [9, 10] (fun sv qv wx => ∃ (q : Nat) (s : Bool), q ≤ m ∧ qv = .int .i64 q ∧ sv = .bool s ∧ Hid (s = true → (C i).take q = b.take q) ∧ Hid (s = false → ¬ Pre b (C i)) ∧ ∃ d, wx = w.drewN d) (fun sv qv _ => flagOf sv * (m + 1 - (intOf qv).toNat))
        case atStart => exact ⟨0, true, Nat.zero_le _, rfl, rfl, Lib.hid (by simp), Lib.hid (by simp), HD.out⟩
        case round =>
          rename World => wi
          obtain ⟨q, s, hq, rfl, rfl, hs1, hs2, hd⟩ := hrel
          have HD2 := Lib.hid hd
          cases s with
          | true =>
            by_cases eq : q < m
            · have d2 : decide ((q : Int) < (m : Int)) = true := decide_eq_true (by omega)
              obtain ⟨b5, o5, rfl, hcells⟩ := HI5.out.2 (by omega)
              have x1 : wi.cell? ⟨b5, o5 + q, none⟩ = some (.int .i64 ((C i).getD q 0 : Nat)) := by
                obtain ⟨d, rfl⟩ := hd
                exact hcells q (by omega)
              have x2 : wi.cell? ⟨bb, ob + q, none⟩ = some (.int .i64 (b.getD q 0 : Nat)) := by
                obtain ⟨d, rfl⟩ := hd
                exact HBC.out q eq
              have x3 : wi.cell? ⟨g, i, none⟩ = some (.slice (some ⟨b5, o5, none⟩) s5 k5) := by
                obtain ⟨d, rfl⟩ := hd
                exact HC5.out d
              obtain ⟨x, hx⟩ : ∃ x, x = (C i).getD q 0 := ⟨_, rfl⟩
              obtain ⟨y, hy⟩ : ∃ y, y = b.getD q 0 := ⟨_, rfl⟩
              rw [← hx] at x1
              rw [← hy] at x2
              have HX := Lib.hid hx
              have HY := Lib.hid hy
              have hqs : q < s5 := by omega
              clear hd hcells hx hy hc5r
              by_cases exy : x = y
              · have d3 : ((x : Int) == (y : Int)) = true := by rw [exy]; exact beq_self_eq_true _
                have hnew : (C i).take (q + 1) = b.take (q + 1) := pre_up (by rw [HBL.out]; exact eq) (by rw [HBL.out, ← HS5.out]; exact el) (hs1.out rfl) (by rw [← HX.out, ← HY.out, exy])
                have HNEW := Lib.hid hnew
                clear hnew exy
                go_wp2_with fail
                go_quiet (fail)
                go_wp2_with fail
                go_roundw
                case rel =>
                  obtain ⟨d, hd⟩ := HD2.out
                  exact ⟨q + 1, true, by omega, by go_num, rfl, Lib.hid fun _ => HNEW.out, Lib.hid (by simp), d + nq, by rw [hd]; simp⟩
                case measure => simp [intOf, flagOf]; omega
              · have d3 : ((x : Int) == (y : Int)) = false := by
                  rw [beq_eq_false_iff_ne]
                  omega
                have hnew : ¬ Pre b (C i) := pre_not (q := q) (by rw [HBL.out]; exact eq) (by rw [← HX.out, ← HY.out]; exact exy)
                have HNEW := Lib.hid hnew
                clear hnew exy
                go_wp2_with fail
                go_quiet (fail)
                go_wp2_with fail
                go_roundw
                case rel =>
                  obtain ⟨d, hd⟩ := HD2.out
                  exact ⟨q + 1, false, by omega, by go_num, rfl, Lib.hid (by simp), Lib.hid fun _ => HNEW.out, d + nq, by rw [hd]; simp⟩
                case measure => simp [intOf, flagOf]; omega
            · obtain rfl : q = m := by omega
              have d2 : decide ((q : Int) < (q : Int)) = false := decide_eq_false (by omega)
              have hpre : Pre b (C i) := by
                have h := hs1.out rfl
                refine ⟨by rw [HBL.out, ← HS5.out]; exact el, ?_⟩
                rw [HBL.out, h, List.take_of_length_le (Nat.le_of_eq HBL.out)]
              have HPRE := Lib.hid hpre
              have hc5i : wi.cell? ⟨g, i, none⟩ = some (.slice A5 s5 k5) := by
                obtain ⟨d, rfl⟩ := hd
                exact HC5.out d
              clear hd hpre hs1 hs2 hc5r
              by_cases es : s5 = q
              · have d3 : ((s5 : Int) == (q : Int)) = true := by rw [es]; exact beq_self_eq_true _
                have heq : C i = b := by
                  have h := HPRE.out.2
                  rw [HBL.out, List.take_of_length_le (by rw [← HS5.out, es]; exact Nat.le_refl _)] at h
                  exact h
                have HEQ := Lib.hid heq
                clear heq es
                go_wp2_with fail
                go_roundw
                case rel => exact ⟨i + 1, k + 1, (i : Int), by omega, by omega, by go_num, by go_num, rfl, Lib.hid (some_up HPRE.out), Lib.hid (.inr ⟨i, by omega, rfl, HEQ.out⟩), HD2.out⟩
                case measure => simp [intOf]; omega
              · have d3 : ((s5 : Int) == (q : Int)) = false := by
                  rw [beq_eq_false_iff_ne]
                  omega
                have hne : C i ≠ b := by
                  intro h
                  apply es
                  rw [HS5.out, h, HBL.out]
                have HNE := Lib.hid hne
                clear hne es
                go_wp2_with fail
                go_roundw
                case rel =>
                  refine ⟨i + 1, k + 1, is, by omega, by omega, by go_num, by go_num, rfl, Lib.hid (some_up HPRE.out), Lib.hid ?_, HD2.out⟩
                  rcases his.out with ⟨h1, h2⟩ | ⟨j, h1, h2, h3⟩
                  · refine .inl ⟨h1, fun j hj => ?_⟩
                    by_cases ej : j = i
                    · rw [ej]; exact HNE.out
                    · exact h2 j (by omega)
                  · exact .inr ⟨j, by omega, h2, h3⟩
                case measure => simp [intOf]; omega
          | false =>
            have HNP := Lib.hid (hs2.out rfl)
            clear hd hs1 hs2 hc5r
            go_wp2_with fail
            go_roundw
            case rel =>
              refine ⟨i + 1, k, is, by omega, by omega, by go_num, rfl, rfl, Lib.hid (none_up hcnt.out HNP.out), Lib.hid ?_, HD2.out⟩
              rcases his.out with ⟨h1, h2⟩ | ⟨j, h1, h2, h3⟩
              · refine .inl ⟨h1, fun j hj => ?_⟩
                by_cases ej : j = i
                · rw [ej]
                  intro h
                  exact HNP.out ⟨by rw [h]; exact Nat.le_refl _, by rw [h, List.take_length]⟩
                · exact h2 j (by omega)
              · exact .inr ⟨j, by omega, h2, h3⟩
            case measure => simp [intOf]; omega
      · have d1 : decide ((m : Int) ≤ (s5 : Int)) = false := decide_eq_false (by omega)
        have hnp : ¬ Pre b (C i) := by
          rintro ⟨h, _⟩
          rw [HBL.out, ← HS5.out] at h
          exact el h
        have HNP := Lib.hid hnp
        clear hnp
        go_wp2_with fail
        go_loopw [9, 10] (fun sv qv wx => sv = .bool false ∧ wx = wr) (fun _ _ _ => 0)
        case atStart => exact ⟨rfl, rfl⟩
        case round =>
          obtain ⟨rfl, rfl⟩ := hrel
          go_wp2_with fail
          go_roundw
          case rel =>
            refine ⟨i + 1, k, is, by omega, by omega, by go_num, rfl, rfl, Lib.hid (none_up hcnt.out HNP.out), Lib.hid ?_, HD.out⟩
            rcases his.out with ⟨h1, h2⟩ | ⟨j, h1, h2, h3⟩
            · refine .inl ⟨h1, fun j hj => ?_⟩
              by_cases ej : j = i
              · rw [ej]
                intro h
                exact HNP.out ⟨by rw [h]; exact Nat.le_refl _, by rw [h, List.take_length]⟩
              · exact h2 j (by omega)
            · exact .inr ⟨j, by omega, h2, h3⟩
          case measure => simp [intOf]; omega
    · obtain rfl : i = n := by omega
      have d0 : decide ((i : Int) < (i : Int)) = false := decide_eq_false (by omega)
      clear hd
      go_wp2_with fail
      go_ret2
      exact ⟨k, is, rfl, hk, hcnt.out, his.out, HD.out⟩

end Go.Proofs.Ytmgmgmbpldboiaa
