/- The reference of lengths: May, least, greatest. Conditions: as each says. -/
import Derived.Test.YthpfmkknebnppaaHb
import Derived.Test.YthpfmkknebnppaaNb
import Derived.Deep.LoopGhost
namespace Go.Proofs.Ythpfmkknebnppaa
open Go.RowKit

/-- Weights may be. -/
def MayW (L : List Int) : Prop := 2 ≤ L.length ∧ L.length ≤ 258 ∧ ∀ x ∈ L, 0 ≤ x ∧ x ≤ 1073741824
instance (L : List Int) : Decidable (MayW L) := inferInstanceAs (Decidable (_ ∧ _))
theorem take_snoc_int (L : List Int) (q : Nat) (h : q < L.length) : L.take (q + 1) = L.take q ++ [L.getD q 0] := by
  rw [List.take_succ_eq_append_getElem h, List.getD_eq_getElem?_getD, List.getElem?_eq_getElem h]
  rfl
theorem getD_mem_int (L : List Int) (q : Nat) (h : q < L.length) : L.getD q 0 ∈ L := by
  rw [List.getD_eq_getElem?_getD, List.getElem?_eq_getElem h]
  exact List.getElem_mem h

set_option maxHeartbeats 1600000 in
set_option maxRecDepth 100000 in
theorem may_any (w : World) (A : Option Addr) (n c : Nat) (L : List Int) (hL : ZIn w A n L) (hn : n ≤ maxLen) : Calls Try.prog 27 #[.slice A n c] w fun e w' => e = .returned (.bool (decide (MayW L))) ∧ w' = w := by
  unfold maxLen at hn
  have hlm := hL.1
  have HL := Lib.hid hL
  have HLM := Lib.hid hlm
  have HNO : Hid (∀ x ∈ L, (x < 0 ∨ 1073741824 < x) → decide (MayW L) = false) := Lib.hid fun x hx h => decide_eq_false fun hm => by
    have := hm.2.2 x hx
    omega
  have HYES : Hid ((∀ x ∈ L, 0 ≤ x ∧ x ≤ 1073741824) → decide (MayW L) = (decide (2 ≤ n) && decide (n ≤ 258))) := Lib.hid fun h => by
    rw [← Bool.decide_and]
    refine decide_eq_decide.2 ⟨fun hm => ?_, fun hm => ?_⟩
    · have := hm.1
      have := hm.2.1
      omega
    · exact ⟨by omega, by omega, h⟩
  clear hL hlm
  generalize decide (MayW L) = ans at *
  go_enter Try.func27, Try.ntmps27
  go_wp2_with fail
  go_loopw [3] (fun i wx => ∃ q : Nat, q ≤ n ∧ i = .int .i64 q ∧ Hid (∀ x ∈ L.take q, 0 ≤ x ∧ x ≤ 1073741824) ∧ wx = w) (fun i _ => n - (intOf i).toNat)
  case atStart => exact ⟨0, Nat.zero_le _, rfl, by simp [Hid], rfl⟩
  case round =>
    obtain ⟨q, hq, rfl, hv, rfl⟩ := hrel
    by_cases e : q < n
    · have dq : decide ((q : Int) < (n : Int)) = true := decide_eq_true (by omega)
      obtain ⟨b, off, rfl, hc⟩ := HL.out.2 (by omega)
      have hcw := hc q e
      have htk := take_snoc_int L q (by rw [HLM.out]; exact e)
      have hmem := getD_mem_int L q (by rw [HLM.out]; exact e)
      obtain ⟨x, hx⟩ : ∃ x, x = L.getD q 0 := ⟨_, rfl⟩
      rw [← hx] at hcw htk hmem
      have HTK := Lib.hid htk
      have HM := Lib.hid hmem
      clear hc hx htk hmem
      by_cases e1 : x < 0
      · have d1 : decide (x < 0) = true := decide_eq_true e1
        have hans := HNO.out x HM.out (.inl e1)
        subst hans
        go_wp2_with fail
        go_ret
        exact ⟨rfl, rfl⟩
      · have d1 : decide (x < 0) = false := decide_eq_false e1
        by_cases e2 : 1073741824 < x
        · have d2 : decide (1073741824 < x) = true := decide_eq_true e2
          have hans := HNO.out x HM.out (.inr e2)
          subst hans
          go_wp2_with fail
          go_ret
          exact ⟨rfl, rfl⟩
        · have d2 : decide (1073741824 < x) = false := decide_eq_false e2
          have hv2 : ∀ y ∈ L.take (q + 1), 0 ≤ y ∧ y ≤ 1073741824 := by
            rw [HTK.out]
            intro y hy
            rcases List.mem_append.1 hy with hy | hy
            · exact hv.out y hy
            · rw [List.mem_singleton.1 hy]
              omega
          have HV2 := Lib.hid hv2
          clear hv2
          go_wp2_with fail
          go_roundw
          case rel => exact ⟨q + 1, by omega, by go_num, HV2, trivial⟩
          case measure => simp [intOf]; omega
    · obtain rfl : q = n := by omega
      have dq : decide ((q : Int) < (q : Int)) = false := decide_eq_false (by omega)
      have hv2 := hv.out
      rw [List.take_of_length_le (Nat.le_of_eq HLM.out)] at hv2
      have hans := HYES.out hv2
      have d1 : decide ((2 : Int) ≤ (q : Int)) = decide (2 ≤ q) := decide_eq_decide.2 (by omega)
      have d2 : decide ((q : Int) ≤ 258) = decide (q ≤ 258) := decide_eq_decide.2 (by omega)
      subst hans
      clear hv2 HNO HYES
      by_cases h1 : 2 ≤ q
      · have d3 : decide (2 ≤ q) = true := decide_eq_true h1
        go_wp2_with fail
        go_ret
        exact ⟨by simp [h1], rfl⟩
      · have d3 : decide (2 ≤ q) = false := decide_eq_false h1
        go_wp2_with fail
        go_ret
        exact ⟨by simp [h1], rfl⟩

/-- The first of those that are gone over. -/
def LeastTo (q : Nat) (ws ov : Nat → Nat) (at_ : Int) : Prop := (at_ = -1 ∧ ∀ j, j < q → ov j ≠ 0) ∨ ∃ a : Nat, at_ = a ∧ a < q ∧ ov a = 0 ∧ ∀ j, j < q → ov j = 0 → j ≠ a → ws a < ws j ∨ (ws a = ws j ∧ a < j)

set_option maxHeartbeats 3200000 in
set_option maxRecDepth 100000 in
theorem least_any (w : World) (A B : Option Addr) (k c d : Nat) (W O : List Nat) (hW : IntsIn w A k W) (hO : IntsIn w B k O) (hk : k ≤ 10000) (h0 : ∃ j, j < k ∧ O.getD j 0 = 0) :
    Calls Try.prog 40 #[.slice A k c, .slice B k d] w fun e w' => ∃ a : Nat, e = .returned (.int .i64 a) ∧ Least k (fun j => W.getD j 0) (fun j => O.getD j 0) a ∧ ∃ m, w' = w.drewN m := by
  have HW := Lib.hid hW
  have HO := Lib.hid hO
  have H0 := Lib.hid h0
  obtain ⟨ws, hws⟩ : ∃ ws : Nat → Nat, ws = fun j => W.getD j 0 := ⟨_, rfl⟩
  obtain ⟨ov, hov⟩ : ∃ ov : Nat → Nat, ov = fun j => O.getD j 0 := ⟨_, rfl⟩
  have HWS := Lib.hid hws
  have HOV := Lib.hid hov
  have hP : Hid (∀ (a : Nat) (m : Nat), Least k ws ov a → (fun e w' => ∃ a : Nat, e = Ending.returned (.int .i64 a) ∧ Least k (fun j => W.getD j 0) (fun j => O.getD j 0) a ∧ ∃ m, w' = w.drewN m) (.returned (.int .i64 a)) (w.drewN m)) := Lib.hid fun a m h => ⟨a, rfl, by rw [← hws, ← hov]; exact h, m, rfl⟩
  generalize (fun e w' => ∃ a : Nat, e = Ending.returned (.int .i64 a) ∧ Least k (fun j => W.getD j 0) (fun j => O.getD j 0) a ∧ ∃ m, w' = w.drewN m) = PO at *
  clear hW hO h0 hws hov
  go_enter Try.func40, Try.ntmps40
  go_wp2_with fail
  go_loopw [5, 6] (fun v i wx => ∃ (q : Nat) (at_ : Int), q ≤ k ∧ i = .int .i64 q ∧ v = .int .i64 at_ ∧ Hid (LeastTo q ws ov at_) ∧ ∃ m, wx = w.drewN m) (fun _ i _ => k - (intOf i).toNat)
  case atStart => exact ⟨0, -1, Nat.zero_le _, rfl, rfl, .inl ⟨rfl, fun j hj => by omega⟩, 0, rfl⟩
  case round =>
    obtain ⟨q, at_, hq, rfl, rfl, hl, hd⟩ := hrel
    have HD := Lib.hid hd
    by_cases e : q < k
    · have dq : decide ((q : Int) < (k : Int)) = true := decide_eq_true (by omega)
      obtain ⟨b1, o1, rfl, hc1⟩ := HW.out.2 (by omega)
      obtain ⟨b2, o2, rfl, hc2⟩ := HO.out.2 (by omega)
      have c1 : wr.cell? ⟨b1, o1 + q, none⟩ = some (.int .i64 (ws q : Nat)) := by rw [HWS.out]; obtain ⟨m, rfl⟩ := hd; exact hc1 q e
      have c2 : wr.cell? ⟨b2, o2 + q, none⟩ = some (.int .i64 (ov q : Nat)) := by rw [HOV.out]; obtain ⟨m, rfl⟩ := hd; exact hc2 q e
      obtain ⟨x, hx⟩ : ∃ x, x = ov q := ⟨_, rfl⟩
      obtain ⟨y, hy⟩ : ∃ y, y = ws q := ⟨_, rfl⟩
      rw [← hx] at c2
      rw [← hy] at c1
      have HX := Lib.hid hx
      have HY := Lib.hid hy
      have hc1' : ∀ a : Nat, a < k → wr.cell? ⟨b1, o1 + a, none⟩ = some (.int .i64 (ws a : Nat)) := by
        intro a ha
        rw [HWS.out]
        obtain ⟨m, rfl⟩ := hd
        exact hc1 a ha
      have HC1 := Lib.hid hc1'
      clear hx hy hc1 hc2 hd hc1'
      by_cases e1 : x = 0
      · subst e1
        rcases hl.out with ⟨rfl, hno⟩ | ⟨a, rfl, ha, hoa, hall⟩
        · have d1 : ((((0 : Nat) : Int)) == 0) = true := rfl
          have HL2 : Hid (LeastTo (q + 1) ws ov (q : Int)) := Lib.hid (.inr ⟨q, rfl, Nat.lt_succ_self q, HX.out.symm, fun j hj h0 hne => absurd h0 (hno j (by omega))⟩)
          clear hno hl
          go_wp2_with fail
          go_quiet (fail)
          go_wp2_with fail
          go_roundw
          case rel =>
            obtain ⟨m, hm⟩ := HD.out
            exact ⟨q + 1, q, by omega, by go_num, rfl, HL2, m + nq, by rw [hm]; simp⟩
          case measure => simp [intOf]; omega
        · have d1 : ((((0 : Nat) : Int)) == 0) = true := rfl
          have ca := HC1.out a (by omega)
          obtain ⟨z, hz⟩ : ∃ z, z = ws a := ⟨_, rfl⟩
          rw [← hz] at ca
          have HZ := Lib.hid hz
          have d2 : decide ((a : Int) < 0) = false := decide_eq_false (by omega)
          have hak : (a : Int) < (k : Int) := by omega
          clear hz
          by_cases e2 : y < z
          · have d3 : decide ((y : Int) < (z : Int)) = true := decide_eq_true (by omega)
            have HL2 : Hid (LeastTo (q + 1) ws ov (q : Int)) := Lib.hid (.inr ⟨q, rfl, Nat.lt_succ_self q, HX.out.symm, fun j hj h0 hne => by
              left
              rw [← HY.out]
              by_cases ej : j = a
              · rw [ej, ← HZ.out]
                exact e2
              · have := hall j (by omega) h0 ej
                rw [← HZ.out] at this
                omega⟩)
            clear hall hl
            go_wp2_with fail
            go_quiet (fail)
            go_wp2_with fail
            go_roundw
            case rel =>
              obtain ⟨m, hm⟩ := HD.out
              exact ⟨q + 1, q, by omega, by go_num, rfl, HL2, m + nq, by rw [hm]; simp⟩
            case measure => simp [intOf]; omega
          · have d3 : decide ((y : Int) < (z : Int)) = false := decide_eq_false (by omega)
            have HL2 : Hid (LeastTo (q + 1) ws ov (a : Int)) := Lib.hid (.inr ⟨a, rfl, by omega, hoa, fun j hj h0 hne => by
              by_cases ej : j = q
              · rw [ej, ← HY.out, ← HZ.out]
                omega
              · exact hall j (by omega) h0 hne⟩)
            clear hall hl
            go_wp2_with fail
            go_quiet (fail)
            go_wp2_with fail
            go_roundw
            case rel =>
              obtain ⟨m, hm⟩ := HD.out
              exact ⟨q + 1, a, by omega, by go_num, rfl, HL2, m + nq, by rw [hm]; simp⟩
            case measure => simp [intOf]; omega
      · have d1 : ((x : Int) == 0) = false := by
          rw [beq_eq_false_iff_ne]
          omega
        have HL2 : Hid (LeastTo (q + 1) ws ov at_) := Lib.hid (by
          rcases hl.out with ⟨rfl, hno⟩ | ⟨a, rfl, ha, hoa, hall⟩
          · exact .inl ⟨rfl, fun j hj => by
              by_cases ej : j = q
              · rw [ej, ← HX.out]
                exact e1
              · exact hno j (by omega)⟩
          · exact .inr ⟨a, rfl, by omega, hoa, fun j hj h0 hne => by
              by_cases ej : j = q
              · rw [ej, ← HX.out] at h0
                exact absurd h0 e1
              · exact hall j (by omega) h0 hne⟩)
        clear hl
        go_wp2_with fail
        go_quiet (fail)
        go_wp2_with fail
        go_roundw
        case rel =>
          obtain ⟨m, hm⟩ := HD.out
          exact ⟨q + 1, at_, by omega, by go_num, rfl, HL2, m + nq, by rw [hm]; simp⟩
        case measure => simp [intOf]; omega
    · obtain rfl : q = k := by omega
      have dq : decide ((q : Int) < (q : Int)) = false := decide_eq_false (by omega)
      rcases hl.out with ⟨rfl, hno⟩ | ⟨a, rfl, ha, hoa, hall⟩
      · exfalso
        obtain ⟨j, hj, hj0⟩ := H0.out
        exact hno j hj (by rw [HOV.out]; exact hj0)
      · have HLE : Hid (Least q ws ov a) := Lib.hid ⟨ha, hoa, hall⟩
        obtain ⟨m, rfl⟩ := hd
        clear hall hl
        go_wp2_with fail
        exact hP.out a m HLE.out

end Go.Proofs.Ythpfmkknebnppaa
