/- lengths.Cost. Conditions: none but the machine's own. -/
import Derived.Test.YthpfmkknebnppaaAb
import Derived.Test.YthpfmkknebnppaaYf
namespace Go.Proofs.Ythpfmkknebnppaa
open Go.RowKit

set_option maxHeartbeats 1600000 in
set_option maxRecDepth 100000 in
theorem ccost_any (w : World) (A B : Option Addr) (n c m d : Nat) (W L : List Int) (hW : ZIn w A n W) (hn : n ≤ maxLen) (hL : ZIn w B m L) (hm : m ≤ maxLen) :
    Calls Try.prog 20 #[.slice A n c, .slice B m d] w fun e w' => e = .returned (.tuple #[.int .i64 (costAns W L).1, .int .i64 (costAns W L).2]) ∧ w' = w := by
  have HM := Lib.hid (mayBe_any w A n c W hW hn)
  have hwn := hW.1
  have hlm := hL.1
  by_cases h1 : MayW W
  · rw [show decide (MayW W) = true from decide_eq_true h1] at HM
    by_cases h2 : m = n
    · subst h2
      have hm2 : 2 ≤ m := by have := h1.1; omega
      have hm258 : m ≤ 258 := by have := h1.2.1; omega
      have d1 : ((m : Int) != (m : Int)) = false := by simp
      have HNO : Hid (∀ i, i < m → (L.getD i 0 < 0 ∨ 20 < L.getD i 0) → costAns W L = (0, 2)) := Lib.hid fun i hi h => if_neg fun hc => by
        have := hc.2.2 _ (getD_mem_int L i (by omega))
        omega
      have HYES : Hid ((∀ i, i < m → 0 ≤ L.getD i 0 ∧ L.getD i 0 ≤ 20) → costAns W L = (costN W L m, 0)) := Lib.hid fun h => by
        unfold costAns
        rw [if_pos ⟨h1, by omega, fun x hx => by
          obtain ⟨i, hi, rfl⟩ := List.getElem_of_mem hx
          have := h i (by omega)
          rwa [List.getD_eq_getElem?_getD, List.getElem?_eq_getElem hi] at this⟩, hlm]
      have HWB : Hid (∀ q, q < m → 0 ≤ W.getD q 0 ∧ W.getD q 0 ≤ 1073741824) := Lib.hid fun q hq => h1.2.2 _ (getD_mem_int W q (by omega))
      have HMI := Lib.hid (min_any w B m d L hL (by omega) hm)
      have HMA := Lib.hid (max_any w B m d L hL (by omega) hm)
      have HW := Lib.hid hW
      have HL := Lib.hid hL
      have HLM := Lib.hid hlm
      clear hW hL hwn hlm h1 hn hm
      generalize costAns W L = ans at *
      go_enter Try.func20, Try.ntmps20
      go_wp2_with fail
      refine HM.out.mono ?_
      rintro e w' ⟨rfl, rfl⟩
      clear HM
      go_wp2_with fail
      refine HMI.out.mono ?_
      rintro e w2 ⟨x, rfl, hx, rfl⟩
      have HM1 := Lib.hid hx
      clear hx
      by_cases h0 : x < 0
      · have d2 : decide (x < 0) = true := decide_eq_true h0
        obtain ⟨i, hi, him⟩ := HM1.out.2
        have hans := HNO.out i hi (.inl (by omega))
        subst hans
        clear him
        go_wp2_with fail
        go_ret2
        exact ⟨rfl, rfl⟩
      · have d2 : decide (x < 0) = false := decide_eq_false h0
        go_wp2_with fail
        refine HMA.out.mono ?_
        rintro e w3 ⟨y, rfl, hy, rfl⟩
        have HM2 := Lib.hid hy
        clear hy
        by_cases h3 : 20 < y
        · have d3 : decide (20 < y) = true := decide_eq_true h3
          obtain ⟨i, hi, hiM⟩ := HM2.out.2
          have hans := HNO.out i hi (.inr (by omega))
          subst hans
          clear hiM
          go_wp2_with fail
          go_ret2
          exact ⟨rfl, rfl⟩
        · have d3 : decide (20 < y) = false := decide_eq_false h3
          have hall : ∀ i, i < m → 0 ≤ L.getD i 0 ∧ L.getD i 0 ≤ 20 := fun i hi => by
            have h4 := HM1.out.1 i hi
            have h5 := HM2.out.1 i hi
            omega
          have HALL := Lib.hid hall
          have hans := HYES.out hall
          subst hans
          clear hall HNO HYES HM1 HM2 HMI HMA h0
          go_wp2_with fail
          clear h3 d3
          go_loopw [6, 7, 8, 31] (fun s s7 s8 i wx => ∃ (q z : Nat), q ≤ m ∧ i = .int .i64 q ∧ s = .int .i64 z ∧ Hid (z = costN W L q) ∧ z ≤ q * 21474836480 ∧ wx = w3) (fun _ _ _ i _ => m - (intOf i).toNat)
          case atStart => exact ⟨0, 0, Nat.zero_le _, rfl, rfl, rfl, Nat.zero_le _, rfl⟩
          case round =>
            obtain ⟨q, z, hq, rfl, rfl, hz, hzb, rfl⟩ := hrel
            by_cases e : q < m
            · have dq : decide ((q : Int) < (m : Int)) = true := decide_eq_true (by omega)
              have hqI : (0 : Int) ≤ (q : Int) := by omega
              obtain ⟨b1, o1, rfl, hc1⟩ := HW.out.2 (by omega)
              obtain ⟨b2, o2, rfl, hc2⟩ := HL.out.2 (by omega)
              have cw := hc1 q e
              have cl := hc2 q e
              have hwb := HWB.out q e
              have hlb := HALL.out q e
              have hcn := cost_next W L q
              obtain ⟨x, hx⟩ : ∃ x, x = L.getD q 0 := ⟨_, rfl⟩
              obtain ⟨u, hu⟩ : ∃ u, u = W.getD q 0 := ⟨_, rfl⟩
              rw [← hx] at cl hcn hlb
              rw [← hu] at cw hwb hcn
              obtain ⟨y, rfl⟩ : ∃ y : Nat, x = y := ⟨x.toNat, by omega⟩
              obtain ⟨a, rfl⟩ : ∃ a : Nat, u = a := ⟨u.toNat, by omega⟩
              obtain ⟨p, hp⟩ : ∃ p : Nat, p = a * y := ⟨_, rfl⟩
              have hpz : (a : Int) * (y : Int) = (p : Int) := by rw [hp]; simp
              have hpb : p ≤ 21474836480 := by
                rw [hp]
                have : a * y ≤ 1073741824 * 20 := Nat.mul_le_mul (by omega) (by omega)
                omega
              obtain ⟨z2, hz2⟩ : ∃ z2 : Nat, z2 = z + p := ⟨_, rfl⟩
              have hzz : (z : Int) + (p : Int) = (z2 : Int) := by omega
              have HC2 : Hid (z2 = costN W L (q + 1)) := Lib.hid (by rw [hcn, Int.toNat_natCast, Int.toNat_natCast, ← hp, ← hz.out]; exact hz2)
              have hqb : q * 21474836480 ≤ 258 * 21474836480 := Nat.mul_le_mul_right _ (by omega)
              have hz2b : z2 ≤ (q + 1) * 21474836480 := by rw [Nat.add_mul]; omega
              have hz2c : z2 ≤ 5540507811840 + 21474836480 := by omega
              have w1 : IntKind.i64.wrap (p : Int) = (p : Int) := by rw [IntKind.wrap_i64]; omega
              have w2 : IntKind.i64.wrap (z2 : Int) = (z2 : Int) := by rw [IntKind.wrap_i64]; omega
              have HB2 := Lib.hid hz2b
              clear hc1 hc2 hx hu hcn hp hz2 hzb hqb hz2b
              go_wp2_with fail
              go_roundw
              case rel => exact ⟨q + 1, z2, by omega, by go_num, by go_num, HC2, HB2.out, trivial⟩
              case measure => simp [intOf]; omega
            · obtain rfl : q = m := by omega
              have dq : decide ((q : Int) < (q : Int)) = false := decide_eq_false (by omega)
              have hz2 := hz.out
              subst hz2
              clear hz hzb HALL HL HW HWB
              go_wp2_with fail
              go_ret2
              exact ⟨rfl, rfl⟩
    · have hans : costAns W L = (0, 2) := if_neg fun h => h2 (by omega)
      rw [hans]
      have d1 : ((m : Int) != (n : Int)) = true := by simp; omega
      clear hW hL hwn hlm h1 hans hn hm
      go_enter Try.func20, Try.ntmps20
      go_wp2_with fail
      refine HM.out.mono ?_
      rintro e w' ⟨rfl, rfl⟩
      go_wp2_with fail
      go_ret2
      exact ⟨rfl, rfl⟩
  · have hans : costAns W L = (0, 2) := if_neg fun h => h1 h.1
    rw [hans]
    rw [show decide (MayW W) = false from decide_eq_false h1] at HM
    clear hW hL hwn hlm h1 hans hn hm
    go_enter Try.func20, Try.ntmps20
    go_wp2_with fail
    refine HM.out.mono ?_
    rintro e w' ⟨rfl, rfl⟩
    go_wp2_with fail
    go_ret2
    exact ⟨rfl, rfl⟩

end Go.Proofs.Ythpfmkknebnppaa
