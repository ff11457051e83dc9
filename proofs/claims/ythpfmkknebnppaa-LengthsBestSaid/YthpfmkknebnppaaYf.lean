/- The reference's Cost. Conditions: none but the machine's own. -/
import Derived.Test.YthpfmkknebnppaaYe
namespace Go.Proofs.Ythpfmkknebnppaa
open Go.RowKit

/-- The cost of the first ones. -/
def costN (W L : List Int) (q : Nat) : Nat := ((List.range q).map fun i => (W.getD i 0).toNat * (L.getD i 0).toNat).sum
theorem cost_next (W L : List Int) (q : Nat) : costN W L (q + 1) = costN W L q + (W.getD q 0).toNat * (L.getD q 0).toNat := by
  unfold costN
  rw [List.range_succ, List.map_append, List.sum_append]
  simp
/-- What Cost tells. -/
def costAns (W L : List Int) : Nat × Nat := if MayW W ∧ L.length = W.length ∧ ∀ x ∈ L, 0 ≤ x ∧ x ≤ 20 then (costN W L L.length, 0) else (0, 2)

set_option maxHeartbeats 1600000 in
set_option maxRecDepth 100000 in
theorem cost_any (w : World) (A B : Option Addr) (n c m d : Nat) (W L : List Int) (hW : ZIn w A n W) (hn : n ≤ maxLen) (hL : ZIn w B m L) (hm : m ≤ maxLen) :
    Calls Try.prog 21 #[.slice A n c, .slice B m d] w fun e w' => e = .returned (.tuple #[.int .i64 (costAns W L).1, .int .i64 (costAns W L).2]) ∧ ∃ k, w' = w.drewN k := by
  have HM := Lib.hid (may_any w A n c W hW hn)
  have hwn := hW.1
  have hlm := hL.1
  unfold maxLen at hm hn
  by_cases h1 : MayW W
  · rw [show decide (MayW W) = true from decide_eq_true h1] at HM
    by_cases h2 : m = n
    · subst h2
      have hm258 : m ≤ 258 := by have := h1.2.1; omega
      have d1 : ((m : Int) != (m : Int)) = false := by simp
      have HNO : Hid (∀ x ∈ L, (x < 0 ∨ 20 < x) → costAns W L = (0, 2)) := Lib.hid fun x hx h => if_neg fun hc => by
        have := hc.2.2 x hx
        omega
      have HYES : Hid ((∀ x ∈ L, 0 ≤ x ∧ x ≤ 20) → costAns W L = (costN W L m, 0)) := Lib.hid fun h => by
        unfold costAns
        rw [if_pos ⟨h1, by omega, h⟩, hlm]
      have HWB : Hid (∀ q, q < m → 0 ≤ W.getD q 0 ∧ W.getD q 0 ≤ 1073741824) := Lib.hid fun q hq => h1.2.2 _ (getD_mem_int W q (by omega))
      have HW := Lib.hid hW
      have HL := Lib.hid hL
      have HLM := Lib.hid hlm
      clear hW hL hwn hlm h1
      generalize costAns W L = ans at *
      go_enter Try.func21, Try.ntmps21
      go_wp2_with fail
      refine HM.out.mono ?_
      rintro e w' ⟨rfl, rfl⟩
      clear HM
      go_wp2_with fail
      go_loopw [6, 7] (fun s i wx => ∃ (q z : Nat), q ≤ m ∧ i = .int .i64 q ∧ s = .int .i64 z ∧ Hid (z = costN W L q) ∧ z ≤ q * 21474836480 ∧ Hid (∀ x ∈ L.take q, 0 ≤ x ∧ x ≤ 20) ∧ ∃ k, wx = w'.drewN k) (fun _ i _ => m - (intOf i).toNat)
      case atStart => exact ⟨0, 0, Nat.zero_le _, rfl, rfl, rfl, Nat.zero_le _, by simp [Hid], 0, rfl⟩
      case round =>
        obtain ⟨q, z, hq, rfl, rfl, hz, hzb, hv, hd⟩ := hrel
        have HD := Lib.hid hd
        by_cases e : q < m
        · have dq : decide ((q : Int) < (m : Int)) = true := decide_eq_true (by omega)
          obtain ⟨b1, o1, rfl, hc1⟩ := HW.out.2 (by omega)
          obtain ⟨b2, o2, rfl, hc2⟩ := HL.out.2 (by omega)
          have cw : wr.cell? ⟨b1, o1 + q, none⟩ = some (.int .i64 (W.getD q 0)) := by obtain ⟨k, rfl⟩ := hd; exact hc1 q e
          have cl : wr.cell? ⟨b2, o2 + q, none⟩ = some (.int .i64 (L.getD q 0)) := by obtain ⟨k, rfl⟩ := hd; exact hc2 q e
          have htk := take_snoc_int L q (by rw [HLM.out]; exact e)
          have hmem := getD_mem_int L q (by rw [HLM.out]; exact e)
          have hwb := HWB.out q e
          have hcn := cost_next W L q
          obtain ⟨x, hx⟩ : ∃ x, x = L.getD q 0 := ⟨_, rfl⟩
          obtain ⟨u, hu⟩ : ∃ u, u = W.getD q 0 := ⟨_, rfl⟩
          rw [← hx] at cl htk hmem hcn
          rw [← hu] at cw hwb hcn
          have HTK := Lib.hid htk
          have HMM := Lib.hid hmem
          have HCN := Lib.hid hcn
          clear hc1 hc2 hx hu htk hmem hcn hd
          by_cases e1 : x < 0
          · have d2 : decide (x < 0) = true := decide_eq_true e1
            have hans := HNO.out x HMM.out (.inl e1)
            subst hans
            clear HYES HNO
            go_wp2_with fail
            go_ret2
            exact ⟨rfl, HD.out⟩
          · have d2 : decide (x < 0) = false := decide_eq_false e1
            by_cases e2 : 20 < x
            · have d3 : decide (20 < x) = true := decide_eq_true e2
              have hans := HNO.out x HMM.out (.inr e2)
              subst hans
              clear HYES HNO
              go_wp2_with fail
              go_ret2
              exact ⟨rfl, HD.out⟩
            · obtain ⟨y, rfl⟩ : ∃ y : Nat, x = y := ⟨x.toNat, by omega⟩
              obtain ⟨a, rfl⟩ : ∃ a : Nat, u = a := ⟨u.toNat, by omega⟩
              have d2' : decide ((y : Int) < 0) = false := d2
              have d3 : decide ((20 : Int) < (y : Int)) = false := decide_eq_false e2
              have hv2 : ∀ z ∈ L.take (q + 1), 0 ≤ z ∧ z ≤ 20 := by
                rw [HTK.out]
                intro z hz
                rcases List.mem_append.1 hz with hz | hz
                · exact hv.out z hz
                · rw [List.mem_singleton.1 hz]
                  omega
              have HV2 := Lib.hid hv2
              obtain ⟨p, hp⟩ : ∃ p : Nat, p = a * y := ⟨_, rfl⟩
              have hpz : (a : Int) * (y : Int) = (p : Int) := by rw [hp]; simp
              have hpb : p ≤ 21474836480 := by
                rw [hp]
                have : a * y ≤ 1073741824 * 20 := Nat.mul_le_mul (by omega) (by omega)
                omega
              obtain ⟨z2, hz2⟩ : ∃ z2 : Nat, z2 = z + p := ⟨_, rfl⟩
              have hzz : (z : Int) + (p : Int) = (z2 : Int) := by omega
              have HC2 : Hid (z2 = costN W L (q + 1)) := Lib.hid (by rw [HCN.out, Int.toNat_natCast, Int.toNat_natCast, ← hp, ← hz.out]; exact hz2)
              have hqb : q * 21474836480 ≤ 258 * 21474836480 := Nat.mul_le_mul_right _ (by omega)
              have hz2b : z2 ≤ (q + 1) * 21474836480 := by rw [Nat.add_mul]; omega
              have hz2c : z2 ≤ 5540507811840 + 21474836480 := by omega
              have w1 : IntKind.i64.wrap (p : Int) = (p : Int) := by rw [IntKind.wrap_i64]; omega
              have w2 : IntKind.i64.wrap (z2 : Int) = (z2 : Int) := by rw [IntKind.wrap_i64]; omega
              have hy0 : ¬ (y : Int) < 0 := e1
              clear hv2 hp hz2 hzb hqb HYES HNO e1
              go_upto_region 9 with fail
              go_quiet (fail)
              go_wp2_with fail
              go_roundw
              case rel =>
                obtain ⟨k, hk⟩ := HD.out
                exact ⟨q + 1, z2, by omega, by go_num, rfl, HC2, hz2b, HV2, k + nq, by rw [hk]; simp⟩
              case measure => simp [intOf]; omega
        · obtain rfl : q = m := by omega
          have dq : decide ((q : Int) < (q : Int)) = false := decide_eq_false (by omega)
          have hv2 := hv.out
          rw [List.take_of_length_le (Nat.le_of_eq HLM.out)] at hv2
          have hans := HYES.out hv2
          rw [← hz.out] at hans
          subst hans
          clear hv2 hv hd HYES HNO
          go_wp2_with fail
          go_ret2
          exact ⟨rfl, HD.out⟩
    · have hans : costAns W L = (0, 2) := if_neg fun h => h2 (by omega)
      rw [hans]
      have d1 : ((m : Int) != (n : Int)) = true := by simp; omega
      clear hW hL hwn hlm h1 hans
      go_enter Try.func21, Try.ntmps21
      go_wp2_with fail
      refine HM.out.mono ?_
      rintro e w' ⟨rfl, rfl⟩
      go_wp2_with fail
      go_ret2
      exact ⟨rfl, 0, rfl⟩
  · have hans : costAns W L = (0, 2) := if_neg fun h => h1 h.1
    rw [hans]
    rw [show decide (MayW W) = false from decide_eq_false h1] at HM
    clear hW hL hwn hlm h1 hans
    go_enter Try.func21, Try.ntmps21
    go_wp2_with fail
    refine HM.out.mono ?_
    rintro e w' ⟨rfl, rfl⟩
    go_wp2_with fail
    go_ret2
    exact ⟨rfl, 0, rfl⟩

end Go.Proofs.Ythpfmkknebnppaa
