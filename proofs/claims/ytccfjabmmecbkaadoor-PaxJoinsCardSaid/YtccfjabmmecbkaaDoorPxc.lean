/- Pax: the reference's Same, the law's light. Written ahead of stage 17. -/
import Derived.Test.YtccfjabmmecbkaaDoorPxb
import Derived.Deep.QuietTactic
import Derived.BigQuiet
namespace Go.Proofs.YtccfjabmmecbkaaDoor
open Go.RowKit

set_option maxRecDepth 100000 in
theorem guardP : Tryd.prog.eqGuardType Tryd.prog.depth 36 = false := by kernel_rfl
set_option maxRecDepth 100000 in
theorem heldP : Tryd.prog.stoodInHeld 36 = false := by kernel_rfl
set_option maxRecDepth 100000 in
theorem fieldsP : Tryd.prog.underlying 36 = some (.struct (Tryd.prog.fieldsOf 36)) := by simp [Program.fieldsOf, Tryd.underlying36]
set_option maxRecDepth 100000 in
theorem pair_neq (a b c e : ByteArray) (w : World) : (binOp .neq 36 (.agg #[.string a, .string b]) (.agg #[.string c, .string e])).run Tryd.prog w = .ok (.bool (!(a.toList == c.toList && b.toList == e.toList))) w := by
  rw [run_neq_struct, run_equalIn_agg w 9999 36 _ _ fieldsP heldP]
  simp [Program.fieldsOf, Tryd.underlying36, Op.eqFields, part, go_sem]
  by_cases h0 : a.toList = c.toList
  · by_cases h1 : b.toList = e.toList
    · simp [h0, h1]
    · simp [h0, h1]
  · simp [h0]
theorem take_same (L M : List PairB) (q : Nat) (hl : q < L.length) (hm : q < M.length) : (L.take (q + 1) = M.take (q + 1)) ↔ (L.take q = M.take q ∧ L.getD q noB = M.getD q noB) := by
  rw [List.take_succ_eq_append_getElem hl, List.take_succ_eq_append_getElem hm, List.getD_eq_getElem?_getD, List.getD_eq_getElem?_getD, List.getElem?_eq_getElem hl, List.getElem?_eq_getElem hm]
  constructor
  · intro h
    have := List.append_inj' h rfl
    exact ⟨this.1, (List.cons.inj this.2).1⟩
  · rintro ⟨h, g⟩
    rw [h]
    exact congrArg _ (congrArg (fun x => [x]) g)
theorem take_differ {L M : List PairB} (q : Nat) (h : L.getD q noB ≠ M.getD q noB) : L ≠ M := fun e => h (by rw [e])

set_option maxHeartbeats 3200000 in
set_option maxRecDepth 100000 in
theorem rsame_any (w : World) (A B : Option Addr) (n c m e : Nat) (L M : List PairB) (hI : PIn w A n L) (hJ : PIn w B m M) (hn : n ≤ maxLen) (hm : m ≤ maxLen) :
    Calls Tryd.prog 12 #[.slice A n c, .slice B m e] w fun e w' => e = .returned (.bool (decide (L = M))) ∧ Below w.heap.size w w' := by
  have HP : Hid (∀ (b : Bool) (w' : World), decide (L = M) = b → Below w.heap.size w w' → (fun e w' => e = Ending.returned (.bool (decide (L = M))) ∧ Below w.heap.size w w') (.returned (.bool b)) w') := Lib.hid fun b w' h g => ⟨by rw [h], g⟩
  generalize (fun e w' => e = Ending.returned (.bool (decide (L = M))) ∧ Below w.heap.size w w') = PO at *
  have HI := Lib.hid hI
  have HJ := Lib.hid hJ
  have hLn := hI.1
  have hMm := hJ.1
  unfold maxLen at hn hm
  have guardb := guardP
  by_cases hnm : n = m
  · subst hnm
    have d0 : ((n : Int) == (n : Int)) = true := beq_self_eq_true _
    have HLn := Lib.hid hLn
    have HMm := Lib.hid hMm
    clear hI hJ hLn hMm
    go_enter Tryd.func12, Tryd.ntmps12
    go_wp2_with fail
    go_loopw [5] (fun si wx => ∃ q : Nat, si = .int .i64 q ∧ q ≤ n ∧ Hid (L.take q = M.take q) ∧ Below w.heap.size w wx) (fun si _ => n - (intOf si).toNat)
    case atStart => exact ⟨0, rfl, Nat.zero_le _, Lib.hid rfl, Below.refl _ _⟩
    case round =>
      obtain ⟨q, rfl, hqn, HE, hbx⟩ := hrel
      have HBX := Lib.hid hbx
      by_cases e : q < n
      · have d2 : decide ((q : Int) < (n : Int)) = true := decide_eq_true (by omega)
        obtain ⟨b, off, hA, hc⟩ := (HI.out.below hbx).2 (by omega)
        obtain ⟨b2, off2, hB, hc2⟩ := (HJ.out.below hbx).2 (by omega)
        obtain ⟨c1, c2⟩ := hc q e
        obtain ⟨c3, c4⟩ := hc2 q e
        have hnx := take_same L M q (by rw [HLn.out]; exact e) (by rw [HMm.out]; exact e)
        have hdf := take_differ (L := L) (M := M) q
        generalize L.getD q noB = K at *
        generalize M.getD q noB = U at *
        obtain ⟨k1, k2⟩ := K
        obtain ⟨u1, u2⟩ := U
        subst hA hB
        clear hc hc2 hbx
        by_cases e1 : k1 = u1
        · have hs1 : (k1.toList == u1.toList) = true := (pbytes_same k1 u1).2 e1
          by_cases e2 : k2 = u2
          · have hs2 : (k2.toList == u2.toList) = true := (pbytes_same k2 u2).2 e2
            have HNXT := Lib.hid (hnx.2 ⟨HE.out, by rw [e1, e2]⟩)
            clear hnx hdf e1 e2
            go_wp2_with fail
            go_quiet (fail)
            go_wp2_with fail
            go_roundw
            case rel => exact ⟨q + 1, by go_num, by omega, HNXT, below_drewN HBX.out _⟩
            case measure => simp [intOf]; omega
          · have hs2 : (k2.toList == u2.toList) = false := by rw [bytes_eql, decide_eq_false e2]
            have HF := Lib.hid (fun nq => HP.out false (wr.drewN nq) (decide_eq_false (hdf fun h => e2 (Prod.mk.inj h).2)) (below_drewN HBX.out nq))
            clear hnx hdf e1 e2
            go_wp2_with fail
            go_quiet (fail)
            go_wp2_with fail
            exact HF.out _
        · have hs1 : (k1.toList == u1.toList) = false := by rw [bytes_eql, decide_eq_false e1]
          have HF := Lib.hid (fun nq => HP.out false (wr.drewN nq) (decide_eq_false (hdf fun h => e1 (Prod.mk.inj h).1)) (below_drewN HBX.out nq))
          clear hnx hdf e1
          go_wp2_with fail
          go_quiet (fail)
          go_wp2_with fail
          exact HF.out _
      · obtain rfl : q = n := by omega
        have d2 : decide ((q : Int) < (q : Int)) = false := decide_eq_false (by omega)
        have hv : L = M := by
          have h := HE.out
          rw [List.take_of_length_le (by rw [HLn.out]; exact Nat.le_refl _), List.take_of_length_le (by rw [HMm.out]; exact Nat.le_refl _)] at h
          exact h
        have HF := Lib.hid (HP.out true wr (decide_eq_true hv) hbx)
        clear hbx hv
        go_wp2_with fail
        exact HF.out
  · have d0 : ((n : Int) == (m : Int)) = false := beq_false_of_ne (by omega)
    have HF := Lib.hid (HP.out false w (decide_eq_false fun h => hnm (by rw [← hLn, ← hMm, h])) (Below.refl _ _))
    clear hI hJ hLn hMm
    go_enter Tryd.func12, Tryd.ntmps12
    go_wp2_with fail
    exact HF.out
/-- light, over the lengths. -/
def lightB : List PairB → Nat → Bool
  | [], _ => true
  | p :: l, n => if 20000 < n + (p.1.size + p.2.size + 10) then false else lightB l (n + (p.1.size + p.2.size + 10))
def toL (p : PairB) : PairL := (p.1.data.toList, p.2.data.toList)
theorem lightB_is : ∀ (l : List PairB) (n : Nat), lightB l n = lightS (l.map toL) n
  | [], _ => rfl
  | p :: l, n => by
    rw [lightB, List.map_cons, lightS, lightB_is l]
    rfl
set_option maxHeartbeats 3200000 in
set_option maxRecDepth 100000 in
/-- No key and value are together of 2^62 bytes. -/
theorem light_any (w : World) (A : Option Addr) (n c : Nat) (L : List PairB) (hI : PIn w A n L) (hn : n ≤ maxLen) (hS : ∀ p, p ∈ L → p.1.size ≤ 2 ^ 61 ∧ p.2.size ≤ 2 ^ 61) :
    Calls Tryd.prog 9 #[.slice A n c] w fun e w' => e = .returned (.bool (lightB L 0)) ∧ Below w.heap.size w w' := by
  have HP : Hid (∀ (b : Bool) (w' : World), lightB L 0 = b → Below w.heap.size w w' → (fun e w' => e = Ending.returned (.bool (lightB L 0)) ∧ Below w.heap.size w w') (.returned (.bool b)) w') := Lib.hid fun b w' h g => ⟨by rw [h], g⟩
  generalize (fun e w' => e = Ending.returned (.bool (lightB L 0)) ∧ Below w.heap.size w w') = PO at *
  have HI := Lib.hid hI
  have HS := Lib.hid hS
  have HLn := Lib.hid hI.1
  unfold maxLen at hn
  clear hI hS
  go_enter Tryd.func9, Tryd.ntmps9
  go_wp2_with fail
  go_loopw [3, 4] (fun sn si wx => ∃ m q : Nat, sn = .int .i64 m ∧ si = .int .i64 q ∧ q ≤ n ∧ m ≤ 20000 ∧ Hid (lightB L 0 = lightB (L.drop q) m) ∧ Below w.heap.size w wx) (fun _ si _ => n - (intOf si).toNat)
  case atStart => exact ⟨0, 0, rfl, rfl, Nat.zero_le _, Nat.zero_le _, Lib.hid rfl, Below.refl _ _⟩
  case round =>
    obtain ⟨m, q, rfl, rfl, hqn, hm, HE, hbx⟩ := hrel
    have HBX := Lib.hid hbx
    by_cases e : q < n
    · have d2 : decide ((q : Int) < (n : Int)) = true := decide_eq_true (by omega)
      obtain ⟨b, off, hA, hc⟩ := (HI.out.below hbx).2 (by omega)
      obtain ⟨c1, c2⟩ := hc q e
      have hql : q < L.length := by rw [HLn.out]; exact e
      have hdr : L.drop q = L.getD q noB :: L.drop (q + 1) := by
        rw [List.drop_eq_getElem_cons hql, List.getD_eq_getElem?_getD, List.getElem?_eq_getElem hql]
        rfl
      have hmem := HS.out (L.getD q noB) (by
        rw [List.getD_eq_getElem?_getD, List.getElem?_eq_getElem hql]
        exact List.getElem_mem hql)
      have hh := HE.out
      rw [hdr, lightB] at hh
      generalize L.getD q noB = K at *
      obtain ⟨k1, k2⟩ := K
      obtain ⟨z1, z2⟩ := hmem
      dsimp only at c1 c2 z1 z2 hh
      subst hA
      clear hc hbx hdr hql HE
      by_cases e1 : 20000 < m + (k1.size + k2.size + 10)
      · have d3 : decide ((20000 : Int) < (m : Int) + ((k1.size : Int) + (k2.size : Int) + 10)) = true := decide_eq_true (by omega)
        rw [if_pos e1] at hh
        have HF := Lib.hid (fun nq => HP.out false (wr.drewN nq) hh (below_drewN HBX.out nq))
        clear hh
        go_wp2_with fail
        go_quiet (fail)
        go_wp2_with fail
        exact HF.out _
      · have d3 : decide ((20000 : Int) < (m : Int) + ((k1.size : Int) + (k2.size : Int) + 10)) = false := decide_eq_false (by omega)
        rw [if_neg e1] at hh
        have HH := Lib.hid hh
        clear hh
        go_wp2_with fail
        go_quiet (fail)
        go_wp2_with fail
        go_roundw
        case rel => exact ⟨m + (k1.size + k2.size + 10), q + 1, by go_num, by go_num, by omega, by omega, HH, below_drewN HBX.out _⟩
        case measure => simp [intOf]; omega
    · obtain rfl : q = n := by omega
      have d2 : decide ((q : Int) < (q : Int)) = false := decide_eq_false (by omega)
      have hv := HE.out
      rw [List.drop_of_length_le (by rw [HLn.out]; exact Nat.le_refl _)] at hv
      have HF := Lib.hid (HP.out true wr hv hbx)
      clear hbx hv
      go_wp2_with fail
      exact HF.out
end Go.Proofs.YtccfjabmmecbkaaDoor
