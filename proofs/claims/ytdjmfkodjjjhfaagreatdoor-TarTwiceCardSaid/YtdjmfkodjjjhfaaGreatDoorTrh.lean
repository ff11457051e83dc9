/- Tar: files in memory: two cells each; a file behind a row of the call's own. By program out of XPxf, XPxl. Written ahead of stage 18. -/
import Derived.Test.YtdjmfkodjjjhfaaGreatDoorPxj
import Derived.Test.YtdjmfkodjjjhfaaGreatDoorTpd
import Derived.Test.YtdjmfkodjjjhfaaGreatDoorTre
import Derived.Lib.AppendZeros
import Derived.BigQuiet
import Derived.Deep.DeepCutAuto
import Derived.Deep.RegionHeld3
namespace Go.Proofs.YtdjmfkodjjjhfaaGreatDoor
open Go.RowKit

theorem pin_of_ownE {w : World} {B n c g : Nat} {L : List PairB} (h : w.ownsRow B 23 2 (.slice (some ⟨g, 0, none⟩) n c) n (cellsB L)) : PIn w (some ⟨g, 0, none⟩) n L := by
  have hl : L.length = n := by
    have := h.1
    rw [cellsB_length] at this
    omega
  refine ⟨hl, fun _ => ⟨g, 0, rfl, fun i hi => ?_⟩⟩
  obtain ⟨h1, h2⟩ := cellsB_get L i (by omega)
  rw [Nat.zero_add]
  exact ⟨by rw [World.ownsRow.cellAt h (i * 2) (by omega), h1], by rw [World.ownsRow.cellAt h (i * 2 + 1) (by omega), h2]⟩
set_option maxRecDepth 100000 in
theorem info_ent : ∃ i, Tryz.prog.info? 23 = some i ∧ i.zero = some (.agg #[.string ⟨#[]⟩, .string ⟨#[]⟩]) ∧ i.size = 2 ∧ i.bytes = 32 := by
  have h0 : (Tryz.prog.info? 23).map (·.zero) = some (some (.agg #[.string ⟨#[]⟩, .string ⟨#[]⟩])) := by kernel_rfl
  have h1 : (Tryz.prog.info? 23).map (·.size) = some 2 := by kernel_rfl
  have h2 : (Tryz.prog.info? 23).map (·.bytes) = some 32 := by kernel_rfl
  cases hq : Tryz.prog.info? 23 with
  | none => simp [hq] at h1
  | some i => exact ⟨i, rfl, by simpa [hq] using h0, by simpa [hq] using h1, by simpa [hq] using h2⟩
set_option maxRecDepth 100000 in
theorem append_ents (w : World) (B : Nat) (v : Value) (n : Nat) (xs : List Value) (hown : w.ownsRow B 23 2 v n xs) (A : Option Addr) (k c : Nat) (L : List PairB) (hi : PIn w A k L) (hnk : n + k ≤ 1000000) (hB : B ≤ w.heap.size) :
    ∃ v' w', (Builtin.append_ #[36, 36] 36 #[v, .slice A k c]).run Tryz.prog w = .ok v' w' ∧ w'.ownsRow B 23 2 v' (n + k) (xs ++ cellsB L) ∧ w.grownBy w' v.ownBlock := by
  obtain ⟨i3, h3, hz0, hz1, hz2⟩ := info_ent
  have hl := hi.1
  rcases A with _ | ad
  · have hk : k = 0 := by
      rcases Nat.eq_zero_or_pos k with h0 | h0
      · exact h0
      · obtain ⟨b, off, h, _⟩ := hi.2 h0
        cases h
    subst hk
    have hL : L = [] := List.eq_nil_of_length_eq_zero hl
    subst hL
    refine ⟨v, w, ?_, by simpa [cellsB] using hown, ⟨rfl, rfl, rfl, Nat.le_refl _, fun _ _ _ => rfl⟩⟩
    rcases hown.2 with ⟨rfl, rfl⟩ | ⟨g, cap, cur, rfl, _, _, hnc, _⟩
    · simp [Builtin.append_, run_underlying Tryz.underlying36, sizeOf, typeInfo, h3, Builtin.lenOf, Builtin.firstCells]
    · simp [Builtin.append_, run_underlying Tryz.underlying36, sizeOf, typeInfo, h3, Builtin.lenOf, Builtin.firstCells, hnc, storeCells]
  · have hnews : ∀ j u, (cellsB L)[j]? = some u → w.cell? (ad.add j) = some u := by
      intro j u hu
      have hj : j < L.length * 2 := by
        have := (List.getElem?_eq_some_iff.1 hu).1
        rw [cellsB_length] at this
        exact this
      obtain ⟨b, off, he, hc⟩ := hi.2 (by omega)
      injection he with he
      subst he
      rw [Addr.add_lit]
      obtain ⟨h1, h2⟩ := hc (j / 2) (by omega)
      obtain ⟨g1, g2⟩ := cellsB_get L (j / 2) (by omega)
      rcases (show j = j / 2 * 2 ∨ j = j / 2 * 2 + 1 by omega) with hj2 | hj2
      · rw [hj2] at hu ⊢
        rw [g1] at hu
        rw [h1, hu]
      · rw [hj2] at hu ⊢
        rw [g2] at hu
        rw [← Nat.add_assoc, h2, hu]
    obtain ⟨v', w', h1, h2, h4, _⟩ := run_append_own (P := Tryz.prog) w B 36 36 23 i3 (.agg #[.string ⟨#[]⟩, .string ⟨#[]⟩]) 2 32 Tryz.underlying36 h3 hz0 hz1 hz2 rfl (by decide) v n xs hown ad k c (cellsB L) (by rw [cellsB_length, hl]) hnews
      (cellsB_one L) (by unfold maxLen; omega) (by omega) hB
    exact ⟨v', w', h1, h2, h4⟩
set_option maxRecDepth 100000 in
theorem ent_one (w : World) (B n c : Nat) (A : Option Addr) (L : List PairB) (h : w.ownsRow B 23 2 (.slice A n c) n (cellsB L)) (K V : ByteArray) (hn : n ≤ 500000) (hB : B ≤ w.heap.size) :
    ∃ g2 c2 w2, (Builtin.append_ #[36, 36] 36 #[.slice A n c, .slice (some ⟨w.heap.size, 0, none⟩) 1 1]).run Tryz.prog (w.alloc (.cells #[.string K, .string V] 23)) = .ok (.slice (some ⟨g2, 0, none⟩) (n + 1) c2) w2 ∧
      w2.ownsRow B 23 2 (.slice (some ⟨g2, 0, none⟩) (n + 1) c2) (n + 1) (cellsB (L ++ [(K, V)])) ∧ Below B w w2 := by
  have hk := blk_new w 23 #[.string K, .string V]
  have hi : PIn (w.alloc (.cells #[.string K, .string V] 23)) (some ⟨w.heap.size, 0, none⟩) 1 [(K, V)] := ⟨rfl, fun _ => ⟨w.heap.size, 0, rfl, fun i hi => by
    obtain rfl : i = 0 := by omega
    exact ⟨blk_cell hk 0, blk_cell hk 1⟩⟩⟩
  obtain ⟨v2, w2, hr, ho, hg⟩ := append_ents (w.alloc (.cells #[.string K, .string V] 23)) B (.slice A n c) n (cellsB L) (h.alloc _) (some ⟨w.heap.size, 0, none⟩) 1 1 [(K, V)] hi (by omega) (by simp; omega)
  rw [← cellsB_append] at ho
  obtain ⟨A2, c2, rfl, hc, hm, hA⟩ := own_slice ho
  obtain ⟨g2, rfl⟩ := hA (by omega)
  exact ⟨g2, c2, w2, hr, ho, ((Below.refl B w).alloc hB _).grown hg (by simp; omega) fun k hk => (World.ownsRow.lt h k hk).1⟩
set_option maxRecDepth 100000 in
theorem pin_ownE {w : World} {B n c : Nat} {A : Option Addr} {L : List PairB} (h : w.ownsRow B 23 2 (.slice A n c) n (cellsB L)) : PIn w A n L := by
  obtain ⟨A0, c0, hv, hc, hm, hA⟩ := own_slice h
  injection hv with hv1 hv2 hv3
  subst hv1 hv3
  have hl := h.1
  rw [cellsB_length] at hl
  rcases Nat.eq_zero_or_pos n with h0 | h0
  · exact ⟨by omega, fun h => by omega⟩
  · obtain ⟨g, rfl⟩ := hA h0
    exact pin_of_ownE h
end Go.Proofs.YtdjmfkodjjjhfaaGreatDoor
/- Tar: the reference's Same, the law's light. By program out of XPxc. Written ahead of stage 18. -/
namespace Go.Proofs.YtdjmfkodjjjhfaaGreatDoor
open Go.RowKit

set_option maxRecDepth 100000 in
theorem guardE : Tryz.prog.eqGuardType Tryz.prog.depth 23 = false := by kernel_rfl
set_option maxRecDepth 100000 in
theorem heldE : Tryz.prog.stoodInHeld 23 = false := by kernel_rfl
set_option maxRecDepth 100000 in
theorem fieldsE : Tryz.prog.underlying 23 = some (.struct (Tryz.prog.fieldsOf 23)) := by simp [Program.fieldsOf, Tryz.underlying23]
set_option maxRecDepth 100000 in
theorem ent_neq (a b c e : ByteArray) (w : World) : (binOp .neq 23 (.agg #[.string a, .string b]) (.agg #[.string c, .string e])).run Tryz.prog w = .ok (.bool (!(a.toList == c.toList && b.toList == e.toList))) w := by
  rw [run_neq_struct, run_equalIn_agg w 9999 23 _ _ fieldsE heldE]
  simp [Program.fieldsOf, Tryz.underlying23, Op.eqFields, part, go_sem]
  by_cases h0 : a.toList = c.toList
  · by_cases h1 : b.toList = e.toList
    · simp [h0, h1]
    · simp [h0, h1]
  · simp [h0]
set_option maxHeartbeats 3400000 in
set_option maxRecDepth 100000 in
theorem rsameE_any (w : World) (A B : Option Addr) (n c m e : Nat) (L M : List PairB) (hI : PIn w A n L) (hJ : PIn w B m M) (hn : n ≤ maxLen) (hm : m ≤ maxLen) :
    Calls Tryz.prog 21 #[.slice A n c, .slice B m e] w fun e w' => e = .returned (.bool (decide (L = M))) ∧ Below w.heap.size w w' := by
  have HP : Hid (∀ (b : Bool) (w' : World), decide (L = M) = b → Below w.heap.size w w' → (fun e w' => e = Ending.returned (.bool (decide (L = M))) ∧ Below w.heap.size w w') (.returned (.bool b)) w') := Lib.hid fun b w' h g => ⟨by rw [h], g⟩
  generalize (fun e w' => e = Ending.returned (.bool (decide (L = M))) ∧ Below w.heap.size w w') = PO at *
  have HI := Lib.hid hI
  have HJ := Lib.hid hJ
  have hLn := hI.1
  have hMm := hJ.1
  unfold maxLen at hn hm
  have guardb := guardE
  by_cases hnm : n = m
  · subst hnm
    have d0 : ((n : Int) == (n : Int)) = true := beq_self_eq_true _
    have HLn := Lib.hid hLn
    have HMm := Lib.hid hMm
    clear hI hJ hLn hMm
    go_enter Tryz.func21, Tryz.ntmps21
    go_wp2_with fail
    go_loopw [5] (fun si wx => ∃ q : Nat, si = .int .i64 q ∧ q ≤ n ∧ Hid (L.take q = M.take q) ∧ Below w.heap.size w wx) (fun si _ => n - (intOf si).toNat)
    case atStart => exact ⟨0, rfl, Nat.zero_le _, Lib.hid rfl, Below.refl _ _⟩
    case round =>
      obtain ⟨q, rfl, hqn, HE, hbx⟩ := hrel
      have HBX := Lib.hid hbx
      by_cases e : q < n
      · have d2 : decide ((q : Int) < (n : Int)) = true := decide_eq_true (by omega)
        obtain ⟨b, off, hA, hc⟩ := (HI.out.below hbx).2 (by omega)
        obtain ⟨b2, off2, hB, hc2⟩ := (HJ.out.below hbx).2 (by omega)
        obtain ⟨c1, c2⟩ := hc q e
        obtain ⟨c3, c4⟩ := hc2 q e
        have hnx := take_same L M q (by rw [HLn.out]; exact e) (by rw [HMm.out]; exact e)
        have hdf := take_differ (L := L) (M := M) q
        generalize L.getD q noB = K at *
        generalize M.getD q noB = U at *
        obtain ⟨k1, k2⟩ := K
        obtain ⟨u1, u2⟩ := U
        subst hA hB
        clear hc hc2 hbx
        by_cases e1 : k1 = u1
        · have hs1 : (k1.toList == u1.toList) = true := (pbytes_same k1 u1).2 e1
          by_cases e2 : k2 = u2
          · have hs2 : (k2.toList == u2.toList) = true := (pbytes_same k2 u2).2 e2
            have HNXT := Lib.hid (hnx.2 ⟨HE.out, by rw [e1, e2]⟩)
            clear hnx hdf e1 e2
            go_wp2_with fail
            go_quiet (fail)
            go_wp2_with fail
            go_roundw
            case rel => exact ⟨q + 1, by go_num, by omega, HNXT, below_drewN HBX.out _⟩
            case measure => simp [intOf]; omega
          · have hs2 : (k2.toList == u2.toList) = false := by rw [bytes_eql, decide_eq_false e2]
            have HF := Lib.hid (fun nq => HP.out false (wr.drewN nq) (decide_eq_false (hdf fun h => e2 (Prod.mk.inj h).2)) (below_drewN HBX.out nq))
            clear hnx hdf e1 e2
            go_wp2_with fail
            go_quiet (fail)
            go_wp2_with fail
            exact HF.out _
        · have hs1 : (k1.toList == u1.toList) = false := by rw [bytes_eql, decide_eq_false e1]
          have HF := Lib.hid (fun nq => HP.out false (wr.drewN nq) (decide_eq_false (hdf fun h => e1 (Prod.mk.inj h).1)) (below_drewN HBX.out nq))
          clear hnx hdf e1
          go_wp2_with fail
          go_quiet (fail)
          go_wp2_with fail
          exact HF.out _
      · obtain rfl : q = n := by omega
        have d2 : decide ((q : Int) < (q : Int)) = false := decide_eq_false (by omega)
        have hv : L = M := by
          have h := HE.out
          rw [List.take_of_length_le (by rw [HLn.out]; exact Nat.le_refl _), List.take_of_length_le (by rw [HMm.out]; exact Nat.le_refl _)] at h
          exact h
        have HF := Lib.hid (HP.out true wr (decide_eq_true hv) hbx)
        clear hbx hv
        go_wp2_with fail
        exact HF.out
  · have d0 : ((n : Int) == (m : Int)) = false := beq_false_of_ne (by omega)
    have HF := Lib.hid (HP.out false w (decide_eq_false fun h => hnm (by rw [← hLn, ← hMm, h])) (Below.refl _ _))
    clear hI hJ hLn hMm
    go_enter Tryz.func21, Tryz.ntmps21
    go_wp2_with fail
    exact HF.out
/-- light, over the lengths. -/
def lightE : List PairB → Nat → Bool
  | [], _ => true
  | p :: l, n => if 40000 < n + (p.1.size + p.2.size + 1000) then false else lightE l (n + (p.1.size + p.2.size + 1000))
set_option maxHeartbeats 3400000 in
set_option maxRecDepth 100000 in
/-- No key and value are together of 2^62 bytes. -/
theorem lightE_any (w : World) (A : Option Addr) (n c : Nat) (L : List PairB) (hI : PIn w A n L) (hn : n ≤ maxLen) (hS : ∀ p, p ∈ L → p.1.size ≤ 2 ^ 61 ∧ p.2.size ≤ 2 ^ 61) :
    Calls Tryz.prog 16 #[.slice A n c] w fun e w' => e = .returned (.bool (lightE L 0)) ∧ Below w.heap.size w w' := by
  have HP : Hid (∀ (b : Bool) (w' : World), lightE L 0 = b → Below w.heap.size w w' → (fun e w' => e = Ending.returned (.bool (lightE L 0)) ∧ Below w.heap.size w w') (.returned (.bool b)) w') := Lib.hid fun b w' h g => ⟨by rw [h], g⟩
  generalize (fun e w' => e = Ending.returned (.bool (lightE L 0)) ∧ Below w.heap.size w w') = PO at *
  have HI := Lib.hid hI
  have HS := Lib.hid hS
  have HLn := Lib.hid hI.1
  unfold maxLen at hn
  clear hI hS
  go_enter Tryz.func16, Tryz.ntmps16
  go_wp2_with fail
  go_loopw [3, 4] (fun sn si wx => ∃ m q : Nat, sn = .int .i64 m ∧ si = .int .i64 q ∧ q ≤ n ∧ m ≤ 40000 ∧ Hid (lightE L 0 = lightE (L.drop q) m) ∧ Below w.heap.size w wx) (fun _ si _ => n - (intOf si).toNat)
  case atStart => exact ⟨0, 0, rfl, rfl, Nat.zero_le _, Nat.zero_le _, Lib.hid rfl, Below.refl _ _⟩
  case round =>
    obtain ⟨m, q, rfl, rfl, hqn, hm, HE, hbx⟩ := hrel
    have HBX := Lib.hid hbx
    by_cases e : q < n
    · have d2 : decide ((q : Int) < (n : Int)) = true := decide_eq_true (by omega)
      obtain ⟨b, off, hA, hc⟩ := (HI.out.below hbx).2 (by omega)
      obtain ⟨c1, c2⟩ := hc q e
      have hql : q < L.length := by rw [HLn.out]; exact e
      have hdr : L.drop q = L.getD q noB :: L.drop (q + 1) := by
        rw [List.drop_eq_getElem_cons hql, List.getD_eq_getElem?_getD, List.getElem?_eq_getElem hql]
        rfl
      have hmem := HS.out (L.getD q noB) (by
        rw [List.getD_eq_getElem?_getD, List.getElem?_eq_getElem hql]
        exact List.getElem_mem hql)
      have hh := HE.out
      rw [hdr, lightE] at hh
      generalize L.getD q noB = K at *
      obtain ⟨k1, k2⟩ := K
      obtain ⟨z1, z2⟩ := hmem
      dsimp only at c1 c2 z1 z2 hh
      subst hA
      clear hc hbx hdr hql HE
      by_cases e1 : 40000 < m + (k1.size + k2.size + 1000)
      · have d3 : decide ((40000 : Int) < (m : Int) + ((k1.size : Int) + (k2.size : Int) + 1000)) = true := decide_eq_true (by omega)
        rw [if_pos e1] at hh
        have HF := Lib.hid (fun nq => HP.out false (wr.drewN nq) hh (below_drewN HBX.out nq))
        clear hh
        go_wp2_with fail
        go_quiet (fail)
        go_wp2_with fail
        exact HF.out _
      · have d3 : decide ((40000 : Int) < (m : Int) + ((k1.size : Int) + (k2.size : Int) + 1000)) = false := decide_eq_false (by omega)
        rw [if_neg e1] at hh
        have HH := Lib.hid hh
        clear hh
        go_wp2_with fail
        go_quiet (fail)
        go_wp2_with fail
        go_roundw
        case rel => exact ⟨m + (k1.size + k2.size + 1000), q + 1, by go_num, by go_num, by omega, by omega, HH, below_drewN HBX.out _⟩
        case measure => simp [intOf]; omega
    · obtain rfl : q = n := by omega
      have d2 : decide ((q : Int) < (q : Int)) = false := decide_eq_false (by omega)
      have hv := HE.out
      rw [List.drop_of_length_le (by rw [HLn.out]; exact Nat.le_refl _)] at hv
      have HF := Lib.hid (HP.out true wr hv hbx)
      clear hbx hv
      go_wp2_with fail
      exact HF.out
theorem lightE_is : ∀ (l : List PairB) (n : Nat), lightE l n = lightT (l.map toL) n
  | [], _ => rfl
  | p :: l, n => by
    rw [lightE, List.map_cons, lightT, lightE_is l]
    rfl
end Go.Proofs.YtdjmfkodjjjhfaaGreatDoor
/- Tar: the reference's Pack of few, short files. Written ahead of stage 18. -/
namespace Go.Proofs.YtdjmfkodjjjhfaaGreatDoor
open Go.RowKit

theorem flatT_append (l : List FileL) : ∀ m, flatT (l ++ m) = flatT l ++ flatT m := by
  induction l with
  | nil => intro m; rfl
  | cons p l ih => intro m; rw [List.cons_append, flatT, flatT, ih, List.append_assoc]
theorem flatT_next (L : List PairB) (q : Nat) (hq : q < L.length) : flatT ((L.take (q + 1)).map toL) = flatT ((L.take q).map toL) ++ entT (toL (L.getD q noB)).1 (toL (L.getD q noB)).2 := by
  rw [List.take_succ_eq_append_getElem hq, List.map_append, flatT_append, List.getD_eq_getElem?_getD, List.getElem?_eq_getElem hq]
  congr 1
  exact List.append_nil _
theorem flatT_take_le (L : List PairB) (q : Nat) : (flatT ((L.take q).map toL)).length ≤ (flatT (L.map toL)).length := by
  have h := congrArg (fun l => (flatT (l.map toL)).length) (List.take_append_drop q L)
  rw [List.map_append, flatT_append, List.length_append] at h
  omega
theorem packE_append : ∀ (l m : List FileL), packE l = 0 → packE (l ++ m) = packE m
  | [], _, _ => rfl
  | x :: l, m, h => by
    rw [packE] at h
    rw [List.cons_append, packE]
    split at h
    · cases h
    · rename_i h1
      split at h
      · cases h
      · rename_i h2
        rw [if_neg h1, if_neg h2, packE_append l m h]
theorem drop_getD (L : List PairB) (q : Nat) (hq : q < L.length) : L.drop q = L.getD q noB :: L.drop (q + 1) := by
  rw [List.drop_eq_getElem_cons hq, List.getD_eq_getElem?_getD, List.getElem?_eq_getElem hq]
  rfl
theorem packE_split (L : List PairB) (q : Nat) (hq : q < L.length) (h : packE ((L.take q).map toL) = 0) :
    packE (L.map toL) = (if checkL (toL (L.getD q noB)).1 ≠ 0 then 140 else if 262144 < (toL (L.getD q noB)).2.length then 3 else packE ((L.drop (q + 1)).map toL)) ∧
    (checkL (toL (L.getD q noB)).1 = 0 → (toL (L.getD q noB)).2.length ≤ 262144 → packE ((L.take (q + 1)).map toL) = 0) := by
  constructor
  · conv => lhs; rw [← List.take_append_drop q L]
    rw [List.map_append, packE_append _ _ h, drop_getD L q hq, List.map_cons, packE]
  · intro h1 h2
    rw [List.take_succ_eq_append_getElem hq, List.map_append, packE_append _ _ h, show L[q] = L.getD q noB by rw [List.getD_eq_getElem?_getD, List.getElem?_eq_getElem hq]; rfl, List.map_singleton, packE, if_neg (fun e => e h1), if_neg (by omega)]
    rfl
set_option maxHeartbeats 6400000 in
set_option maxRecDepth 100000 in
theorem rpack_any (w : World) (A : Option Addr) (n c : Nat) (L : List PairB) (hI : PIn w A n L) (hli : lightT (L.map toL) 0 = true) :
    Calls Tryz.prog 18 #[.slice A n c] w fun e w' => e = .returned (.tuple #[.string (strF (packA (L.map toL)).1), .int .i64 (packA (L.map toL)).2]) ∧ Below w.heap.size w w' := by
  have HNO : Hid (∀ (k : Nat) (w' : World), k ≠ 0 → packE (L.map toL) = k → Below w.heap.size w w' → (fun e w' => e = Ending.returned (.tuple #[.string (strF (packA (L.map toL)).1), .int .i64 (packA (L.map toL)).2]) ∧ Below w.heap.size w w') (.returned (.tuple #[.string ⟨#[]⟩, .int .i64 k])) w') := Lib.hid fun k w' hk h hb => by
    have : packA (L.map toL) = ([], k) := by unfold packA; rw [h, if_pos hk]
    rw [this]
    exact ⟨rfl, hb⟩
  have HYES : Hid (∀ (X : ByteArray) (w' : World), packE (L.map toL) = 0 → X = strF (flatT (L.map toL) ++ List.replicate 1024 0) → Below w.heap.size w w' → (fun e w' => e = Ending.returned (.tuple #[.string (strF (packA (L.map toL)).1), .int .i64 (packA (L.map toL)).2]) ∧ Below w.heap.size w w') (.returned (.tuple #[.string X, .int .i64 0])) w') := Lib.hid fun X w' h hX hb => by
    have : packA (L.map toL) = (flatT (L.map toL) ++ List.replicate 1024 0, 0) := by unfold packA; rw [h, if_neg (fun e => e rfl)]
    rw [this, hX]
    exact ⟨rfl, hb⟩
  generalize (fun e w' => e = Ending.returned (.tuple #[.string (strF (packA (L.map toL)).1), .int .i64 (packA (L.map toL)).2]) ∧ Below w.heap.size w w') = PO at *
  have HI := Lib.hid hI
  have hlen := hI.1
  have HLEN := Lib.hid hlen
  obtain ⟨hl1, hl2⟩ := light_sum _ 0 hli (by omega)
  rw [List.length_map] at hl1
  have hn : n ≤ 40 := by omega
  have HSZ : Hid (∀ q, q < n → (L.getD q noB).1.size + (L.getD q noB).2.size ≤ 40000) := Lib.hid fun q hq => hl2 (toL (L.getD q noB)) (List.mem_map.2 ⟨_, mem_getD L q (by omega), rfl⟩)
  have HSP := Lib.hid fun q (hq : q < n) h => packE_split L q (by omega) h
  have HFB : Hid (packE (L.map toL) = 0 → (flatT (L.map toL)).length ≤ 200000) := Lib.hid fun h => by
    have := light_flatT _ 0 hli (by omega) ((packE_ok _).1 h)
    omega
  have HNX : Hid (∀ q, q < n → strF (flatT ((L.take q).map toL)) ++ strF (entT (L.getD q noB).1.data.toList (L.getD q noB).2.data.toList) = strF (flatT ((L.take (q + 1)).map toL))) := Lib.hid fun q hq => by
    rw [flatT_next L q (by omega), strF_app]
    rfl
  have HTL := Lib.hid (flatT_take_le L)
  have H0 : Hid (strF (flatT ((L.take 0).map toL)) = ⟨#[]⟩) := Lib.hid rfl
  have HLN : Hid (L.take n = L) := Lib.hid (by rw [← hlen, List.take_length])
  have HCK := Lib.hid fun (wx : World) (t : ByteArray) (h : t.size ≤ 4000000) => rcheck_any wx t h
  have HEN := Lib.hid fun (wx : World) (p d : ByteArray) (hp : p.size ≤ 4000000) (hd : d.size ≤ 140737488355328) => rentry_any wx p d hp hd
  clear hI hli hl1 hl2 hlen
  go_enter Tryz.func18, Tryz.ntmps18
  go_wp2_with fail
  go_loopw [4] (fun si wx => ∃ q : Nat, si = .int .i64 q ∧ q ≤ n ∧ Hid (packE ((L.take q).map toL) = 0) ∧ Below w.heap.size w wx) (fun si _ => n - (intOf si).toNat)
  case atStart => exact ⟨0, rfl, Nat.zero_le _, Lib.hid rfl, Below.refl _ _⟩
  case round =>
    obtain ⟨q, rfl, hqn, hJ, hbx⟩ := hrel
    rename World => w1
    have HBX := Lib.hid hbx
    by_cases e : q < n
    · have d2 : decide ((q : Int) < (n : Int)) = true := decide_eq_true (by omega)
      obtain ⟨b, off, hA, hc⟩ := (HI.out.below hbx).2 (by omega)
      obtain ⟨c1, c2⟩ := hc q e
      have hsz := HSZ.out q e
      obtain ⟨hs1, hs2⟩ := HSP.out q e hJ.out
      have h5 : (toL (L.getD q noB)).1 = (L.getD q noB).1.data.toList := rfl
      have h6 : (toL (L.getD q noB)).2.length = (L.getD q noB).2.size := rfl
      rw [h5, h6] at hs1 hs2
      generalize (L.getD q noB).1 = K at *
      generalize (L.getD q noB).2 = V at *
      have C1 := Lib.hid (HCK.out w1 K (by omega))
      obtain ⟨ck, hck⟩ : ∃ k, k = checkL K.data.toList := ⟨_, rfl⟩
      rw [← hck] at C1 hs1 hs2
      have HS1 := Lib.hid hs1
      have HS2 := Lib.hid hs2
      have hb12 := (HI.out.below hbx)
      have HIX := Lib.hid hb12
      have hvz : V.size ≤ 40000 := by omega
      have d4 : decide ((262144 : Int) < (V.size : Int)) = false := decide_eq_false (by omega)
      clear hbx hs1 hs2 h5 h6 hck hb12 hsz
      by_cases ec : ck = 0
      · have d3 : ((ck : Int) != 0) = false := by rw [ec]; rfl
        have HJ2 := Lib.hid (HS2.out ec (by omega))
        subst hA
        clear hc ec
        go_wp2_with fail
        refine C1.out.mono ?_
        rintro e w2 ⟨rfl, hb2⟩
        obtain ⟨b', off', hA', hc'⟩ := (HIX.out.below hb2).2 (by omega)
        have HB2 := Lib.hid (HBX.out.trans (hb2.mono HBX.out.size))
        have c4 : w2.cell? ⟨b, off + q * 2 + 1, none⟩ = some (.string V) := (hb2.cell (p := ⟨b, _, none⟩) (World.block_lt_of_cell? w1 _ c2)).trans c2
        clear hb2 hA' hc' c1 c2
        go_wp2_with fail
        go_roundw
        case rel => exact ⟨q + 1, by go_num, by omega, HJ2, HB2.out⟩
        case measure => simp [intOf]; omega
      · have d3 : ((ck : Int) != 0) = true := bne_iff_ne.2 (by omega)
        have HF := Lib.hid fun w' => HNO.out 140 w' (by omega) (HS1.out.trans (if_pos ec))
        subst hA
        clear hc ec
        go_wp2_with fail
        refine C1.out.mono ?_
        rintro e w2 ⟨rfl, hb2⟩
        have HG := Lib.hid (HF.out w2 (HBX.out.trans (hb2.mono HBX.out.size)))
        clear hb2
        go_wp2_with fail
        exact HG.out
    · obtain rfl : q = n := by omega
      have d2 : decide ((q : Int) < (q : Int)) = false := decide_eq_false (by omega)
      have HOK : Hid (packE (L.map toL) = 0) := Lib.hid (by rw [← HLN.out]; exact hJ.out)
      have HIX := Lib.hid (HI.out.below hbx)
      have HALL := Lib.hid ((packE_ok _).1 HOK.out)
      have HFB2 := Lib.hid (HFB.out HOK.out)
      clear hbx hJ
      go_wp2_with fail
      go_loopw [5, 6] (fun ss si wx => ∃ p : Nat, ss = .string (strF (flatT ((L.take p).map toL))) ∧ si = .int .i64 p ∧ p ≤ q ∧ Below w1.heap.size w1 wx) (fun _ si _ => q - (intOf si).toNat)
      case atStart => exact ⟨0, by rw [H0.out], rfl, Nat.zero_le _, Below.refl _ _⟩
      case round =>
        obtain ⟨p, rfl, rfl, hpn, hbx⟩ := hrel
        rename World => w3
        have HB3 := Lib.hid hbx
        have hz1 : (strF (flatT ((L.take p).map toL))).size ≤ 200000 := Nat.le_trans (HTL.out p) HFB2.out
        by_cases e : p < q
        · have d3 : decide ((p : Int) < (q : Int)) = true := decide_eq_true (by omega)
          obtain ⟨b, off, hA, hc⟩ := (HIX.out.below hbx).2 (by omega)
          obtain ⟨c1, c2⟩ := hc p e
          have hsz := HSZ.out p e
          have hnx := HNX.out p e
          have hz3 : (strF (flatT ((L.take (p + 1)).map toL))).size ≤ 200000 := Nat.le_trans (HTL.out (p + 1)) HFB2.out
          have hal := HALL.out (toL (L.getD p noB)) (List.mem_map.2 ⟨_, mem_getD L p (by have := HLEN.out; omega), rfl⟩)
          have hea : entryA (L.getD p noB).1.data.toList (L.getD p noB).2.data.toList = (entT (L.getD p noB).1.data.toList (L.getD p noB).2.data.toList, 0) := by
            unfold entryA
            rw [if_neg (fun h => h hal.1), if_neg (by have := hal.2; exact Nat.not_lt.2 this)]
          have C2 := Lib.hid (HEN.out w3 (L.getD p noB).1 (L.getD p noB).2 (by omega) (by omega))
          rw [hea] at C2
          have hz2 : (strF (entT (L.getD p noB).1.data.toList (L.getD p noB).2.data.toList)).size ≤ 200000 := by
            have h1 := congrArg ByteArray.size hnx
            rw [ByteArray.size_append] at h1
            omega
          generalize (L.getD p noB).1 = K at *
          generalize (L.getD p noB).2 = V at *
          dsimp only at C2
          generalize strF (entT K.data.toList V.data.toList) = EN at *
          generalize strF (flatT ((L.take p).map toL)) = G at *
          generalize hG2 : strF (flatT ((L.take (p + 1)).map toL)) = G2 at *
          have HG2 := Lib.hid hG2
          have HN := Lib.hid hnx
          have d4 : decide ((524288 : Int) < (G2.size : Int) + 1024) = false := decide_eq_false (by omega)
          subst hA
          clear hc hsz hnx hbx hG2 hal hea
          go_wp2_with fail
          refine C2.out.mono ?_
          rintro e w4 ⟨rfl, hb4⟩
          have HB4 := Lib.hid (HB3.out.trans (hb4.mono HB3.out.size))
          clear hb4
          go_upto_region 14 with fail
          rw [HN.out]
          clear hz1 hz2
          go_wp2_with fail
          go_roundw
          case rel => exact ⟨p + 1, by rw [HG2.out], by go_num, by omega, HB4.out⟩
          case measure => simp [intOf]; omega
        · obtain rfl : p = q := by omega
          have d3 : decide ((p : Int) < (p : Int)) = false := decide_eq_false (by omega)
          have hlp := HLN.out
          have hG : strF (flatT ((L.take p).map toL)) = strF (flatT (L.map toL)) := by rw [hlp]
          rw [hG] at hz1 ⊢
          have HCAT : Hid (strF (flatT (L.map toL)) ++ strF (List.replicate 1024 0) = strF (flatT (L.map toL) ++ List.replicate 1024 0)) := Lib.hid (strF_app _ _)
          have hmk : (Instr.makeSlice 80 (.int .i64 1024) (.int .i64 1024)).run Tryz.prog w3 = .ok (.slice (some ⟨w3.heap.size, 0, none⟩) 1024 1024) (w3.alloc (.cells (madeCells #[.int .u8 0] 1024) 5)) := made_run w3 1024 (by omega)
          have hcv := made_conv w3 1024
          have HF := Lib.hid fun w' => HYES.out (strF (flatT (L.map toL) ++ List.replicate 1024 0)) w' HOK.out rfl
          have HBW : Hid (Below w.heap.size w (w3.alloc (.cells (madeCells #[.int .u8 0] 1024) 5))) := Lib.hid ((HBX.out.trans (HB3.out.mono HBX.out.size)).alloc (HBX.out.trans (HB3.out.mono HBX.out.size)).size _)
          have hzz : (strF (List.replicate 1024 (0 : UInt8))).size ≤ 1024 := by show (List.replicate 1024 (0 : UInt8)).length ≤ _; rw [List.length_replicate]; omega
          generalize strF (List.replicate 1024 (0 : UInt8)) = Z at *
          generalize strF (flatT (L.map toL) ++ List.replicate 1024 0) = RES at *
          generalize strF (flatT (L.map toL)) = G at *
          clear hbx hlp hG
          go_wp2_with fail
          rw [HCAT.out]
          exact HF.out _ HBW.out
end Go.Proofs.YtdjmfkodjjjhfaaGreatDoor
/- Tar: the reference's Unpack. Written ahead of stage 18. -/
namespace Go.Proofs.YtdjmfkodjjjhfaaGreatDoor
open Go.RowKit

/-- Unpack's answer. -/
def UnpPost (w : World) (s : ByteArray) (e : Ending) (w' : World) : Prop :=
  ∃ A n c M k, e = .returned (.tuple #[.slice A n c, .int .i64 (k : Nat)]) ∧ unpackA s.data.toList = (M.map toL, k) ∧ n ≤ maxLen ∧ PIn w' A n M ∧ Below w.heap.size w w'
set_option maxRecDepth 100000 in
theorem behT_some {s : List UInt8} {n : Nat} {d more : List UInt8} (h : behindT s n = some (d, more)) : more.length + 512 ≤ s.length := by
  unfold behindT at h
  split at h
  · cases h
  · rename_i hn
    have h2 := congrArg (fun x => x.2.length) (Option.some.inj h)
    dsimp only at h2
    rw [List.length_drop] at h2
    have : upTo n ≤ 512 * (upTo n / 512) + 511 := by omega
    omega
set_option maxRecDepth 100000 in
theorem fileT_some {l : List PairL} {s p d more : List UInt8} (h : fileT l s = some (p, d, more)) : more.length + 512 ≤ s.length := by
  unfold fileT at h
  split at h
  · cases h
  · split at h
    · cases h
    · split at h
      · cases h
      · split at h
        · cases h
        · rename_i hb
          split at h
          · cases h
          · have h2 := congrArg (fun x => x.2.2) (Option.some.inj h)
            dsimp only at h2
            rw [← h2]
            exact behT_some hb
theorem readT_some {s p d more : List UInt8} (h : readT s = some (p, d, more)) : more.length + 512 ≤ s.length ∧ ∃ g, headT s = some g := by
  unfold readT at h
  split at h
  · cases h
  · rename_i g hg
    refine ⟨?_, g, hg⟩
    split at h
    · split at h
      · cases h
      · rename_i hb
        split at h
        · cases h
        · have h1 := fileT_some h
          have h2 := behT_some hb
          omega
    · exact fileT_some h
noncomputable def skE (b : Option (List UInt8 × List UInt8)) (g : Nat) : Option (List FileL) := match b with
  | none => none
  | some x => unpackT g x.2
set_option maxRecDepth 100000 in
theorem behT_suf {s : List UInt8} {n : Nat} {d more : List UInt8} (h : behindT s n = some (d, more)) : more <:+ s := by
  unfold behindT at h
  split at h
  · cases h
  · have h2 := congrArg (fun x => x.2) (Option.some.inj h)
    dsimp only at h2
    rw [← h2]
    exact List.drop_suffix _ _
set_option maxRecDepth 100000 in
theorem fileT_suf {l : List PairL} {s p d more : List UInt8} (h : fileT l s = some (p, d, more)) : more <:+ s := by
  unfold fileT at h
  split at h
  · cases h
  · split at h
    · cases h
    · split at h
      · cases h
      · split at h
        · cases h
        · rename_i hb
          split at h
          · cases h
          · have h2 := congrArg (fun x => x.2.2) (Option.some.inj h)
            dsimp only at h2
            rw [← h2]
            exact behT_suf hb
theorem readT_suf {s p d more : List UInt8} (h : readT s = some (p, d, more)) : more <:+ s := by
  unfold readT at h
  split at h
  · cases h
  · split at h
    · split at h
      · cases h
      · rename_i hb
        split at h
        · cases h
        · exact (fileT_suf h).trans (behT_suf hb)
    · exact fileT_suf h
set_option maxHeartbeats 6400000 in
set_option maxRecDepth 100000 in
theorem runpack_any (w : World) (s : ByteArray) (hs : s.size ≤ 90000 ∨ 524288 < s.size) : Calls Tryz.prog 20 #[.string s] w (UnpPost w s) := by
  by_cases hbig : 524288 < s.size
  · have d0 : decide ((524288 : Int) < (s.size : Int)) = true := decide_eq_true (by omega)
    have HF : Hid (UnpPost w s (.returned (.tuple #[.slice none 0 0, .int .i64 3])) w) := Lib.hid ⟨none, 0, 0, [], 3, rfl, by unfold unpackA; rw [if_pos (show 524288 < s.data.toList.length from hbig)]; rfl, Nat.zero_le _, ⟨rfl, fun h => by omega⟩, Below.refl _ _⟩
    generalize UnpPost w s = PO at *
    clear hbig hs
    go_enter Tryz.func20, Tryz.ntmps20
    go_wp2_with fail
    exact HF.out
  have hsz : s.size ≤ 90000 := hs.resolve_right hbig
  have d0 : decide ((524288 : Int) < (s.size : Int)) = false := decide_eq_false (by omega)
  have HUA : Hid (unpackA s.data.toList = match unpackT (s.data.toList.length + 1) s.data.toList with
    | none => ([], 180)
    | some l => (l, 0)) := Lib.hid (by unfold unpackA; rw [if_neg (show ¬ 524288 < s.data.toList.length from hbig)]; rfl)
  have HNO : Hid (∀ w' : World, Below w.heap.size w w' → unpackT (s.data.toList.length + 1) s.data.toList = none → UnpPost w s (.returned (.tuple #[.slice none 0 0, .int .i64 180])) w') := Lib.hid fun w' hb h => ⟨none, 0, 0, [], 180, rfl, by rw [HUA.out, h]; rfl, Nat.zero_le _, ⟨rfl, fun h => by omega⟩, hb⟩
  have HYES : Hid (∀ (A : Option Addr) (n c : Nat) (M : List PairB) (w' : World), n ≤ maxLen → PIn w' A n M → Below w.heap.size w w' → unpackT (s.data.toList.length + 1) s.data.toList = some (M.map toL) → UnpPost w s (.returned (.tuple #[.slice A n c, .int .i64 0])) w') := Lib.hid fun A n c M w' hn hI hb h => ⟨A, n, c, M, 0, rfl, by rw [HUA.out, h], hn, hI, hb⟩
  generalize UnpPost w s = PO at *
  have HZE := Lib.hid fun (wx : World) (t : ByteArray) (h : t.size ≤ 9223372036854775807) => rzero_any wx t h
  have HHD := Lib.hid fun (wx : World) (t : ByteArray) (h : t.size ≤ 140737488355328) => rhead_any wx t h
  have HBE := Lib.hid fun (wx : World) (t : ByteArray) (n : Nat) (h : t.size ≤ 140737488355328) (hn : n ≤ 9007199254740992) => rbehind_any wx t n h hn
  have HRE := Lib.hid fun (wx : World) (t : ByteArray) (h : t.size ≤ 100000) => rread_any wx t h
  have HNIL : Hid (w.ownsRow w.heap.size 23 2 (.slice none 0 0) 0 (cellsB [])) := Lib.hid ⟨rfl, .inl ⟨rfl, rfl⟩⟩
  obtain ⟨U, hU⟩ : ∃ U, U = unpackT (s.data.toList.length + 1) s.data.toList := ⟨_, rfl⟩
  have HU := Lib.hid hU
  rw [← hU] at HNO HYES
  have hlen : s.data.toList.length = s.size := rfl
  clear hbig hs HUA hU
  go_enter Tryz.func20, Tryz.ntmps20
  go_wp2_with fail
  go_loopw [0, 4] (fun sv so wx => ∃ (R : ByteArray) (L : List PairB) (A : Option Addr) (n c f : Nat), sv = .string R ∧ so = .slice A n c ∧ R.size ≤ 90000 ∧ n ≤ 90000 ∧ R.size < f ∧ Below w.heap.size w wx ∧
    Hid (wx.ownsRow w.heap.size 23 2 (.slice A n c) n (cellsB L) ∧ U = (unpackT f R.data.toList).map (fun m => L.map toL ++ m) ∧ n + R.size ≤ 90000)) (fun sv _ _ => sizeS sv)
  case atStart => exact ⟨s, [], none, 0, 0, s.data.toList.length + 1, rfl, rfl, hsz, Nat.zero_le _, by omega, Below.refl _ _, Lib.hid ⟨HNIL.out, by rw [HU.out]; cases unpackT (s.data.toList.length + 1) s.data.toList <;> rfl, by omega⟩⟩
  case round =>
    obtain ⟨R, L, A, n, c, f, rfl, rfl, hRz, hnz, hf, hbx, hJ⟩ := hrel
    rename World => w1
    have HBX := Lib.hid hbx
    obtain ⟨g, hfg⟩ : ∃ g, f = g + 1 := ⟨f - 1, by omega⟩
    have hll : R.data.toList.length = R.size := rfl
    have HUN : Hid (unpackT f R.data.toList = if R.data.toList.length < 512 then none else if zeroA (R.data.toList.take 512) = true then some [] else
      match headT R.data.toList with
      | none => none
      | some h => if h.kind = 53 ∨ h.kind = 103 then
          match behindT R.data.toList h.size.toNat with
          | none => none
          | some (_, more) => unpackT g more
        else match readT R.data.toList with
          | none => none
          | some (p, d, more) => (unpackT g more).map fun l => (p, d) :: l) := Lib.hid (by rw [hfg, unpackT]; rfl)
    have hgz : R.size < g + 1 := by omega
    have HU2 := Lib.hid hJ.out.2.1
    clear hbx hfg hf hsz
    by_cases e5 : R.size < 512
    · have d1 : decide ((512 : Int) ≤ (R.size : Int)) = false := decide_eq_false (by omega)
      have HF := Lib.hid (HNO.out w1 HBX.out (by rw [HU2.out, HUN.out, if_pos (by rw [hll]; exact e5)]; rfl))
      clear e5 hJ
      go_wp2_with fail
      exact HF.out
    have d1 : decide ((512 : Int) ≤ (R.size : Int)) = true := decide_eq_true (by omega)
    have hb5 : (512 : Int) ≤ (R.size : Int) := by omega
    have HUN1 := Lib.hid (HUN.out.trans (if_neg (by rw [hll]; exact e5)))
    obtain ⟨S, hS⟩ : ∃ S, S = R.extract 0 512 := ⟨_, rfl⟩
    have hSl : S.data.toList = R.data.toList.take 512 := by rw [hS, fext_list, List.drop_zero]
    have C1 := Lib.hid (HZE.out w1 S (by rw [hS, ByteArray.size_extract]; omega))
    rw [hSl] at C1
    have HS := Lib.hid hS.symm
    clear hS hSl hll HUN e5
    by_cases ez : zeroA (R.data.toList.take 512) = true
    · rw [ez] at C1
      have HF := Lib.hid (HYES.out A n c L w1 (by unfold maxLen; omega) (pin_ownE hJ.out.1) HBX.out (by rw [HU2.out, HUN1.out, if_pos ez]; exact congrArg some (List.append_nil _)))
      clear ez hJ
      go_wp2_with fail
      rw [HS.out]
      refine C1.out.mono ?_
      rintro e w1' ⟨rfl, rfl⟩
      go_wp2_with fail
      exact HF.out
    have ezf : zeroA (R.data.toList.take 512) = false := by
      cases h : zeroA (R.data.toList.take 512)
      · rfl
      · exact absurd h ez
    rw [ezf] at C1
    have HUN2 := Lib.hid (HUN1.out.trans (if_neg ez))
    have C2 := Lib.hid (fun wx : World => HHD.out wx R (by omega))
    obtain ⟨hx, hhx⟩ : ∃ x, x = headA2 R.data.toList := ⟨_, rfl⟩
    obtain ⟨X, ok⟩ := hx
    rw [← hhx] at C2
    dsimp only at C2
    have hv : headV X = .agg #[.string X.path, .int .i64 X.size, .int .u8 X.kind, .int .i64 X.mode, .int .i64 X.time, .string X.link, .string X.user, .string X.group, .int .i64 X.uid, .int .i64 X.gid] := rfl
    rw [hv] at C2
    have hT := headA2_T R.data.toList
    rw [← hhx] at hT
    dsimp only at hT
    have HT := Lib.hid hT
    have HHX := Lib.hid hhx
    clear ez ezf hhx hv hT HUN1
    go_wp2_with fail
    rw [HS.out]
    refine C1.out.mono ?_
    rintro e w2 ⟨rfl, rfl⟩
    go_wp2_with fail
    refine (C2.out _).mono ?_
    rintro e w3 ⟨rfl, hb3⟩
    have hb4 : Below w3.heap.size w3 (w3.alloc (.cells #[.string X.path, .int .i64 X.size, .int .u8 X.kind, .int .i64 X.mode, .int .i64 X.time, .string X.link, .string X.user, .string X.group, .int .i64 X.uid, .int .i64 X.gid] 65)) := (Below.refl _ _).alloc (Nat.le_refl _) _
    have HK4 := Lib.hid (blk_new w3 65 #[.string X.path, .int .i64 X.size, .int .u8 X.kind, .int .i64 X.mode, .int .i64 X.time, .string X.link, .string X.user, .string X.group, .int .i64 X.uid, .int .i64 X.gid])
    have hb24 := hb3.trans (hb4.mono hb3.size)
    have HO4 := Lib.hid ((step_of_below hb24).row hJ.out.1 (fun k _ => List.not_mem_nil) List.not_mem_nil)
    have HB4 := Lib.hid (HBX.out.trans (hb24.mono HBX.out.size))
    have HNR := Lib.hid hJ.out.2.2
    clear hb3 hb4 hb24 C1 C2 HS HBX hJ
    go_upto_region 8 with fail
    generalize w3.alloc (.cells #[.string X.path, .int .i64 X.size, .int .u8 X.kind, .int .i64 X.mode, .int .i64 X.time, .string X.link, .string X.user, .string X.group, .int .i64 X.uid, .int .i64 X.gid] 65) = w4 at *
    generalize w3.heap.size = a1 at *
    obtain ⟨sk, hsk⟩ : ∃ b : Bool, b = (ok && (decide (X.kind = 53) || decide (X.kind = 103))) := ⟨_, rfl⟩
    have x2 : w4.cell? ⟨a1, 2, none⟩ = some (.int .u8 X.kind) := blk_cell HK4.out 2
    have HSK := Lib.hid hsk
    clear hsk
    go_cut [38] (fun s38 wx => s38 = .bool sk ∧ wx = w4)
    case first =>
      cases ok
      · go_wp2_with fail
        go_meet
        case rel => exact ⟨by rw [HSK.out]; rfl, rfl⟩
      · by_cases e1 : X.kind = 53
        · have d53 : ((X.kind : Int) == 53) = true := by rw [e1]; rfl
          have HV : Hid (sk = true) := Lib.hid (by rw [HSK.out, decide_eq_true e1]; rfl)
          clear e1
          go_wp2_with fail
          go_meet
          case rel => exact ⟨by rw [HV.out], rfl⟩
        · have d53 : ((X.kind : Int) == 53) = false := beq_false_of_ne (by omega)
          by_cases e2 : X.kind = 103
          · have d103 : ((X.kind : Int) == 103) = true := by rw [e2]; rfl
            have HV : Hid (sk = true) := Lib.hid (by rw [HSK.out, decide_eq_true e2]; simp)
            clear e1 e2
            go_wp2_with fail
            go_meet
            case rel => exact ⟨by rw [HV.out], rfl⟩
          · have d103 : ((X.kind : Int) == 103) = false := beq_false_of_ne (by omega)
            have HV : Hid (sk = false) := Lib.hid (by rw [HSK.out, decide_eq_false e1, decide_eq_false e2]; rfl)
            clear e1 e2
            go_wp2_with fail
            go_meet
            case rel => exact ⟨by rw [HV.out], rfl⟩
    case rest =>
      obtain ⟨rfl, rfl⟩ := hcut
      rename World => w4
      cases sk
      · have C3 := Lib.hid (HRE.out w4 R (by omega))
        have HUN3 : Hid (unpackT f R.data.toList = match readT R.data.toList with
          | none => none
          | some (p, d, more) => (unpackT g more).map fun l => (p, d) :: l) := Lib.hid (by
          rw [HUN2.out]
          cases hh : headT R.data.toList with
          | none =>
            cases hr : readT R.data.toList with
            | none => rfl
            | some x =>
              obtain ⟨p, d, more⟩ := x
              obtain ⟨g2, hg2⟩ := (readT_some hr).2
              rw [hh] at hg2
              cases hg2
          | some h =>
            dsimp only
            refine (if_neg fun hk => ?_).trans rfl
            have h1 := HT.out
            rw [hh] at h1
            cases ok
            · cases h1
            · have h2 : h = X := Option.some.inj h1
              have h3 := HSK.out
              rw [h2] at hk
              rcases hk with hk | hk
              · rw [decide_eq_true hk] at h3; cases h3
              · rw [decide_eq_true hk] at h3; simp at h3)
        obtain ⟨ra, hra⟩ : ∃ x, x = readA R.data.toList := ⟨_, rfl⟩
        obtain ⟨⟨p, d⟩, n2, e2⟩ := ra
        rw [← hra] at C3
        dsimp only at C3
        have hrr : (readT R.data.toList = none ∧ e2 = 180) ∨ ∃ more, readT R.data.toList = some (p, d, more) ∧ n2 = R.data.toList.length - more.length ∧ e2 = 0 := by
          unfold readA at hra
          cases hr : readT R.data.toList with
          | none =>
            rw [hr] at hra
            exact .inl ⟨rfl, congrArg (fun x => x.2.2) hra⟩
          | some x =>
            obtain ⟨p', d', more⟩ := x
            rw [hr] at hra
            refine .inr ⟨more, ?_, congrArg (fun x => x.2.1) hra, congrArg (fun x => x.2.2) hra⟩
            have h1 : p = p' := congrArg (fun x => x.1.1) hra
            have h2 : d = d' := congrArg (fun x => x.1.2) hra
            rw [h1, h2]
        clear hra x2
        rcases hrr with ⟨hr, rfl⟩ | ⟨more, hr, hn2, rfl⟩
        · have HU3 : Hid (U = none) := Lib.hid (by rw [HU2.out, HUN3.out, hr]; rfl)
          clear hr
          go_wp2_with fail
          refine C3.out.mono ?_
          rintro e w5 ⟨rfl, hb5⟩
          have HF := Lib.hid (HNO.out _ ((HB4.out.trans (hb5.mono HB4.out.size)).alloc (HB4.out.trans (hb5.mono HB4.out.size)).size (.cells #[.string (strF p), .string (strF d)] 23)) HU3.out)
          clear hb5
          go_wp2_with fail
          exact HF.out
        · have hrs := (readT_some hr).1
          have hsu := List.suffix_iff_eq_drop.1 (readT_suf hr)
          rw [← hn2] at hsu
          have hrl : R.data.toList.length = R.size := rfl
          obtain ⟨R2, hR2⟩ : ∃ r, r = R.extract n2 R.size := ⟨_, rfl⟩
          have hR2l : R2.data.toList = more := by
            rw [hR2, fext_list, List.take_of_length_le (Nat.le_refl R.size)]
            exact hsu.symm
          have hR2z : R2.size + 512 ≤ R.size := by
            have : R2.size = more.length := by rw [← hR2l]; rfl
            omega
          have hn2z : (n2 : Int) ≤ (R.size : Int) := by omega
          have HR2 := Lib.hid hR2.symm
          have HR2Z := Lib.hid hR2z
          obtain ⟨K, hK⟩ : ∃ x, x = strF p := ⟨_, rfl⟩
          obtain ⟨V, hV⟩ : ∃ x, x = strF d := ⟨_, rfl⟩
          rw [← hK, ← hV] at C3
          have HU3 : Hid (U = (unpackT g R2.data.toList).map (fun m => (L ++ [(K, V)]).map toL ++ m)) := Lib.hid (by
            rw [HU2.out, HUN3.out, hr, hR2l, hK, hV]
            dsimp only
            rw [Option.map_map]
            congr 1
            funext m
            rw [List.map_append]
            show L.map toL ++ (p, d) :: m = L.map toL ++ [toL (strF p, strF d)] ++ m
            rw [List.append_assoc]
            rfl)
          clear hr hrs hsu hrl hR2 hR2l hR2z hK hV hn2
          go_wp2_with fail
          refine C3.out.mono ?_
          rintro e w5 ⟨rfl, hb5⟩
          have hb56 : Below w5.heap.size w5 (w5.alloc (.cells #[.string K, .string V] 23)) := (Below.refl _ _).alloc (Nat.le_refl _) _
          have hb46 := hb5.trans (hb56.mono hb5.size)
          have hk6 := blk_new w5 23 #[.string K, .string V]
          have hb06 := HB4.out.trans (hb46.mono HB4.out.size)
          have ho6 := (step_of_below hb46).row HO4.out (fun k _ => List.not_mem_nil) List.not_mem_nil
          go_upto_region 14 with fail
          generalize w5.alloc (.cells #[.string K, .string V] 23) = w6 at *
          generalize w5.heap.size = a2 at *
          obtain ⟨g2, c2, w7, hr7, ho7, hb7⟩ := ent_one w6 w.heap.size n c A L ho6 K V (by omega) hb06.size
          have HR7 := Lib.hid hr7
          have HO7 := Lib.hid ho7
          have HB7 := Lib.hid (hb06.trans hb7)
          have y0 : w6.cell? ⟨a2, 0, none⟩ = some (.string K) := blk_cell hk6 0
          have y1 : w6.cell? ⟨a2, 1, none⟩ = some (.string V) := blk_cell hk6 1
          obtain ⟨n1, hn1⟩ : ∃ n1, n1 = n + 1 := ⟨_, rfl⟩
          have HN1 : Hid (n1 + R2.size ≤ 90000) := Lib.hid (by have := HR2Z.out; have := HNR.out; omega)
          have hn1z : n1 ≤ 90000 := by have := HN1.out; omega
          rw [← hn1] at HR7 HO7
          clear hb5 hb56 hb46 hk6 hb06 ho6 hr7 ho7 hb7 hn1 HO4 HB4 HK4
          go_upto_region 16 with fail
          go_wp2_with (at_builtin; refine Lib.wpList_append_run _ rfl (.tmp 58) (.tmp 60) 36 36 rfl (.slice A n c) (.slice (some ⟨w6.heap.size, 0, none⟩) 1 1) rfl rfl (.slice (some ⟨g2, 0, none⟩) n1 c2) w7 HR7.out ?_)
          rw [HR2.out]
          go_roundw
          case rel => exact ⟨R2, L ++ [(K, V)], some ⟨g2, 0, none⟩, n1, c2, g, rfl, rfl, by have := HR2Z.out; omega, hn1z, by have := HR2Z.out; omega, HB7.out, Lib.hid ⟨HO7.out, HU3.out, HN1.out⟩⟩
          case measure => have h1 := HR2Z.out; simp [sizeS]; omega
      · obtain ⟨rfl, hkk⟩ : ok = true ∧ (X.kind = 53 ∨ X.kind = 103) := by
          have h3 := HSK.out
          cases ok
          · cases h3
          · refine ⟨rfl, ?_⟩
            by_cases e1 : X.kind = 53
            · exact .inl e1
            · by_cases e2 : X.kind = 103
              · exact .inr e2
              · rw [decide_eq_false e1, decide_eq_false e2] at h3
                cases h3
        obtain ⟨⟨N, hN, hNz⟩, _, _⟩ := headA2_facts HHX.out.symm
        have x1 : w4.cell? ⟨a1, 1, none⟩ = some (.int .i64 X.size) := blk_cell HK4.out 1
        rw [hN] at x1
        have C3 := Lib.hid (HBE.out w4 R N (by omega) hNz)
        have hb := behA_T R.data.toList N
        obtain ⟨bb, hbb⟩ : ∃ b, b = behA R.data.toList N := ⟨_, rfl⟩
        obtain ⟨dd, more, is⟩ := bb
        rw [← hbb] at C3 hb
        dsimp only at C3 hb
        have HUN3 : Hid (unpackT f R.data.toList = skE (if is = true then some (dd, more) else none) g) := Lib.hid (by
          rw [HUN2.out, HT.out, if_pos rfl]
          dsimp only
          rw [if_pos hkk, hN, Int.toNat_natCast, hb]
          cases is <;> rfl)
        cases is
        · have HU3 : Hid (U = none) := Lib.hid (by rw [HU2.out, HUN3.out]; rfl)
          have HB5 := HB4
          clear hN hNz hb hbb hkk x2
          go_wp2_with fail
          refine C3.out.mono ?_
          rintro e w5 ⟨rfl, hb5⟩
          have HF := Lib.hid (HNO.out w5 (HB4.out.trans (hb5.mono HB4.out.size)) HU3.out)
          clear hb5
          go_wp2_with fail
          exact HF.out
        · rw [if_pos rfl] at hb
          have hml := behT_some hb
          have hrl : R.data.toList.length = R.size := rfl
          have HU3 : Hid (U = (unpackT g more).map (fun m => L.map toL ++ m)) := Lib.hid (by rw [HU2.out, HUN3.out, if_pos rfl]; rfl)
          obtain ⟨R2, hR2⟩ : ∃ r, r = strF more := ⟨_, rfl⟩
          have hR2z : R2.size + 512 ≤ R.size := by rw [hR2]; show more.length + 512 ≤ _; omega
          have hR2l : R2.data.toList = more := by rw [hR2]; rfl
          rw [← hR2] at C3
          rw [← hR2l] at HU3
          have HR2Z := Lib.hid hR2z
          clear hN hNz hb hbb hkk x2 hml hrl hR2 hR2l hR2z
          go_wp2_with fail
          refine C3.out.mono ?_
          rintro e w5 ⟨rfl, hb5⟩
          have HB5 := Lib.hid (HB4.out.trans (hb5.mono HB4.out.size))
          have HO5 := Lib.hid ((step_of_below hb5).row HO4.out (fun k _ => List.not_mem_nil) List.not_mem_nil)
          clear hb5 x1
          go_wp2_with fail
          go_roundw
          case rel => exact ⟨R2, L, A, n, c, g, rfl, rfl, by have := HR2Z.out; omega, hnz, by have := HR2Z.out; omega, HB5.out, Lib.hid ⟨HO5.out, HU3.out, by have := HR2Z.out; have := HNR.out; omega⟩⟩
          case measure => have h1 := HR2Z.out; simp [sizeS]; omega
end Go.Proofs.YtdjmfkodjjjhfaaGreatDoor
/- Tar: the reference's Last. Written ahead of stage 18. -/
namespace Go.Proofs.YtdjmfkodjjjhfaaGreatDoor
open Go.RowKit

/-- What a round of Last gathers behind what it has. -/
def loopF (x : FileL) : List FileL → Bool → List FileL
  | [], done => if done = true then [] else [x]
  | y :: ys, done => (if cmpL x.1 y.1 ≤ 0 ∧ done = false then [x] else []) ++ ((if cmpL x.1 y.1 ≠ 0 then [y] else []) ++ loopF x ys (done || decide (cmpL x.1 y.1 ≤ 0)))
theorem loopF_done (x : FileL) : ∀ ys : List FileL, (∀ y, y ∈ ys → cmpL x.1 y.1 = -1) → loopF x ys true = ys
  | [], _ => rfl
  | y :: ys, h => by
    have h1 := h y List.mem_cons_self
    rw [loopF, if_neg (fun e => Bool.noConfusion e.2), if_pos (by omega), Bool.true_or, loopF_done x ys fun z hz => h z (List.mem_cons_of_mem _ hz)]
    rfl
set_option maxRecDepth 100000 in
theorem loopF_ins (x : FileL) : ∀ ys : List FileL, riseT ys → loopF x ys false = insT x ys
  | [], _ => rfl
  | y :: ys, h => by
    obtain ⟨hy, hr⟩ := List.pairwise_cons.1 h
    rw [loopF, insT]
    rcases cmp_three x.1 y.1 with h1 | h1 | h1
    · rw [if_pos ⟨by omega, rfl⟩, if_pos (by omega), if_pos h1, decide_eq_true (show cmpL x.1 y.1 ≤ 0 by omega), Bool.false_or, loopF_done x ys fun z hz => cmp_less h1 (hy z hz)]
      rfl
    · have e := cmp_zero.1 h1
      rw [if_pos ⟨by omega, rfl⟩, if_neg (by omega), if_neg (by omega), if_pos e, decide_eq_true (show cmpL x.1 y.1 ≤ 0 by omega), Bool.false_or, loopF_done x ys fun z hz => by rw [e]; exact hy z hz]
      rfl
    · rw [if_neg (fun e => by omega), if_pos (by omega), if_neg (by omega), if_neg (fun e => by
        rw [cmp_zero.2 e] at h1
        cases h1), decide_eq_false (show ¬ cmpL x.1 y.1 ≤ 0 by omega), Bool.false_or, loopF_ins x ys hr]
      rfl
theorem insT_len (x : FileL) : ∀ out : List FileL, (insT x out).length ≤ out.length + 1
  | [] => Nat.le_refl _
  | y :: out => by
    rw [insT]
    split
    · exact Nat.le_refl _
    · split
      · rw [List.length_cons, List.length_cons]
        omega
      · have := insT_len x out
        rw [List.length_cons, List.length_cons]
        omega
theorem lastsT_snoc (l : List FileL) (x : FileL) : lastsT (l ++ [x]) = insT x (lastsT l) := by
  unfold lastsT
  rw [List.foldl_append]
  rfl
theorem lasts_len_le (l : List FileL) : ∀ q, (lastsT (l.take q)).length ≤ q
  | 0 => Nat.le_refl _
  | q + 1 => by
    have ih := lasts_len_le l q
    by_cases h : q < l.length
    · rw [List.take_succ_eq_append_getElem h, lastsT_snoc]
      have := insT_len l[q] (lastsT (l.take q))
      omega
    · rw [List.take_of_length_le (by omega)] at ih ⊢
      omega
set_option maxRecDepth 100000 in
theorem foldl_mem (z : FileL) : ∀ (l out : List FileL), z ∈ l.foldl (fun out x => insT x out) out → z ∈ l ∨ z ∈ out
  | [], out, h => .inr h
  | x :: l, out, h => by
    rw [List.foldl_cons] at h
    rcases foldl_mem z l (insT x out) h with h | h
    · exact .inl (List.mem_cons_of_mem _ h)
    · rcases insT_mem x out z h with h | h
      · exact .inl (by rw [h]; exact List.mem_cons_self)
      · exact .inr h
theorem lasts_mem {l : List FileL} {z : FileL} (h : z ∈ lastsT l) : z ∈ l := (foldl_mem z l [] h).resolve_right List.not_mem_nil
theorem drop_map_cons (M : List PairB) (k : Nat) (hk : k < M.length) : (M.drop k).map toL = toL (M.getD k noB) :: (M.drop (k + 1)).map toL := by
  rw [drop_getD M k hk, List.map_cons]
set_option maxHeartbeats 12800000 in
set_option maxRecDepth 100000 in
theorem rlast18_any (w : World) (A : Option Addr) (n c : Nat) (L : List PairB) (hI : PIn w A n L) (hn : n ≤ 1000) (hz : ∀ p, p ∈ L → p.1.size ≤ 4000000) :
    Calls Tryz.prog 23 #[.slice A n c] w fun e w' => ∃ A' n' c' M, e = .returned (.slice A' n' c') ∧ M.map toL = lastsT (L.map toL) ∧ PIn w' A' n' M ∧ n' ≤ maxLen ∧ Below w.heap.size w w' := by
  have HP : Hid (∀ (A' : Option Addr) (n' c' : Nat) (M : List PairB) (w' : World), M.map toL = lastsT (L.map toL) → PIn w' A' n' M → n' ≤ maxLen → Below w.heap.size w w' → (fun e w' => ∃ A' n' c' M, e = Ending.returned (.slice A' n' c') ∧ M.map toL = lastsT (L.map toL) ∧ PIn w' A' n' M ∧ n' ≤ maxLen ∧ Below w.heap.size w w') (.returned (.slice A' n' c')) w') := Lib.hid fun A' n' c' M w' h1 h2 h3 h4 => ⟨A', n', c', M, rfl, h1, h2, h3, h4⟩
  generalize (fun e w' => ∃ A' n' c' M, e = Ending.returned (.slice A' n' c') ∧ M.map toL = lastsT (L.map toL) ∧ PIn w' A' n' M ∧ n' ≤ maxLen ∧ Below w.heap.size w w') = PO at *
  have HI := Lib.hid hI
  have hlen := hI.1
  have HLEN := Lib.hid hlen
  have HZ := Lib.hid hz
  have HLN : Hid (L.take n = L) := Lib.hid (by rw [← hlen, List.take_length])
  have HCM := Lib.hid fun (wx : World) (a b : ByteArray) (ha : a.size ≤ 4000000) (hb : b.size ≤ 4000000) => rcmpp_any wx a b ha hb
  have HNIL : Hid (∀ wx : World, wx.ownsRow wx.heap.size 23 2 (.slice none 0 0) 0 (cellsB [])) := Lib.hid fun wx => ⟨rfl, .inl ⟨rfl, rfl⟩⟩
  clear hI hz hlen
  go_enter Tryz.func23, Tryz.ntmps23
  go_wp2_with fail
  go_loopw [3, 4] (fun so si wx => ∃ (q : Nat) (B : Option Addr) (m d : Nat) (M : List PairB), so = .slice B m d ∧ si = .int .i64 q ∧ q ≤ n ∧ m ≤ 1000 ∧ Hid (PIn wx B m M ∧ M.map toL = lastsT ((L.take q).map toL)) ∧ Below w.heap.size w wx) (fun _ si _ => n - (intOf si).toNat)
  case atStart => exact ⟨0, none, 0, 0, [], rfl, rfl, Nat.zero_le _, Nat.zero_le _, Lib.hid ⟨⟨rfl, fun h => by omega⟩, rfl⟩, Below.refl _ _⟩
  case round =>
    obtain ⟨q, B, m, d, M, rfl, rfl, hqn, hm1, hJ, hbx⟩ := hrel
    rename World => w1
    have HBX := Lib.hid hbx
    by_cases e : q < n
    · have d2 : decide ((q : Int) < (n : Int)) = true := decide_eq_true (by omega)
      have hml : M.length = m := hJ.out.1.1
      have hmq : m ≤ q := by
        have h1 := congrArg List.length hJ.out.2
        rw [List.length_map, hml, List.map_take] at h1
        have h2 := lasts_len_le (L.map toL) q
        omega
      have HML := Lib.hid hml
      have HI1 := Lib.hid (HI.out.below hbx)
      have HIM := Lib.hid hJ.out.1
      have hql : q < L.length := by rw [HLEN.out]; exact e
      have HXM := Lib.hid (mem_getD L q hql)
      have HGOAL : Hid (insT (toL (L.getD q noB)) (M.map toL) = lastsT ((L.take (q + 1)).map toL)) := Lib.hid (by
        rw [hJ.out.2, List.take_succ_eq_append_getElem hql, List.map_append, List.map_singleton, lastsT_snoc, show L[q] = L.getD q noB by rw [List.getD_eq_getElem?_getD, List.getElem?_eq_getElem hql]; rfl])
      have HRISE : Hid (riseT (M.map toL)) := Lib.hid (by rw [hJ.out.2]; exact (lasts_is _).1)
      have HMZ : Hid (∀ k, k < m → (M.getD k noB).1.size ≤ 4000000) := Lib.hid fun k hk => by
        have h1 : toL (M.getD k noB) ∈ M.map toL := List.mem_map.2 ⟨_, mem_getD M k (by omega), rfl⟩
        rw [hJ.out.2] at h1
        obtain ⟨p, hp, he⟩ := List.mem_map.1 (lasts_mem h1)
        have h2 := HZ.out p (List.mem_of_mem_take hp)
        have h3 : (M.getD k noB).1.size = p.1.size := by
          have := congrArg (fun x => x.1.length) he
          exact this.symm
        omega
      obtain ⟨X, hX⟩ : ∃ X, X = L.getD q noB := ⟨_, rfl⟩
      rw [← hX] at HGOAL HXM
      have HX := Lib.hid hX
      have HXZ := Lib.hid (HZ.out X HXM.out)
      obtain ⟨X1, X2⟩ := X
      have HS0 : Hid (loopF (toL (X1, X2)) (M.map toL) false = lastsT ((L.take (q + 1)).map toL)) := Lib.hid (by rw [loopF_ins _ _ HRISE.out]; exact HGOAL.out)
      clear hbx hml hql hX hJ
      go_wp2_with fail
      go_loopw [5, 6, 7] (fun sn sd sk wx => ∃ (k : Nat) (dn : Bool) (C : Option Addr) (r t : Nat) (T : List PairB), sn = .slice C r t ∧ sd = .bool dn ∧ sk = .int .i64 k ∧ k ≤ m ∧ r ≤ 2 * k ∧ Hid (wx.ownsRow w1.heap.size 23 2 (.slice C r t) r (cellsB T) ∧ T.map toL ++ loopF (toL (X1, X2)) ((M.drop k).map toL) dn = lastsT ((L.take (q + 1)).map toL)) ∧ Below w1.heap.size w1 wx) (fun _ _ sk _ => m - (intOf sk).toNat)
      case atStart => exact ⟨0, false, none, 0, 0, [], rfl, rfl, rfl, Nat.zero_le _, Nat.le_refl _, Lib.hid ⟨HNIL.out w1, HS0.out⟩, Below.refl _ _⟩
      case round =>
        obtain ⟨k, dn, C, r, t, T, rfl, rfl, rfl, hkm, hrk, hK, hbx⟩ := hrel
        rename World => w2
        have HBI := Lib.hid hbx.drew
        obtain ⟨b, off, hA, hc⟩ := (HI1.out.below hbx).2 (by omega)
        obtain ⟨c1, c2⟩ := hc q e
        rw [← HX.out] at c1 c2
        dsimp only at c1 c2
        by_cases ek : k < m
        · have d3 : decide ((k : Int) < (m : Int)) = true := decide_eq_true (by omega)
          obtain ⟨b2, off2, hB, hc2⟩ := (HIM.out.below hbx).2 (by omega)
          obtain ⟨c3, _⟩ := hc2 k ek
          have hyz := HMZ.out k ek
          have hdm := drop_map_cons M k (by rw [HML.out]; exact ek)
          have hk2 := hK.out.2
          rw [hdm, loopF] at hk2
          obtain ⟨Y, hY⟩ : ∃ Y, Y = M.getD k noB := ⟨_, rfl⟩
          rw [← hY] at c3 hyz hk2
          have HY := Lib.hid hY
          obtain ⟨Y1, Y2⟩ := Y
          dsimp only at c3 hyz
          have CC := Lib.hid fun wx : World => HCM.out wx X1 Y1 HXZ.out hyz
          have hk3 : (toL (X1, X2)).1 = X1.data.toList := rfl
          have hk4 : (toL (Y1, Y2)).1 = Y1.data.toList := rfl
          rw [hk3, hk4] at hk2
          have h3w := cmp_three X1.data.toList Y1.data.toList
          obtain ⟨cv, hcv⟩ : ∃ v, v = cmpL X1.data.toList Y1.data.toList := ⟨_, rfl⟩
          rw [← hcv] at CC hk2 h3w
          have HK2 := Lib.hid hk2
          have HOW : Hid (w2.drew.ownsRow w1.heap.size 23 2 (.slice C r t) r (cellsB T)) := Lib.hid hK.out.1
          subst hA hB
          clear hbx hc hc2 hdm hY hk2 hk3 hk4 hcv hyz hK
          go_wp2_with fail
          go_region_held3 (fun w' => w'.cell? ⟨b, off + q * 2, none⟩ = some (.string X1) ∧ w'.cell? ⟨b2, off2 + k * 2, none⟩ = some (.string Y1))
            (first | exact ⟨c1, c3⟩ | exact ⟨s1, s3⟩)
            (first
              | (go_at_call 49; refine (CC.out _).mono ?_; rintro e w3 ⟨rfl, hb3⟩
                 have s1 : w3.cell? ⟨b, off + q * 2, none⟩ = some (.string X1) := (hb3.cell (p := ⟨b, _, none⟩) (World.block_lt_of_cell? w2 _ c1)).trans c1
                 have s2 : w3.cell? ⟨b, off + q * 2 + 1, none⟩ = some (.string X2) := (hb3.cell (p := ⟨b, _, none⟩) (World.block_lt_of_cell? w2 _ c2)).trans c2
                 have s3 : w3.cell? ⟨b2, off2 + k * 2, none⟩ = some (.string Y1) := (hb3.cell (p := ⟨b2, _, none⟩) (World.block_lt_of_cell? w2 _ c3)).trans c3
                 have HB3 := Lib.hid (HBI.out.trans (hb3.mono HBI.out.size))
                 have HO3 := Lib.hid ((step_of_below hb3).row HOW.out (fun k _ => List.not_mem_nil) List.not_mem_nil)
                 clear hb3))
          clear c1 c2 c3 s3 HOW HBI
          obtain ⟨sk, hsk⟩ : ∃ x : Bool, x = (decide (cv ≤ 0) && !dn) := ⟨_, rfl⟩
          have HSK := Lib.hid hsk
          clear hsk
          go_upto_region 11 with fail
          go_cut [37] (fun s37 wx => s37 = .bool sk ∧ wx = w3)
          case first =>
            by_cases ec : cv ≤ 0
            · have t1 : decide (cv ≤ 0) = true := decide_eq_true ec
              have HV : Hid (sk = !dn) := Lib.hid (by rw [HSK.out, t1]; rfl)
              clear ec
              go_wp2_with fail
              go_meet
              case rel => exact ⟨by rw [HV.out], rfl⟩
            · have t1 : decide (cv ≤ 0) = false := decide_eq_false ec
              have HV : Hid (sk = false) := Lib.hid (by rw [HSK.out, t1]; rfl)
              clear ec
              go_wp2_with fail
              go_meet
              case rel => exact ⟨by rw [HV.out], rfl⟩
          case rest =>
            obtain ⟨rfl, rfl⟩ := hcut
            rename World => w3
            go_upto_if 37 with fail
            go_cut [5, 6] (fun s5 s6 wx => ∃ (C' : Option Addr) (r' t' : Nat) (T' : List PairB), s5 = .slice C' r' t' ∧ s6 = .bool (dn || decide (cv ≤ 0)) ∧ r' ≤ 2 * k + 1 ∧ Hid (wx.ownsRow w1.heap.size 23 2 (.slice C' r' t') r' (cellsB T') ∧ T'.map toL = T.map toL ++ (if cv ≤ 0 ∧ dn = false then [toL (X1, X2)] else []) ∧ Below w1.heap.size w1 wx))
            case first =>
              by_cases ec : cv ≤ 0
              · have t1 : decide (cv ≤ 0) = true := decide_eq_true ec
                cases dn
                · obtain rfl : sk = true := by rw [HSK.out, t1]; rfl
                  have HE : Hid ((T ++ [(X1, X2)]).map toL = T.map toL ++ (if cv ≤ 0 ∧ false = false then [toL (X1, X2)] else [])) := Lib.hid (by rw [if_pos ⟨ec, rfl⟩, List.map_append]; rfl)
                  obtain ⟨g2, t2, w4, hr4, ho4, hb4⟩ := ent_one w3 w1.heap.size r t C T HO3.out X1 X2 (by omega) HB3.out.size
                  have HR := Lib.hid hr4
                  have HO4 := Lib.hid ho4
                  have HB4 := Lib.hid (HB3.out.trans hb4)
                  obtain ⟨r1, hr1⟩ : ∃ x, x = r + 1 := ⟨_, rfl⟩
                  rw [← hr1] at HR HO4
                  have hr1b : r1 ≤ 2 * k + 1 := by omega
                  clear hr4 ho4 hb4 hr1 ec
                  go_upto_region 12 with fail
                  go_wp2_with (at_builtin; refine Lib.wpList_append_run _ rfl (.tmp 38) (.tmp 43) 36 36 rfl (.slice C r t) (.slice (some ⟨w3.heap.size, 0, none⟩) 1 1) rfl rfl (.slice (some ⟨g2, 0, none⟩) r1 t2) w4 HR.out ?_)
                  go_meet
                  case rel => exact ⟨some ⟨g2, 0, none⟩, r1, t2, T ++ [(X1, X2)], rfl, by rw [t1]; rfl, hr1b, Lib.hid ⟨HO4.out, HE.out, HB4.out⟩⟩
                · obtain rfl : sk = false := by rw [HSK.out, t1]; rfl
                  have HE : Hid (T.map toL = T.map toL ++ (if cv ≤ 0 ∧ true = false then [toL (X1, X2)] else [])) := Lib.hid (by rw [if_neg (fun h => Bool.noConfusion h.2), List.append_nil])
                  clear ec
                  go_wp2_with fail
                  go_meet
                  case rel => exact ⟨C, r, t, T, rfl, by rw [t1]; rfl, by omega, Lib.hid ⟨HO3.out, HE.out, HB3.out⟩⟩
              · have t1 : decide (cv ≤ 0) = false := decide_eq_false ec
                obtain rfl : sk = false := by rw [HSK.out, t1]; rfl
                have HE : Hid (T.map toL = T.map toL ++ (if cv ≤ 0 ∧ dn = false then [toL (X1, X2)] else [])) := Lib.hid (by rw [if_neg (fun h => ec h.1), List.append_nil])
                clear ec
                go_wp2_with fail
                go_meet
                case rel => exact ⟨C, r, t, T, rfl, by rw [t1, Bool.or_false], by omega, Lib.hid ⟨HO3.out, HE.out, HB3.out⟩⟩
            case rest =>
              obtain ⟨C', r', t', T', rfl, rfl, hr', hR⟩ := hcut
              rename World => w5
              by_cases ec : cv = 0
              · have t1 : (cv != 0) = false := by rw [ec]; rfl
                have HK3 := HK2.out
                rw [show (if cv ≠ 0 then [toL (Y1, Y2)] else []) = [] from if_neg (fun h => h ec), List.nil_append, ← List.append_assoc, ← hR.out.2.1] at HK3
                have HK4 := Lib.hid HK3
                clear ec HK3
                go_wp2_with fail
                go_roundw
                case rel => exact ⟨k + 1, _, C', r', t', T', rfl, rfl, by go_num, by omega, by omega, Lib.hid ⟨hR.out.1, HK4.out⟩, hR.out.2.2⟩
                case measure => simp [intOf]; omega
              · have t1 : (cv != 0) = true := bne_iff_ne.2 ec
                have HK3 := HK2.out
                rw [show (if cv ≠ 0 then [toL (Y1, Y2)] else []) = [toL (Y1, Y2)] from if_pos ec] at HK3
                have HK4 : Hid ((T' ++ [(Y1, Y2)]).map toL ++ loopF (toL (X1, X2)) ((M.drop (k + 1)).map toL) (dn || decide (cv ≤ 0)) = lastsT ((L.take (q + 1)).map toL)) := Lib.hid (by
                  rw [← HK3, List.map_append, hR.out.2.1]
                  simp only [List.append_assoc]
                  rfl)
                obtain ⟨b2', off2', hB', hc2⟩ := (HIM.out.below hR.out.2.2).2 (by omega)
                obtain ⟨c3, c4⟩ := hc2 k ek
                rw [← HY.out] at c3 c4
                dsimp only at c3 c4
                injection hB' with hB'
                injection hB' with hB1 hB2
                subst hB1 hB2
                obtain ⟨g2, t2, w6, hr6, ho6, hb6⟩ := ent_one w5 w1.heap.size r' t' C' T' hR.out.1 Y1 Y2 (by omega) hR.out.2.2.size
                have HR := Lib.hid hr6
                have HO6 := Lib.hid ho6
                have HB6 := Lib.hid (hR.out.2.2.trans hb6)
                obtain ⟨r1, hr1⟩ : ∃ x, x = r' + 1 := ⟨_, rfl⟩
                rw [← hr1] at HR HO6
                have hr1b : r1 ≤ 2 * (k + 1) := by omega
                clear hr6 ho6 hb6 hr1 ec HK3 hc2
                go_upto_region 15 with fail
                go_wp2_with (at_builtin; refine Lib.wpList_append_run _ rfl (.tmp 47) (.tmp 52) 36 36 rfl (.slice C' r' t') (.slice (some ⟨w5.heap.size, 0, none⟩) 1 1) rfl rfl (.slice (some ⟨g2, 0, none⟩) r1 t2) w6 HR.out ?_)
                go_roundw
                case rel => exact ⟨k + 1, _, some ⟨g2, 0, none⟩, r1, t2, T' ++ [(Y1, Y2)], rfl, rfl, by go_num, by omega, hr1b, Lib.hid ⟨HO6.out, HK4.out⟩, HB6.out⟩
                case measure => simp [intOf]; omega
        · obtain rfl : k = m := by omega
          have d3 : decide ((k : Int) < (k : Int)) = false := decide_eq_false (by omega)
          have hk2 := hK.out.2
          rw [List.drop_of_length_le (by rw [HML.out]; exact Nat.le_refl _), List.map_nil, loopF] at hk2
          have HLQ := Lib.hid (lasts_len_le (L.map toL) (q + 1))
          have HBW := Lib.hid (HBX.out.trans (hbx.mono HBX.out.size))
          cases dn
          · rw [if_neg (by decide)] at hk2
            have HT : Hid ((T ++ [(X1, X2)]).map toL = lastsT ((L.take (q + 1)).map toL)) := Lib.hid (by rw [← hk2, List.map_append]; rfl)
            obtain ⟨g2, t2, w4, hr4, ho4, hb4⟩ := ent_one w2 w1.heap.size r t C T hK.out.1 X1 X2 (by omega) hbx.size
            have HR := Lib.hid hr4
            have HO4 := Lib.hid ho4
            have HB4 := Lib.hid (HBX.out.trans ((hbx.trans hb4).mono HBX.out.size))
            obtain ⟨r1, hr1⟩ : ∃ x, x = r + 1 := ⟨_, rfl⟩
            rw [← hr1] at HR HO4
            have hr1b : r1 ≤ 1000 := by
              have h1 := congrArg List.length HT.out
              have h2 := (pin_ownE HO4.out).1
              rw [List.length_map, h2, List.map_take] at h1
              have := HLQ.out
              omega
            subst hA
            clear hr4 ho4 hb4 hr1 hk2 hc hbx hK
            go_upto_region 17 with fail
            go_wp2_with (at_builtin; refine Lib.wpList_append_run _ rfl (.tmp 56) (.tmp 61) 36 36 rfl (.slice C r t) (.slice (some ⟨w2.heap.size, 0, none⟩) 1 1) rfl rfl (.slice (some ⟨g2, 0, none⟩) r1 t2) w4 HR.out ?_)
            go_roundw
            case rel => exact ⟨q + 1, some ⟨g2, 0, none⟩, r1, t2, T ++ [(X1, X2)], rfl, by go_num, by omega, hr1b, Lib.hid ⟨pin_ownE HO4.out, HT.out⟩, HB4.out⟩
            case measure => simp [intOf]; omega
          · rw [if_pos rfl, List.append_nil] at hk2
            have HT := Lib.hid hk2
            have HPN := Lib.hid (pin_ownE hK.out.1)
            have hr1b : r ≤ 1000 := by
              have h1 := congrArg List.length hk2
              rw [List.length_map, HPN.out.1, List.map_take] at h1
              have := HLQ.out
              omega
            clear hk2 hc hbx hK c1 c2 hA
            go_wp2_with fail
            go_roundw
            case rel => exact ⟨q + 1, C, r, t, T, rfl, by go_num, by omega, hr1b, Lib.hid ⟨HPN.out, HT.out⟩, HBW.out⟩
            case measure => simp [intOf]; omega
    · obtain rfl : q = n := by omega
      have d2 : decide ((q : Int) < (q : Int)) = false := decide_eq_false (by omega)
      have HF := Lib.hid (HP.out B m d M w1 (by rw [hJ.out.2, HLN.out]) hJ.out.1 (by unfold maxLen; omega) hbx)
      clear hbx hJ
      go_wp2_with fail
      exact HF.out
end Go.Proofs.YtdjmfkodjjjhfaaGreatDoor
