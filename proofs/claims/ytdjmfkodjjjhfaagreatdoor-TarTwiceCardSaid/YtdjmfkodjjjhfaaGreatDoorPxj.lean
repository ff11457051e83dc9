/- Pax: the reference's record, and Encode of one pair. Written ahead of stage 18. -/
import Derived.Test.YtdjmfkodjjjhfaaGreatDoorPxa
import Derived.Test.YtdjmfkodjjjhfaaGreatDoorFdb
import Derived.Test.YtdjmfkodjjjhfaaGreatDoorSa
import Derived.Deep.QuietTactic
import Derived.BigQuiet
import Derived.Deep.AppendLies
import Derived.Laws.OwnMore
namespace Go.Proofs.YtdjmfkodjjjhfaaGreatDoor
open Go.RowKit

set_option maxHeartbeats 3200000 in
set_option maxRecDepth 100000 in
theorem rrecord_any (w : World) (k v : ByteArray) (hs : k.size + v.size ≤ 900000) :
    Calls Tryz.prog 60 #[.agg #[.string k, .string v]] w fun e w' => e = .returned (.string (strF (recL (k.data.toList, v.data.toList)))) ∧ Below w.heap.size w w' := by
  have HP : Hid (∀ (X : ByteArray) (w' : World), X = strF (recL (k.data.toList, v.data.toList)) → Below w.heap.size w w' → (fun e w' => e = Ending.returned (.string (strF (recL (k.data.toList, v.data.toList)))) ∧ Below w.heap.size w w') (.returned (.string X)) w') := Lib.hid fun X w' h hb => ⟨by rw [h], hb⟩
  generalize (fun e w' => e = Ending.returned (.string (strF (recL (k.data.toList, v.data.toList)))) ∧ Below w.heap.size w w') = PO at *
  have hrl : (prestL (k.data.toList, v.data.toList)).length = k.size + v.size + 3 := prestL_length _
  obtain ⟨R, hR⟩ : ∃ R : ByteArray, R = strF (prestL (k.data.toList, v.data.toList)) := ⟨_, rfl⟩
  have hRz : R.size = k.size + v.size + 3 := by rw [hR]; exact hrl
  obtain ⟨D, hD⟩ : ∃ D, D = digN R.size := ⟨_, rfl⟩
  have hDr : (decL (D + R.size)).length = D := by rw [hD]; exact digN_right _ (by omega)
  have hDl : ∀ d, d < D → (decL (d + R.size)).length ≠ d := fun d h => digN_least R.size d (by omega) (by rw [← hD]; exact h)
  have hD6 : 1 ≤ D ∧ D ≤ 6 := by
    rw [hD]
    unfold digN
    repeat' split
    all_goals omega
  have hRec : strF (decL (D + R.size)) ++ R = strF (recL (k.data.toList, v.data.toList)) := by
    rw [hR, strF_app]
    unfold recL recN
    rw [← hrl, hD] at *
    rw [hR]
    rfl
  have hCat : (⟨#[32]⟩ : ByteArray) ++ k ++ ⟨#[61]⟩ ++ v ++ ⟨#[10]⟩ = R := by
    rw [hR, show (⟨#[32]⟩ : ByteArray) = strF [32] from rfl, show (⟨#[61]⟩ : ByteArray) = strF [61] from rfl, show (⟨#[10]⟩ : ByteArray) = strF [10] from rfl, ← strF_self k, ← strF_self v]
    simp only [strF_app, strF_list]
    congr 1
    unfold prestL
    simp only [List.append_assoc, List.cons_append, List.nil_append]
  have HC := Lib.hid fun (wx : World) (d : Nat) (_ : d ≤ 1000) => rdigits_any wx ((d : Int) + (R.size : Int)) (by omega) (by omega)
  have HDG : Hid (∀ d : Nat, digitsA ((d : Int) + (R.size : Int)) = decL (d + R.size)) := Lib.hid fun d => by rw [← digits_dec]; congr 1
  have HREC := Lib.hid hRec
  have HCAT := Lib.hid hCat
  have HDR := Lib.hid hDr
  have HDL := Lib.hid hDl
  have hk1 := blk_new w 56 #[.string k, .string v]
  have HB1 : Hid (Below w.heap.size w (w.alloc (.cells #[.string k, .string v] 56))) := Lib.hid ((Below.refl _ _).alloc (Nat.le_refl _) _)
  have c0 : (w.alloc (.cells #[.string k, .string v] 56)).cell? ⟨w.heap.size, 0, none⟩ = some (.string k) := blk_cell hk1 0
  have c1 : (w.alloc (.cells #[.string k, .string v] 56)).cell? ⟨w.heap.size, 1, none⟩ = some (.string v) := blk_cell hk1 1
  have z1 : ((⟨#[32]⟩ : ByteArray) ++ k).size ≤ 900001 := by rw [ByteArray.size_append]; show 1 + k.size ≤ _; omega
  have z2 : ((⟨#[32]⟩ : ByteArray) ++ k ++ ⟨#[61]⟩).size ≤ 900002 := by rw [ByteArray.size_append, ByteArray.size_append]; show 1 + k.size + 1 ≤ _; omega
  have z3 : ((⟨#[32]⟩ : ByteArray) ++ k ++ ⟨#[61]⟩ ++ v).size ≤ 900003 := by rw [ByteArray.size_append, ByteArray.size_append, ByteArray.size_append]; show 1 + k.size + 1 + v.size ≤ _; omega
  have zk : k.size ≤ 900000 := by omega
  have zv : v.size ≤ 900000 := by omega
  have hRb : R.size ≤ 900003 := by omega
  obtain ⟨hD1, hD2⟩ := hD6
  clear hk1 hrl hR hRz hD hDr hDl hRec hCat hs
  go_enter Tryz.func60, Tryz.ntmps60
  go_upto_region 2 with fail
  rw [HCAT.out]
  clear c0 c1 z1 z2 z3 zk zv
  generalize w.alloc (.cells #[.string k, .string v] 56) = w1 at *
  go_wp2_with fail
  go_loopw [4] (fun sd wx => ∃ d : Nat, sd = .int .i64 d ∧ 1 ≤ d ∧ d ≤ D ∧ wx = w1) (fun sd _ => 20 - (intOf sd).toNat)
  case atStart => exact ⟨1, rfl, Nat.le_refl _, hD1, rfl⟩
  case round =>
    obtain ⟨d, rfl, hd1, hd2, rfl⟩ := hrel
    have t0 : decide ((d : Int) < 20) = true := decide_eq_true (by omega)
    have HDD := Lib.hid (HC.out wr d (by omega))
    rw [HDG.out] at HDD
    obtain ⟨T, hT⟩ : ∃ T, T = strF (decL (d + R.size)) := ⟨_, rfl⟩
    rw [← hT] at HDD
    have hTz : T.size = (decL (d + R.size)).length := by rw [hT]; rfl
    by_cases e : d = D
    · have t1 : ((T.size : Int) == (d : Int)) = true := by rw [hTz, e, HDR.out]; exact beq_self_eq_true _
      have HEND := Lib.hid (HP.out (T ++ R) wr (by rw [hT, e]; exact HREC.out) HB1.out)
      have hTb : T.size ≤ 10 := by rw [hTz, e, HDR.out]; omega
      clear hT hTz e
      go_wp2_with fail
      refine HDD.out.mono ?_
      rintro e w2 ⟨rfl, rfl⟩
      go_wp2_with fail
      exact HEND.out
    · have t1 : ((T.size : Int) == (d : Int)) = false := beq_false_of_ne (fun h => HDL.out d (by omega) (by omega))
      clear hT hTz
      go_wp2_with fail
      refine HDD.out.mono ?_
      rintro e w2 ⟨rfl, rfl⟩
      go_wp2_with fail
      go_roundw
      case rel => exact ⟨d + 1, by go_num, by omega, by omega, by first | rfl | trivial⟩
      case measure => simp [intOf]; omega
end Go.Proofs.YtdjmfkodjjjhfaaGreatDoor
/- Pax: the reference's Same, the law's light. Written ahead of stage 17. -/
namespace Go.Proofs.YtdjmfkodjjjhfaaGreatDoor
open Go.RowKit

set_option maxRecDepth 100000 in
theorem guardP : Tryz.prog.eqGuardType Tryz.prog.depth 56 = false := by kernel_rfl
set_option maxRecDepth 100000 in
theorem heldP : Tryz.prog.stoodInHeld 56 = false := by kernel_rfl
set_option maxRecDepth 100000 in
theorem fieldsP : Tryz.prog.underlying 56 = some (.struct (Tryz.prog.fieldsOf 56)) := by simp [Program.fieldsOf, Tryz.underlying56]
set_option maxRecDepth 100000 in
theorem pair_neq (a b c e : ByteArray) (w : World) : (binOp .neq 56 (.agg #[.string a, .string b]) (.agg #[.string c, .string e])).run Tryz.prog w = .ok (.bool (!(a.toList == c.toList && b.toList == e.toList))) w := by
  rw [run_neq_struct, run_equalIn_agg w 9999 56 _ _ fieldsP heldP]
  simp [Program.fieldsOf, Tryz.underlying56, Op.eqFields, part, go_sem]
  by_cases h0 : a.toList = c.toList
  · by_cases h1 : b.toList = e.toList
    · simp [h0, h1]
    · simp [h0, h1]
  · simp [h0]
theorem take_same (L M : List PairB) (q : Nat) (hl : q < L.length) (hm : q < M.length) : (L.take (q + 1) = M.take (q + 1)) ↔ (L.take q = M.take q ∧ L.getD q noB = M.getD q noB) := by
  rw [List.take_succ_eq_append_getElem hl, List.take_succ_eq_append_getElem hm, List.getD_eq_getElem?_getD, List.getD_eq_getElem?_getD, List.getElem?_eq_getElem hl, List.getElem?_eq_getElem hm]
  constructor
  · intro h
    have := List.append_inj' h rfl
    exact ⟨this.1, (List.cons.inj this.2).1⟩
  · rintro ⟨h, g⟩
    rw [h]
    exact congrArg _ (congrArg (fun x => [x]) g)
theorem take_differ {L M : List PairB} (q : Nat) (h : L.getD q noB ≠ M.getD q noB) : L ≠ M := fun e => h (by rw [e])

/-- light, over the lengths. -/
def lightB : List PairB → Nat → Bool
  | [], _ => true
  | p :: l, n => if 20000 < n + (p.1.size + p.2.size + 10) then false else lightB l (n + (p.1.size + p.2.size + 10))
def toL (p : PairB) : PairL := (p.1.data.toList, p.2.data.toList)
theorem lightB_is : ∀ (l : List PairB) (n : Nat), lightB l n = lightS (l.map toL) n
  | [], _ => rfl
  | p :: l, n => by
    rw [lightB, List.map_cons, lightS, lightB_is l]
    rfl
end Go.Proofs.YtdjmfkodjjjhfaaGreatDoor
/- Pax: the reference's Encode of pairs that may be. Written ahead of stage 18. -/
namespace Go.Proofs.YtdjmfkodjjjhfaaGreatDoor
open Go.RowKit

theorem flat_next (L : List PairB) (q : Nat) (hq : q < L.length) : flatP ((L.take (q + 1)).map toL) = flatP ((L.take q).map toL) ++ recL (toL (L.getD q noB)) := by
  rw [List.take_succ_eq_append_getElem hq, List.map_append, flatP_append, List.getD_eq_getElem?_getD, List.getElem?_eq_getElem hq]
  congr 1
  exact List.append_nil _
theorem flat_take_le (L : List PairB) (q : Nat) : (flatP ((L.take q).map toL)).length ≤ (flatP (L.map toL)).length := by
  have h := congrArg (fun l => (flatP (l.map toL)).length) (List.take_append_drop q L)
  rw [List.map_append, flatP_append, List.length_append] at h
  omega
theorem mem_getD (L : List PairB) (q : Nat) (hq : q < L.length) : L.getD q noB ∈ L := by
  rw [List.getD_eq_getElem?_getD, List.getElem?_eq_getElem hq]
  exact List.getElem_mem hq
set_option maxHeartbeats 3200000 in
set_option maxRecDepth 100000 in
theorem rpenc_any (w : World) (A : Option Addr) (n c : Nat) (L : List PairB) (hI : PIn w A n L) (hn : n ≤ maxLen) (hk : keysK (L.map toL)) (hz : (flatP (L.map toL)).length ≤ 200000) :
    Calls Tryz.prog 33 #[.slice A n c] w fun e w' => e = .returned (.tuple #[.string (strF (flatP (L.map toL))), .int .i64 0]) ∧ Below w.heap.size w w' := by
  have HP : Hid (∀ (X : ByteArray) (w' : World), X = strF (flatP (L.map toL)) → Below w.heap.size w w' → (fun e w' => e = Ending.returned (.tuple #[.string (strF (flatP (L.map toL))), .int .i64 0]) ∧ Below w.heap.size w w') (.returned (.tuple #[.string X, .int .i64 0])) w') := Lib.hid fun X w' h hb => ⟨by rw [h], hb⟩
  generalize (fun e w' => e = Ending.returned (.tuple #[.string (strF (flatP (L.map toL))), .int .i64 0]) ∧ Below w.heap.size w w') = PO at *
  have HI := Lib.hid hI
  have hlen := hI.1
  have HLEN := Lib.hid hlen
  have hKY : ∀ q, q < n → decide (keyK (L.getD q noB).1.data.toList) = true := fun q hq => by
    refine decide_eq_true (hk (toL (L.getD q noB)) ?_)
    exact List.mem_map.2 ⟨_, mem_getD L q (by omega), rfl⟩
  have hSZ : ∀ q, q < n → (L.getD q noB).1.size + (L.getD q noB).2.size ≤ 200000 := fun q hq => by
    have h1 := flat_next L q (by omega)
    have h2 := flat_take_le L (q + 1)
    rw [h1, List.length_append] at h2
    have h3 : (prestL (toL (L.getD q noB))).length = _ := prestL_length _
    have h4 : (recL (toL (L.getD q noB))).length = (decL (recN (toL (L.getD q noB)))).length + (prestL (toL (L.getD q noB))).length := List.length_append
    have h5 : (toL (L.getD q noB)).1.length = (L.getD q noB).1.size := rfl
    have h6 : (toL (L.getD q noB)).2.length = (L.getD q noB).2.size := rfl
    omega
  have hNX : ∀ q, q < n → strF (flatP ((L.take q).map toL)) ++ strF (recL ((L.getD q noB).1.data.toList, (L.getD q noB).2.data.toList)) = strF (flatP ((L.take (q + 1)).map toL)) := fun q hq => by
    rw [flat_next L q (by omega), strF_app]
    rfl
  have hBD : ∀ q, (strF (flatP ((L.take q).map toL))).size ≤ 200000 := fun q => Nat.le_trans (flat_take_le L q) hz
  have hRZ : ∀ q, q < n → (strF (recL ((L.getD q noB).1.data.toList, (L.getD q noB).2.data.toList))).size ≤ 200000 := fun q hq => by
    have h1 := congrArg ByteArray.size (hNX q hq)
    rw [ByteArray.size_append] at h1
    have := hBD (q + 1)
    omega
  have HKY := Lib.hid hKY
  have HSZ := Lib.hid hSZ
  have HNX := Lib.hid hNX
  have HBD := Lib.hid hBD
  have HRZ := Lib.hid hRZ
  have H0 : Hid (strF (flatP ((L.take 0).map toL)) = ⟨#[]⟩) := Lib.hid rfl
  have HL : Hid (strF (flatP ((L.take n).map toL)) = strF (flatP (L.map toL))) := Lib.hid (by rw [← hlen, List.take_length])
  have HMAY := Lib.hid fun (wx : World) (t : ByteArray) (h : t.size ≤ 9223372036854775807) => rkey_any wx t h
  have HREC := Lib.hid fun (wx : World) (k v : ByteArray) (h : k.size + v.size ≤ 900000) => rrecord_any wx k v h
  unfold maxLen at hn
  clear hI hk hz hlen hKY hSZ hNX hBD hRZ
  go_enter Tryz.func33, Tryz.ntmps33
  go_wp2_with fail
  go_loopw [4] (fun si wx => ∃ q : Nat, si = .int .i64 q ∧ q ≤ n ∧ wx = w) (fun si _ => n - (intOf si).toNat)
  case atStart => exact ⟨0, rfl, Nat.zero_le _, rfl⟩
  case round =>
    obtain ⟨q, rfl, hqn, rfl⟩ := hrel
    rename World => w0
    by_cases e : q < n
    · have d2 : decide ((q : Int) < (n : Int)) = true := decide_eq_true (by omega)
      obtain ⟨b, off, hA, hc⟩ := HI.out.2 (by omega)
      obtain ⟨c1, _⟩ := hc q e
      have hky := HKY.out q e
      have hsz := HSZ.out q e
      generalize (L.getD q noB).1 = K at *
      have HM := Lib.hid (HMAY.out w0 K (by omega))
      rw [hky] at HM
      subst hA
      clear hc hky hsz
      go_wp2_with fail
      refine HM.out.mono ?_
      rintro e w2 ⟨rfl, rfl⟩
      go_wp2_with fail
      go_roundw
      case rel => exact ⟨q + 1, by go_num, by omega, by first | rfl | trivial⟩
      case measure => simp [intOf]; omega
    · obtain rfl : q = n := by omega
      have d2 : decide ((q : Int) < (q : Int)) = false := decide_eq_false (by omega)
      go_wp2_with fail
      go_loopw [5, 6] (fun ss si wx => ∃ p : Nat, ss = .string (strF (flatP ((L.take p).map toL))) ∧ si = .int .i64 p ∧ p ≤ q ∧ Below w0.heap.size w0 wx) (fun _ si _ => q - (intOf si).toNat)
      case atStart => exact ⟨0, by rw [H0.out], rfl, Nat.zero_le _, Below.refl _ _⟩
      case round =>
        obtain ⟨p, rfl, rfl, hpn, hbx⟩ := hrel
        rename World => w3
        have HBX := Lib.hid hbx
        by_cases e : p < q
        · have d3 : decide ((p : Int) < (q : Int)) = true := decide_eq_true (by omega)
          obtain ⟨b, off, hA, hc⟩ := (HI.out.below hbx).2 (by omega)
          obtain ⟨c1, c2⟩ := hc p e
          have hsz := HSZ.out p e
          have hnx := HNX.out p e
          have hz1 := HBD.out p
          have hz2 := HRZ.out p e
          have hz3 := HBD.out (p + 1)
          have HRC := Lib.hid (HREC.out w3 (L.getD p noB).1 (L.getD p noB).2 (by omega))
          generalize (L.getD p noB).1 = K at *
          generalize (L.getD p noB).2 = V at *
          generalize strF (recL (K.data.toList, V.data.toList)) = RC at *
          generalize strF (flatP ((L.take p).map toL)) = G at *
          generalize hG2 : strF (flatP ((L.take (p + 1)).map toL)) = G2 at *
          have HG2 := Lib.hid hG2
          have HN := Lib.hid hnx
          have d4 : decide ((262144 : Int) < (G2.size : Int)) = false := decide_eq_false (by omega)
          subst hA
          clear hc hsz hnx hbx hG2
          go_wp2_with fail
          refine HRC.out.mono ?_
          rintro e w4 ⟨rfl, hb4⟩
          have HB4 := Lib.hid (HBX.out.trans (hb4.mono HBX.out.size))
          clear hb4
          go_upto_region 11 with fail
          rw [HN.out]
          clear hz1 hz2
          go_wp2_with fail
          go_roundw
          case rel => exact ⟨p + 1, by rw [HG2.out], by go_num, by omega, HB4.out⟩
          case measure => simp [intOf]; omega
        · obtain rfl : p = q := by omega
          have d3 : decide ((p : Int) < (p : Int)) = false := decide_eq_false (by omega)
          have HF := Lib.hid (HP.out _ w3 HL.out hbx)
          clear hbx
          go_wp2_with fail
          exact HF.out
end Go.Proofs.YtdjmfkodjjjhfaaGreatDoor
/- Pax: pairs behind pairs in memory (append). Written ahead of stage 17. -/
namespace Go.Proofs.YtdjmfkodjjjhfaaGreatDoor
open Go.RowKit

def cellsB (L : List PairB) : List Value := L.flatMap fun p => [.string p.1, .string p.2]
theorem cellsB_cons (p : PairB) (L : List PairB) : cellsB (p :: L) = .string p.1 :: .string p.2 :: cellsB L := rfl
theorem cellsB_append (L M : List PairB) : cellsB (L ++ M) = cellsB L ++ cellsB M := by
  unfold cellsB
  rw [List.flatMap_append]
theorem cellsB_length : ∀ L : List PairB, (cellsB L).length = L.length * 2
  | [] => rfl
  | p :: L => by
    rw [cellsB_cons, List.length_cons, List.length_cons, List.length_cons, cellsB_length L]
    omega
set_option maxRecDepth 100000 in
theorem cellsB_get : ∀ (L : List PairB) (j : Nat), j < L.length → (cellsB L)[j * 2]? = some (.string (L.getD j noB).1) ∧ (cellsB L)[j * 2 + 1]? = some (.string (L.getD j noB).2)
  | [], j, h => by cases h
  | p :: L, 0, _ => ⟨rfl, rfl⟩
  | p :: L, j + 1, h => by
    have := cellsB_get L j (by simpa using h)
    rw [show (j + 1) * 2 = j * 2 + 1 + 1 by omega]
    exact this
theorem pin_of_own {w : World} {B n c g : Nat} {L : List PairB} (h : w.ownsRow B 56 2 (.slice (some ⟨g, 0, none⟩) n c) n (cellsB L)) : PIn w (some ⟨g, 0, none⟩) n L := by
  have hl : L.length = n := by
    have := h.1
    rw [cellsB_length] at this
    omega
  refine ⟨hl, fun _ => ⟨g, 0, rfl, fun i hi => ?_⟩⟩
  obtain ⟨h1, h2⟩ := cellsB_get L i (by omega)
  rw [Nat.zero_add]
  exact ⟨by rw [World.ownsRow.cellAt h (i * 2) (by omega), h1], by rw [World.ownsRow.cellAt h (i * 2 + 1) (by omega), h2]⟩
set_option maxRecDepth 100000 in
theorem cellsB_one (L : List PairB) : ∀ u, u ∈ cellsB L → u.oneCell' = true := by
  intro u hu
  unfold cellsB at hu
  rw [List.mem_flatMap] at hu
  obtain ⟨p, _, hp⟩ := hu
  rcases List.mem_cons.1 hp with h | h
  · rw [h]; rfl
  · rw [List.mem_singleton.1 h]; rfl
set_option maxRecDepth 100000 in
theorem info_pair : ∃ i, Tryz.prog.info? 56 = some i ∧ i.zero = some (.agg #[.string ⟨#[]⟩, .string ⟨#[]⟩]) ∧ i.size = 2 ∧ i.bytes = 32 := by
  have h0 : (Tryz.prog.info? 56).map (·.zero) = some (some (.agg #[.string ⟨#[]⟩, .string ⟨#[]⟩])) := by kernel_rfl
  have h1 : (Tryz.prog.info? 56).map (·.size) = some 2 := by kernel_rfl
  have h2 : (Tryz.prog.info? 56).map (·.bytes) = some 32 := by kernel_rfl
  cases hq : Tryz.prog.info? 56 with
  | none => simp [hq] at h1
  | some i => exact ⟨i, rfl, by simpa [hq] using h0, by simpa [hq] using h1, by simpa [hq] using h2⟩
set_option maxRecDepth 100000 in
theorem append_pairs (w : World) (B : Nat) (v : Value) (n : Nat) (xs : List Value) (hown : w.ownsRow B 56 2 v n xs) (A : Option Addr) (k c : Nat) (L : List PairB) (hi : PIn w A k L) (hnk : n + k ≤ 1000000) (hB : B ≤ w.heap.size) :
    ∃ v' w', (Builtin.append_ #[57, 57] 57 #[v, .slice A k c]).run Tryz.prog w = .ok v' w' ∧ w'.ownsRow B 56 2 v' (n + k) (xs ++ cellsB L) ∧ w.grownBy w' v.ownBlock := by
  obtain ⟨i3, h3, hz0, hz1, hz2⟩ := info_pair
  have hl := hi.1
  rcases A with _ | ad
  · have hk : k = 0 := by
      rcases Nat.eq_zero_or_pos k with h0 | h0
      · exact h0
      · obtain ⟨b, off, h, _⟩ := hi.2 h0
        cases h
    subst hk
    have hL : L = [] := List.eq_nil_of_length_eq_zero hl
    subst hL
    refine ⟨v, w, ?_, by simpa [cellsB] using hown, ⟨rfl, rfl, rfl, Nat.le_refl _, fun _ _ _ => rfl⟩⟩
    rcases hown.2 with ⟨rfl, rfl⟩ | ⟨g, cap, cur, rfl, _, _, hnc, _⟩
    · simp [Builtin.append_, run_underlying Tryz.underlying57, sizeOf, typeInfo, h3, Builtin.lenOf, Builtin.firstCells]
    · simp [Builtin.append_, run_underlying Tryz.underlying57, sizeOf, typeInfo, h3, Builtin.lenOf, Builtin.firstCells, hnc, storeCells]
  · have hnews : ∀ j u, (cellsB L)[j]? = some u → w.cell? (ad.add j) = some u := by
      intro j u hu
      have hj : j < L.length * 2 := by
        have := (List.getElem?_eq_some_iff.1 hu).1
        rw [cellsB_length] at this
        exact this
      obtain ⟨b, off, he, hc⟩ := hi.2 (by omega)
      injection he with he
      subst he
      rw [Addr.add_lit]
      obtain ⟨h1, h2⟩ := hc (j / 2) (by omega)
      obtain ⟨g1, g2⟩ := cellsB_get L (j / 2) (by omega)
      rcases (show j = j / 2 * 2 ∨ j = j / 2 * 2 + 1 by omega) with hj2 | hj2
      · rw [hj2] at hu ⊢
        rw [g1] at hu
        rw [h1, hu]
      · rw [hj2] at hu ⊢
        rw [g2] at hu
        rw [← Nat.add_assoc, h2, hu]
    obtain ⟨v', w', h1, h2, h4, _⟩ := run_append_own (P := Tryz.prog) w B 57 57 56 i3 (.agg #[.string ⟨#[]⟩, .string ⟨#[]⟩]) 2 32 Tryz.underlying57 h3 hz0 hz1 hz2 rfl (by decide) v n xs hown ad k c (cellsB L) (by rw [cellsB_length, hl]) hnews
      (cellsB_one L) (by unfold maxLen; omega) (by omega) hB
    exact ⟨v', w', h1, h2, h4⟩
theorem flat_long : ∀ l : List PairL, l.length ≤ (flatP l).length
  | [] => Nat.le_refl _
  | p :: l => by
    have := flat_long l
    have h : 0 < (recL p).length := List.length_pos_iff.2 (recL_ne p)
    rw [flatP, List.length_append, List.length_cons]
    omega
end Go.Proofs.YtdjmfkodjjjhfaaGreatDoor
/- Pax: plain: when a text begins with a record; a pair behind a row of the call's own. Written ahead of stage 18. -/
namespace Go.Proofs.YtdjmfkodjjjhfaaGreatDoor
open Go.RowKit

set_option maxRecDepth 100000 in
theorem take_place (b : UInt8) : ∀ s : List UInt8, s.take (placeL b s) = s.takeWhile (· != b)
  | [] => rfl
  | c :: s => by
    rw [placeL, List.takeWhile_cons]
    by_cases e : c = b
    · rw [if_pos e, if_neg (by simp [e])]
      rfl
    · rw [if_neg e, if_pos (by simpa using e), List.take_succ_cons, take_place b s]
theorem placeL_app (b : UInt8) : ∀ (a r : List UInt8), b ∉ a → placeL b (a ++ b :: r) = a.length
  | [], r, _ => by rw [List.nil_append, placeL, if_pos rfl]; rfl
  | c :: a, r, h => by
    have hc : c ≠ b := fun e => h (by rw [e]; exact List.mem_cons_self)
    rw [List.cons_append, placeL, if_neg hc, placeL_app b a r fun e => h (List.mem_cons_of_mem _ e)]
    rfl
theorem rec_num (p : PairL) (r : List UInt8) (h : p.1.length + p.2.length ≤ 999990) : decimalA ((recL p ++ r).take (placeL 32 (recL p ++ r))) = ((recL p).length, 0) := by
  rw [take_place, len_rec p r h, recL_length p h]
set_option maxRecDepth 100000 in
theorem place_rec (p : PairL) (hk : keyK p.1) : placeL 32 (recL p) = (decL (recN p)).length ∧ placeL 61 (recL p) = (decL (recN p)).length + 1 + p.1.length ∧ (recL p).length = (decL (recN p)).length + p.1.length + p.2.length + 3 ∧
    ((recL p).take ((decL (recN p)).length + 1 + p.1.length)).drop ((decL (recN p)).length + 1) = p.1 ∧ ((recL p).take ((recL p).length - 1)).drop ((decL (recN p)).length + 1 + p.1.length + 1) = p.2 := by
  have e1 : recL p = decL (recN p) ++ 32 :: (p.1 ++ 61 :: (p.2 ++ [10])) := rfl
  have e2 : recL p = (decL (recN p) ++ 32 :: p.1) ++ 61 :: (p.2 ++ [10]) := by rw [e1, List.append_assoc]; rfl
  have hl : (recL p).length = (decL (recN p)).length + p.1.length + p.2.length + 3 := by
    rw [e1]
    simp only [List.length_append, List.length_cons, List.length_nil]
    omega
  have e3 : recL p = ((decL (recN p) ++ [32]) ++ p.1) ++ (61 :: (p.2 ++ [10])) := by rw [e1]; simp
  have e4 : recL p = ((decL (recN p) ++ 32 :: p.1 ++ [61]) ++ p.2) ++ [10] := by rw [e1]; simp
  refine ⟨?_, ?_, hl, ?_, ?_⟩
  · rw [e1]
    exact placeL_app 32 _ _ (no_blank _)
  · rw [e2, placeL_app 61 _ _ (fun h => ?_)]
    · simp only [List.length_append, List.length_cons]
      omega
    · rcases List.mem_append.1 h with h | h
      · exact no_eq _ h
      · rcases List.mem_cons.1 h with h | h
        · exact absurd h (by decide)
        · exact hk.2 h
  · rw [e3, List.take_left' (by simp only [List.length_append, List.length_cons, List.length_nil] <;> omega), List.drop_left' (by simp)]
  · rw [hl]
    generalize hT : (decL (recN p)).length + p.1.length + p.2.length + 3 - 1 = T
    rw [e4, List.take_left' (by simp only [List.length_append, List.length_cons, List.length_nil] <;> omega), List.drop_left' (by simp only [List.length_append, List.length_cons, List.length_nil] <;> omega)]
theorem flat_stuck : ∀ (L l : List PairL) (R : List UInt8), keysK L → keysK l → shortP L → shortP l → flatP L ++ R = flatP l → ∃ l', l = L ++ l' ∧ R = flatP l'
  | [], l, R, _, _, _, _, h => ⟨l, rfl, h⟩
  | p :: L, [], R, _, _, _, _, h => by
    have h1 : recL p ++ (flatP L ++ R) = [] := by rw [← List.append_assoc]; exact h
    exact absurd (List.append_eq_nil_iff.1 h1).1 (recL_ne p)
  | p :: L, q :: l, R, hL, hl, sL, sl, h => by
    have h1 := read_rec p (flatP L ++ R) (hL p List.mem_cons_self) (sL p List.mem_cons_self)
    have h2 := read_rec q (flatP l) (hl q List.mem_cons_self) (sl q List.mem_cons_self)
    rw [show recL p ++ (flatP L ++ R) = recL q ++ flatP l from by rw [← List.append_assoc]; exact h, h2] at h1
    have e1 : q = p := congrArg Prod.fst h1
    have e2 : flatP l = flatP L ++ R := congrArg Prod.snd h1
    obtain ⟨l', h3, h4⟩ := flat_stuck L l R (fun x hx => hL x (List.mem_cons_of_mem _ hx)) (fun x hx => hl x (List.mem_cons_of_mem _ hx)) (fun x hx => sL x (List.mem_cons_of_mem _ hx)) (fun x hx => sl x (List.mem_cons_of_mem _ hx)) e2.symm
    exact ⟨l', by rw [e1, h3]; rfl, h4⟩
/-- A text that begins with no record. -/
def noRec (R : List UInt8) : Prop := R ≠ [] ∧ ∀ p r, keyK p.1 → R ≠ recL p ++ r
theorem stuck_none (L : List PairL) (R t : List UInt8) (hL : keysK L) (ht : t.length ≤ 200000) (h : flatP L ++ R = t) (hn : noRec R) : ∀ l, keysK l → flatP l ≠ t := by
  intro l hl e
  have h1 : (flatP L).length ≤ 999990 := by
    have := congrArg List.length h
    rw [List.length_append] at this
    omega
  obtain ⟨l', h3, h4⟩ := flat_stuck L l R hL hl (short_of_flat L h1) (short_of_flat l (by rw [e]; omega)) (by rw [h, e])
  cases l' with
  | nil => exact hn.1 h4
  | cons q l' =>
    refine hn.2 q (flatP l') (hl q ?_) h4
    rw [h3]
    exact List.mem_append_right _ List.mem_cons_self
/-- What a record's beginning tells, if there is one. -/
theorem rec_if {R : List UInt8} {p : PairL} {r : List UInt8} (hR : R.length ≤ 200000) (h : R = recL p ++ r) : (decimalA (R.take (placeL 32 R))).2 = 0 ∧ (decimalA (R.take (placeL 32 R))).1 ≤ R.length ∧ R.take (decimalA (R.take (placeL 32 R))).1 = recL p := by
  have hs : p.1.length + p.2.length ≤ 999990 := by
    have h1 := congrArg List.length h
    have h2 : (recL p).length = (decL (recN p)).length + (prestL p).length := List.length_append
    have h3 := prestL_length p
    rw [List.length_append] at h1
    omega
  have h1 := rec_num p r hs
  rw [← h] at h1
  rw [h1]
  refine ⟨rfl, ?_, ?_⟩
  · have := congrArg List.length h
    rw [List.length_append] at this
    show (recL p).length ≤ _
    omega
  · show R.take (recL p).length = _
    rw [h, List.take_left]
set_option maxRecDepth 100000 in
theorem pair_one (w : World) (B n c : Nat) (A : Option Addr) (L : List PairB) (h : w.ownsRow B 56 2 (.slice A n c) n (cellsB L)) (K V : ByteArray) (hn : n ≤ 500000) (hB : B ≤ w.heap.size) :
    ∃ g2 c2 w2, (Builtin.append_ #[57, 57] 57 #[.slice A n c, .slice (some ⟨w.heap.size, 0, none⟩) 1 1]).run Tryz.prog (w.alloc (.cells #[.string K, .string V] 56)) = .ok (.slice (some ⟨g2, 0, none⟩) (n + 1) c2) w2 ∧
      w2.ownsRow B 56 2 (.slice (some ⟨g2, 0, none⟩) (n + 1) c2) (n + 1) (cellsB (L ++ [(K, V)])) ∧ Below B w w2 := by
  have hk := blk_new w 56 #[.string K, .string V]
  have hi : PIn (w.alloc (.cells #[.string K, .string V] 56)) (some ⟨w.heap.size, 0, none⟩) 1 [(K, V)] := ⟨rfl, fun _ => ⟨w.heap.size, 0, rfl, fun i hi => by
    obtain rfl : i = 0 := by omega
    exact ⟨blk_cell hk 0, blk_cell hk 1⟩⟩⟩
  obtain ⟨v2, w2, hr, ho, hg⟩ := append_pairs (w.alloc (.cells #[.string K, .string V] 56)) B (.slice A n c) n (cellsB L) (h.alloc _) (some ⟨w.heap.size, 0, none⟩) 1 1 [(K, V)] hi (by omega) (by simp; omega)
  rw [← cellsB_append] at ho
  obtain ⟨A2, c2, rfl, hc, hm, hA⟩ := own_slice ho
  obtain ⟨g2, rfl⟩ := hA (by omega)
  exact ⟨g2, c2, w2, hr, ho, ((Below.refl B w).alloc hB _).grown hg (by simp; omega) fun k hk => (World.ownsRow.lt h k hk).1⟩
set_option maxRecDepth 100000 in
theorem pin_own {w : World} {B n c : Nat} {A : Option Addr} {L : List PairB} (h : w.ownsRow B 56 2 (.slice A n c) n (cellsB L)) : PIn w A n L := by
  obtain ⟨A0, c0, hv, hc, hm, hA⟩ := own_slice h
  injection hv with hv1 hv2 hv3
  subst hv1 hv3
  have hl := h.1
  rw [cellsB_length] at hl
  rcases Nat.eq_zero_or_pos n with h0 | h0
  · exact ⟨by omega, fun h => by omega⟩
  · obtain ⟨g, rfl⟩ := hA h0
    exact pin_of_own h
end Go.Proofs.YtdjmfkodjjjhfaaGreatDoor
