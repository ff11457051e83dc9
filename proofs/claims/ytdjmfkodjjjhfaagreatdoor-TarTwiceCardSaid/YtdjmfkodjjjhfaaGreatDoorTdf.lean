/- Tar: the law Back walked over what is asked of the code. Written ahead of stage 18, by tools/gen_tdf.py. -/
import Derived.Test.YtdjmfkodjjjhfaaGreatDoorTdd
namespace Go.Proofs.YtdjmfkodjjjhfaaGreatDoor
open Go.RowKit

/-- Have the first q files paths that may be? -/
def mayB (L : List PairB) (q : Nat) : Bool := (L.take q).all fun p => decide (checkL p.1.data.toList = 0)
set_option maxRecDepth 100000 in
theorem mayB_next (L : List PairB) (q : Nat) (hq : q < L.length) : mayB L (q + 1) = (mayB L q && decide (checkL (L.getD q noB).1.data.toList = 0)) := by
  unfold mayB
  rw [List.take_succ_eq_append_getElem hq, List.all_append, List.getD_eq_getElem?_getD, List.getElem?_eq_getElem hq]
  simp
theorem packE_all : ∀ L : List PairB, (∀ p, p ∈ L → p.2.size ≤ 262144) → packE (L.map toL) = if (L.all fun p => decide (checkL p.1.data.toList = 0)) = true then 0 else 140
  | [], _ => rfl
  | p :: L, h => by
    have h1 := h p (.head _)
    have h2 := packE_all L fun q hq => h q (.tail _ hq)
    have e2 : (toL p).2.length = p.2.size := rfl
    rw [List.map_cons, packE, List.all_cons, e2, if_neg (show ¬ 262144 < p.2.size by omega), h2]
    by_cases hc : checkL p.1.data.toList = 0
    · rw [decide_eq_true hc, Bool.true_and]
      exact if_neg (fun e => e hc)
    · rw [decide_eq_false hc, Bool.false_and]
      exact (if_pos hc).trans (if_neg Bool.false_ne_true).symm
theorem entry_yes {p d : List UInt8} (h : checkL p = 0) (hd : d.length ≤ 262144) : entryA p d = (entT p d, 0) := by
  unfold entryA
  rw [if_neg (fun e => e h), if_neg (by omega)]
theorem entry_no {p d : List UInt8} (h : checkL p ≠ 0) : entryA p d = ([], 140) := by
  unfold entryA
  rw [if_pos h]
set_option maxRecDepth 100000 in
theorem read_behind (K V B : ByteArray) (h : checkL K.data.toList = 0) (hd : V.size ≤ 262144) : readA (strF (entT K.data.toList V.data.toList) ++ B).data.toList = ((K.data.toList, V.data.toList), (strF (entT K.data.toList V.data.toList)).size, 0) := by
  have e : (strF (entT K.data.toList V.data.toList) ++ B).data.toList = entT K.data.toList V.data.toList ++ B.data.toList := by
    rw [ByteArray.data_append, Array.toList_append]
    rfl
  have ez : (strF (entT K.data.toList V.data.toList)).size = (entT K.data.toList V.data.toList).length := rfl
  rw [readA, e, read_entry _ _ h hd, ez]
  dsimp only
  rw [List.length_append, Nat.add_sub_cancel]
section
variable (R : TarDone)
include R
set_option maxHeartbeats 6400000 in
set_option maxRecDepth 100000 in
theorem back_law (w : World) (hT : Tabs w) (A : Option Addr) (n c : Nat) (L : List PairB) (hI : PIn w A n L) (hn : n ≤ maxLen) (hS : ∀ p, p ∈ L → p.1.size ≤ 140737488355328 ∧ p.2.size ≤ 140737488355328) (B : ByteArray) : Calls Tryz.prog 8 #[.slice A n c, .string B] w fun e w' => e = .returned (.bool true) ∧ Below w.heap.size w w' := by
  have HTB : Hid (∀ wx : World, Below w.heap.size w wx → Tabs wx) := Lib.hid fun wx hb => hT.below hb
  have HAW := Lib.hid (awake_tar R)
  have HLI := Lib.hid (lightE_any w A n c L hI hn fun p hp => ⟨by have := (hS p hp).1; omega, by have := (hS p hp).2; omega⟩)
  have HI := Lib.hid hI
  have HPK := Lib.hid fun (wx : World) (ht : Tabs wx) (hi : PIn wx A n L) (hl : lightT (L.map toL) 0 = true) => R.pack wx ht A n c L hi hl
  have HU := Lib.hid fun (wx : World) (ht : Tabs wx) (s : ByteArray) (h : s.size ≤ 262144) => R.unpack wx ht s (by omega) (.inl h)
  have HLE := Lib.hid (lightE_is L 0)
  have HSA := Lib.hid fun (wx : World) (A B : Option Addr) (n c m e : Nat) (L M : List PairB) (hI : PIn wx A n L) (hJ : PIn wx B m M) (hn : n ≤ maxLen) (hm : m ≤ maxLen) => rsameE_any wx A B n c m e L M hI hJ hn hm
  have HN := Lib.hid hn
  have HCK := Lib.hid R.check
  have HEN := Lib.hid fun (wx : World) (ht : Tabs wx) (p d : ByteArray) (hp : p.size ≤ 140737488355328) (hd : d.size ≤ 40000) => R.entry wx ht p d hp (by omega) (.inl hd)
  have HRE := Lib.hid R.read
  have guardb := guardE
  clear R hT hI hn hS
  obtain ⟨lb, hlb⟩ : ∃ b, b = lightE L 0 := ⟨_, rfl⟩
  rw [← hlb] at HLI HLE
  clear hlb
  cases lb
  · go_enter Tryz.func8, Tryz.ntmps8
    go_wp2_with fail
    refine HLI.out.mono ?_
    rintro e w1 ⟨rfl, hb1⟩
    have HB1 := Lib.hid hb1
    clear hb1
    go_wp2_with fail
    refine (HAW.out _ (HTB.out _ HB1.out)).mono ?_
    rintro e w2 ⟨rfl, hb2⟩
    have HB2 := Lib.hid (HB1.out.trans (hb2.mono HB1.out.size))
    clear hb2
    go_wp2_with fail
    go_ret
    exact ⟨rfl, HB2.out⟩
  by_cases hB : 5000 < B.size
  · have d1 : decide ((5000 : Int) < (B.size : Int)) = true := decide_eq_true (by omega)
    clear hB
    go_enter Tryz.func8, Tryz.ntmps8
    go_wp2_with fail
    refine HLI.out.mono ?_
    rintro e w1 ⟨rfl, hb1⟩
    have HB1 := Lib.hid hb1
    clear hb1
    go_wp2_with fail
    refine (HAW.out _ (HTB.out _ HB1.out)).mono ?_
    rintro e w2 ⟨rfl, hb2⟩
    have HB2 := Lib.hid (HB1.out.trans (hb2.mono HB1.out.size))
    clear hb2
    go_wp2_with fail
    go_ret
    exact ⟨rfl, HB2.out⟩
  have d1 : decide ((5000 : Int) < (B.size : Int)) = false := decide_eq_false (by omega)
  have hLn := HI.out.1
  obtain ⟨hn40, hsz⟩ := light_facts HI.out HLE.out.symm
  have HSZ : Hid (∀ q, q < n → (L.getD q noB).1.size ≤ 40000 ∧ (L.getD q noB).2.size ≤ 40000) := Lib.hid fun q hq => hsz _ (mem_getD L q (by omega))
  have HNX : Hid (∀ q, q < n → mayB L (q + 1) = (mayB L q && decide (checkL (L.getD q noB).1.data.toList = 0))) := Lib.hid fun q hq => mayB_next L q (by omega)
  have hall : packE (L.map toL) = if mayB L n = true then 0 else 140 := by
    rw [packE_all L fun p hp => by have := (hsz p hp).2; omega]
    unfold mayB
    rw [← hLn, List.take_length]
  have HYES : Hid (mayB L n = true → packA (L.map toL) = (flatT (L.map toL) ++ List.replicate 1024 0, 0) ∧ (∀ x, x ∈ L.map toL → checkL x.1 = 0 ∧ x.2.length ≤ 262144)) := Lib.hid fun h => by
    rw [if_pos h] at hall
    exact ⟨by rw [packA, if_neg (fun e => e hall)], (packE_ok _).1 hall⟩
  have HNO : Hid (mayB L n = false → packA (L.map toL) = ([], 140)) := Lib.hid fun h => by
    rw [h, if_neg (by decide)] at hall
    rw [packA, hall, if_pos (by decide)]
  have HFL : Hid ((∀ x, x ∈ L.map toL → checkL x.1 = 0 ∧ x.2.length ≤ 262144) → (flatT (L.map toL)).length ≤ 200000) := Lib.hid fun h => by
    have := light_flatT _ 0 HLE.out.symm (by omega) h
    omega
  obtain ⟨pa, hpa⟩ : ∃ x, x = packA (L.map toL) := ⟨_, rfl⟩
  obtain ⟨Sl, k0⟩ := pa
  rw [← hpa] at HPK HYES HNO
  dsimp only at HPK
  obtain ⟨S, hSd⟩ : ∃ x, x = strF Sl := ⟨_, rfl⟩
  rw [← hSd] at HPK
  have HSd := Lib.hid hSd
  have HBZ : Hid (B.size ≤ 5000) := Lib.hid (by omega)
  clear hpa hall hsz hSd hB
  go_enter Tryz.func8, Tryz.ntmps8
  go_wp2_with fail
  refine HLI.out.mono ?_
  rintro e w1 ⟨rfl, hb1⟩
  have HB1 := Lib.hid hb1
  clear hb1
  go_wp2_with fail
  refine (HPK.out _ (HTB.out _ HB1.out) (HI.out.below HB1.out) HLE.out.symm).mono ?_
  rintro e w2 ⟨rfl, hb2⟩
  have HB2 := Lib.hid (HB1.out.trans (hb2.mono HB1.out.size))
  clear hb2 HPK HLI
  go_wp2_with fail
  go_loopw [7, 8] (fun sm si wx => ∃ q : Nat, sm = .bool (mayB L q) ∧ si = .int .i64 q ∧ q ≤ n ∧ Below w.heap.size w wx) (fun _ si _ => n - (intOf si).toNat)
  case atStart => exact ⟨0, rfl, rfl, Nat.zero_le _, HB2.out⟩
  case round =>
    obtain ⟨q, rfl, rfl, hqn, hbx⟩ := hrel
    rename World => w3
    have HBX := Lib.hid hbx
    by_cases e : q < n
    · have d2 : decide ((q : Int) < (n : Int)) = true := decide_eq_true (by omega)
      have HIX := Lib.hid (HI.out.below hbx)
      obtain ⟨b, off, hA, hc⟩ := HIX.out.2 (by omega)
      obtain ⟨c1, c2⟩ := hc q e
      obtain ⟨hz1, hz2⟩ := HSZ.out q e
      have hnx := HNX.out q e
      generalize (L.getD q noB).1 = K at *
      generalize (L.getD q noB).2 = V at *
      have C1 := Lib.hid (HCK.out w3 K hz1)
      obtain ⟨ck, hck⟩ : ∃ k, k = checkL K.data.toList := ⟨_, rfl⟩
      rw [← hck] at C1
      have C2 := Lib.hid fun (wx : World) (ht : Tabs wx) => HEN.out wx ht K V (by omega) hz2
      have HX := Lib.hid fun (wx : World) (hb : Below w3.heap.size w3 wx) => (show wx.cell? ⟨b, off + q * 2, none⟩ = some (.string K) ∧ wx.cell? ⟨b, off + q * 2 + 1, none⟩ = some (.string V) from ⟨(hb.cell (p := ⟨b, _, none⟩) (World.block_lt_of_cell? w3 _ c1)).trans c1, (hb.cell (p := ⟨b, _, none⟩) (World.block_lt_of_cell? w3 _ c2)).trans c2⟩)
      obtain ⟨mb, hmb⟩ : ∃ x, x = mayB L q := ⟨_, rfl⟩
      rw [← hmb] at hnx ⊢
      clear hmb
      subst hA
      clear hc hbx
      by_cases ec : checkL K.data.toList = 0
      · have hent := entry_yes (p := K.data.toList) (d := V.data.toList) ec (by show V.size ≤ _; omega)
        have hrd := read_behind K V B ec (by omega)
        have hmod := ent_mod K.data.toList V.data.toList ec (by show V.size ≤ _; omega)
        have hvz : V.data.toList.length = V.size := rfl
        rw [hent] at C2
        dsimp only at C2
        obtain ⟨T, hT⟩ : ∃ x, x = strF (entT K.data.toList V.data.toList) := ⟨_, rfl⟩
        have hTz : T.size = (entT K.data.toList V.data.toList).length := by rw [hT]; rfl
        rw [← hT] at C2 hrd
        have C3 := Lib.hid fun (wx : World) (ht : Tabs wx) => HRE.out wx ht (T ++ B) (by rw [ByteArray.size_append]; have := HBZ.out; omega)
        rw [hrd] at C3
        dsimp only at C3
        rw [show strF K.data.toList = K from rfl, show strF V.data.toList = V from rfl] at C3
        have d3 : ((ck : Int) == (0 : Int)) = true := by rw [hck, ec]; rfl
        rw [decide_eq_true ec, Bool.and_true] at hnx
        have m1 : Int.tmod (T.size : Int) 512 = 0 := (Int.tmod_eq_emod_of_nonneg (by omega)).trans (by omega)
        have m2 : ((T.size : Int) != (T.size : Int)) = false := bne_self_eq_false _
        have m3 : (K.toList == K.toList) = true := beq_self_eq_true _
        have m4 : (V.toList == V.toList) = true := beq_self_eq_true _
        have m5 : IntKind.i64.wrap 0 = 0 := by decide
        have htz : T.size ≤ 43000 := by omega
        have hbz := HBZ.out
        clear hent hrd hmod hvz hTz hT ec hck hz1 hz2
        cases mb
        · have HM := Lib.hid hnx
          clear hnx
          obtain ⟨w4, hw4⟩ : ∃ x, x = w3 := ⟨_, rfl⟩
          have HC4 := Lib.hid (Below.refl w3.heap.size w3)
          have HB4 := Lib.hid HBX.out
          rw [← hw4] at c1 c2 ⊢
          have HC4 : Hid (Below w3.heap.size w3 w4) := Lib.hid (by rw [hw4]; exact Below.refl _ _)
          have HB4 : Hid (Below w.heap.size w w4) := Lib.hid (by rw [hw4]; exact HBX.out)
          clear hw4
          go_wp2_with fail
          refine (C2.out _ (HTB.out _ HB4.out)).mono ?_
          rintro e w5 ⟨rfl, hb5⟩
          have HC5 := Lib.hid (HC4.out.trans (hb5.mono HC4.out.size))
          have HB5 := Lib.hid (HB4.out.trans (hb5.mono HB4.out.size))
          clear hb5
          go_wp2_with fail
          refine (C3.out _ (HTB.out _ HB5.out)).mono ?_
          rintro e w6 ⟨rfl, hb6⟩
          have hc6 := HC5.out.trans (hb6.mono HC5.out.size)
          have hb6' := HB5.out.trans (hb6.mono HB5.out.size)
          have HK7 := Lib.hid (blk_new w6 23 #[.string K, .string V])
          have HB7 : Hid (Below w.heap.size w (w6.alloc (.cells #[.string K, .string V] 23))) := Lib.hid (hb6'.alloc hb6'.size _)
          have HC7 : Hid (Below w3.heap.size w3 (w6.alloc (.cells #[.string K, .string V] 23))) := Lib.hid (hc6.alloc hc6.size _)
          clear hb6 hc6 hb6'
          go_upto_region 11 with fail
          generalize w6.alloc (.cells #[.string K, .string V] 23) = w7 at *
          generalize w6.heap.size = a1 at *
          have q0 : w7.cell? ⟨a1, 0, none⟩ = some (.string K) := blk_cell HK7.out 0
          have q1 : w7.cell? ⟨a1, 1, none⟩ = some (.string V) := blk_cell HK7.out 1
          obtain ⟨q2, q3⟩ := HX.out _ HC7.out
          clear HK7
          go_wp2_with fail
          go_quiet (fail)
          go_wp2_with fail
          go_roundw
          case rel => exact ⟨q + 1, by rw [HM.out], by go_num, by omega, below_drewN HB7.out _⟩
          case measure => simp [intOf]; omega
        · have HM := Lib.hid hnx
          clear hnx
          go_wp2_with fail
          refine C1.out.mono ?_
          rintro e w4 ⟨rfl, hb4⟩
          have HC4 := Lib.hid hb4
          have HB4 := Lib.hid (HBX.out.trans (hb4.mono HBX.out.size))
          obtain ⟨c3, c4⟩ := HX.out _ hb4
          clear hb4 c1 c2
          go_wp2_with fail
          refine (C2.out _ (HTB.out _ HB4.out)).mono ?_
          rintro e w5 ⟨rfl, hb5⟩
          have HC5 := Lib.hid (HC4.out.trans (hb5.mono HC4.out.size))
          have HB5 := Lib.hid (HB4.out.trans (hb5.mono HB4.out.size))
          clear hb5
          go_wp2_with fail
          refine (C3.out _ (HTB.out _ HB5.out)).mono ?_
          rintro e w6 ⟨rfl, hb6⟩
          have hc6 := HC5.out.trans (hb6.mono HC5.out.size)
          have hb6' := HB5.out.trans (hb6.mono HB5.out.size)
          have HK7 := Lib.hid (blk_new w6 23 #[.string K, .string V])
          have HB7 : Hid (Below w.heap.size w (w6.alloc (.cells #[.string K, .string V] 23))) := Lib.hid (hb6'.alloc hb6'.size _)
          have HC7 : Hid (Below w3.heap.size w3 (w6.alloc (.cells #[.string K, .string V] 23))) := Lib.hid (hc6.alloc hc6.size _)
          clear hb6 hc6 hb6'
          go_upto_region 11 with fail
          generalize w6.alloc (.cells #[.string K, .string V] 23) = w7 at *
          generalize w6.heap.size = a1 at *
          have q0 : w7.cell? ⟨a1, 0, none⟩ = some (.string K) := blk_cell HK7.out 0
          have q1 : w7.cell? ⟨a1, 1, none⟩ = some (.string V) := blk_cell HK7.out 1
          obtain ⟨q2, q3⟩ := HX.out _ HC7.out
          clear HK7
          go_wp2_with fail
          go_quiet (fail)
          go_wp2_with fail
          go_roundw
          case rel => exact ⟨q + 1, by rw [HM.out], by go_num, by omega, below_drewN HB7.out _⟩
          case measure => simp [intOf]; omega
      · have hent := entry_no (p := K.data.toList) (d := V.data.toList) ec
        rw [hent] at C2
        dsimp only at C2
        obtain ⟨T, hT⟩ : ∃ x, x = strF ([] : List UInt8) := ⟨_, rfl⟩
        have hTz : T.size = 0 := by rw [hT]; rfl
        rw [← hT] at C2
        have C3 := Lib.hid fun (wx : World) (ht : Tabs wx) => HRE.out wx ht (T ++ B) (by rw [ByteArray.size_append]; have := HBZ.out; omega)
        obtain ⟨ra, hra⟩ : ∃ x, x = readA (T ++ B).data.toList := ⟨_, rfl⟩
        obtain ⟨⟨p, d⟩, n2, k2⟩ := ra
        rw [← hra] at C3
        dsimp only at C3
        generalize strF p = P at *
        generalize strF d = D at *
        have d3 : ((ck : Int) == (0 : Int)) = false := beq_eq_false_iff_ne.2 (by omega)
        rw [decide_eq_false ec, Bool.and_false] at hnx
        have htz : T.size ≤ 43000 := by omega
        have hbz := HBZ.out
        clear hent hTz hT ec hck hra hz1 hz2
        cases mb
        · have HM := Lib.hid hnx
          clear hnx
          obtain ⟨w4, hw4⟩ : ∃ x, x = w3 := ⟨_, rfl⟩
          have HC4 := Lib.hid (Below.refl w3.heap.size w3)
          have HB4 := Lib.hid HBX.out
          rw [← hw4] at c1 c2 ⊢
          have HC4 : Hid (Below w3.heap.size w3 w4) := Lib.hid (by rw [hw4]; exact Below.refl _ _)
          have HB4 : Hid (Below w.heap.size w w4) := Lib.hid (by rw [hw4]; exact HBX.out)
          clear hw4
          go_wp2_with fail
          refine (C2.out _ (HTB.out _ HB4.out)).mono ?_
          rintro e w5 ⟨rfl, hb5⟩
          have HC5 := Lib.hid (HC4.out.trans (hb5.mono HC4.out.size))
          have HB5 := Lib.hid (HB4.out.trans (hb5.mono HB4.out.size))
          clear hb5
          go_wp2_with fail
          refine (C3.out _ (HTB.out _ HB5.out)).mono ?_
          rintro e w6 ⟨rfl, hb6⟩
          have hc6 := HC5.out.trans (hb6.mono HC5.out.size)
          have hb6' := HB5.out.trans (hb6.mono HB5.out.size)
          have HK7 := Lib.hid (blk_new w6 23 #[.string P, .string D])
          have HB7 : Hid (Below w.heap.size w (w6.alloc (.cells #[.string P, .string D] 23))) := Lib.hid (hb6'.alloc hb6'.size _)
          have HC7 : Hid (Below w3.heap.size w3 (w6.alloc (.cells #[.string P, .string D] 23))) := Lib.hid (hc6.alloc hc6.size _)
          clear hb6 hc6 hb6'
          go_upto_region 11 with fail
          generalize w6.alloc (.cells #[.string P, .string D] 23) = w7 at *
          generalize w6.heap.size = a1 at *
          have q0 : w7.cell? ⟨a1, 0, none⟩ = some (.string P) := blk_cell HK7.out 0
          have q1 : w7.cell? ⟨a1, 1, none⟩ = some (.string D) := blk_cell HK7.out 1
          obtain ⟨q2, q3⟩ := HX.out _ HC7.out
          clear HK7
          go_wp2_with fail
          go_quiet (fail)
          go_wp2_with fail
          go_roundw
          case rel => exact ⟨q + 1, by rw [HM.out], by go_num, by omega, below_drewN HB7.out _⟩
          case measure => simp [intOf]; omega
        · have HM := Lib.hid hnx
          clear hnx
          go_wp2_with fail
          refine C1.out.mono ?_
          rintro e w4 ⟨rfl, hb4⟩
          have HC4 := Lib.hid hb4
          have HB4 := Lib.hid (HBX.out.trans (hb4.mono HBX.out.size))
          obtain ⟨c3, c4⟩ := HX.out _ hb4
          clear hb4 c1 c2
          go_wp2_with fail
          refine (C2.out _ (HTB.out _ HB4.out)).mono ?_
          rintro e w5 ⟨rfl, hb5⟩
          have HC5 := Lib.hid (HC4.out.trans (hb5.mono HC4.out.size))
          have HB5 := Lib.hid (HB4.out.trans (hb5.mono HB4.out.size))
          clear hb5
          go_wp2_with fail
          refine (C3.out _ (HTB.out _ HB5.out)).mono ?_
          rintro e w6 ⟨rfl, hb6⟩
          have hc6 := HC5.out.trans (hb6.mono HC5.out.size)
          have hb6' := HB5.out.trans (hb6.mono HB5.out.size)
          have HK7 := Lib.hid (blk_new w6 23 #[.string P, .string D])
          have HB7 : Hid (Below w.heap.size w (w6.alloc (.cells #[.string P, .string D] 23))) := Lib.hid (hb6'.alloc hb6'.size _)
          have HC7 : Hid (Below w3.heap.size w3 (w6.alloc (.cells #[.string P, .string D] 23))) := Lib.hid (hc6.alloc hc6.size _)
          clear hb6 hc6 hb6'
          go_upto_region 11 with fail
          generalize w6.alloc (.cells #[.string P, .string D] 23) = w7 at *
          generalize w6.heap.size = a1 at *
          have q0 : w7.cell? ⟨a1, 0, none⟩ = some (.string P) := blk_cell HK7.out 0
          have q1 : w7.cell? ⟨a1, 1, none⟩ = some (.string D) := blk_cell HK7.out 1
          obtain ⟨q2, q3⟩ := HX.out _ HC7.out
          clear HK7
          go_wp2_with fail
          go_quiet (fail)
          go_wp2_with fail
          go_roundw
          case rel => exact ⟨q + 1, by rw [HM.out], by go_num, by omega, below_drewN HB7.out _⟩
          case measure => simp [intOf]; omega
    · obtain rfl : q = n := by omega
      have d2 : decide ((q : Int) < (q : Int)) = false := decide_eq_false (by omega)
      have HIX := Lib.hid (HI.out.below hbx)
      obtain ⟨mb, hmb⟩ : ∃ x, x = mayB L q := ⟨_, rfl⟩
      rw [← hmb] at HYES HNO ⊢
      clear hbx hmb
      cases mb
      · have hno := HNO.out rfl
        obtain rfl : k0 = 140 := congrArg Prod.snd hno
        obtain rfl : S = ⟨#[]⟩ := HSd.out.trans (congrArg (fun x => strF x.1) hno)
        clear hno HYES HNO HSd
        go_wp2_with fail
        refine (HAW.out _ (HTB.out _ HBX.out)).mono ?_
        rintro e w4 ⟨rfl, hb4⟩
        have HB4 := Lib.hid (HBX.out.trans (hb4.mono HBX.out.size))
        clear hb4
        go_wp2_with fail
        go_ret
        exact ⟨rfl, HB4.out⟩
      · obtain ⟨hyes, hx⟩ := HYES.out rfl
        obtain rfl : k0 = 0 := congrArg Prod.snd hyes
        have hSl : Sl = flatT (L.map toL) ++ List.replicate 1024 0 := congrArg Prod.fst hyes
        have hfl := HFL.out hx
        have hfm := flat_mod _ hx
        have hSz : S.size = (flatT (L.map toL)).length + 1024 := by
          rw [HSd.out, hSl]
          show (flatT (L.map toL) ++ List.replicate 1024 0).length = _
          rw [List.length_append, List.length_replicate]
        have hll : (L.map toL).length = q := by rw [List.length_map]; exact hLn
        have hSB : (S ++ B).data.toList = flatT (L.map toL) ++ (List.replicate 1024 0 ++ B.data.toList) := by
          rw [HSd.out, ByteArray.data_append, Array.toList_append, ← List.append_assoc, ← hSl]
          rfl
        have hSBz : (S ++ B).size ≤ 262144 := by rw [ByteArray.size_append]; have := HBZ.out; omega
        have hSBl : (S ++ B).data.toList.length = (S ++ B).size := rfl
        have hSBm : q < (S ++ B).size + 1 := by rw [ByteArray.size_append]; omega
        have HA : Hid (unpackA (S ++ B).data.toList = (L.map toL, 0)) := Lib.hid (by
          rw [unpackA, if_neg (by omega), hSBl, hSB, unpack_pack _ _ _ hx (by omega)])
        have C1 := Lib.hid fun (wx : World) (ht : Tabs wx) => HU.out wx ht (S ++ B) hSBz
        have m1 : Int.tmod (S.size : Int) 512 = 0 := (Int.tmod_eq_emod_of_nonneg (by omega)).trans (by omega)
        have m5 : IntKind.i64.wrap 0 = 0 := by decide
        have hsz : S.size ≤ 250000 := by omega
        have hbz := HBZ.out
        clear hyes hx hSl hfl hfm hSz hll hSB hSBz hSBl hSBm HYES HNO HSd
        go_wp2_with fail
        refine (C1.out _ (HTB.out _ HBX.out)).mono ?_
        rintro e w4 ⟨A3, n3, c3, M3, k3, rfl, hu, hn3, hI3, hb4⟩
        rw [HA.out] at hu
        obtain rfl : M3 = L := toL_injE _ _ (congrArg Prod.fst hu).symm
        obtain rfl : 0 = k3 := congrArg Prod.snd hu
        have HB4 := Lib.hid (HBX.out.trans (hb4.mono HBX.out.size))
        have C4 := Lib.hid (HSA.out w4 A3 A n3 c3 q c M3 M3 hI3 (HI.out.below HB4.out) hn3 HN.out)
        rw [decide_eq_true rfl] at C4
        clear hu hn3 hI3 hb4
        go_wp2_with fail
        refine C4.out.mono ?_
        rintro e w5 ⟨rfl, hb5⟩
        have HB5 := Lib.hid (HB4.out.trans (hb5.mono HB4.out.size))
        clear hb5
        go_wp2_with fail
        refine (HAW.out _ (HTB.out _ HB5.out)).mono ?_
        rintro e w6 ⟨rfl, hb6⟩
        have HB6 := Lib.hid (HB5.out.trans (hb6.mono HB5.out.size))
        clear hb6
        go_wp2_with fail
        go_ret
        exact ⟨rfl, HB6.out⟩
end
end Go.Proofs.YtdjmfkodjjjhfaaGreatDoor
