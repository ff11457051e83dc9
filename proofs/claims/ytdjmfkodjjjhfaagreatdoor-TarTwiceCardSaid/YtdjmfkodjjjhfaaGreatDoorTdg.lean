/- Tar: the law Twice walked over what is asked of the code. Written ahead of stage 18. -/
import Derived.Test.YtdjmfkodjjjhfaaGreatDoorTdd
import Derived.Deep.DeepCutAuto
import Derived.ChangeMaps5
import Derived.Deep.SlicePairs
import Derived.SizedLaws
import Derived.Laws.IdiomArrays
import Derived.Test.YtdjmfkodjjjhfaaGreatDoorSa
import Derived.ProofKit
import Derived.OpenShut
import Derived.Carry
namespace Go.Proofs.YtdjmfkodjjjhfaaGreatDoor
open Go.RowKit

/-- An append whose run is known, behind a guard. -/
theorem append_guard {P : Program} (w : World) {ops : Array Oper} {rest : List Oper} {o : Oper} {a : Act} {Q : Exit → Act → World → Prop} (hw : Region.wanted o (yielded ops a.tmps) = true) (s x : Operand) (t tn : TypeId)
    (ho : o.op = .call { callee := .builtin .append, args := #[s, x], argTypes := #[t, tn] }) (vs vx : Value) (hs : a.eval s = vs) (hx : a.eval x = vx)
    (v' : Value) (w' : World) (hr : (Builtin.append_ #[t, tn] o.type #[vs, vx]).run P w = .ok v' w') (h : wpList P ops Q rest (a.put o.dst v') w') : wpList P ops Q (o :: rest) a w :=
  wpList_step fun K hK => by
    rw [if_pos hw]
    exact Lib.wp_append_run w s x t tn ho vs vx hs hx v' w' hr (hK _ _ h)
theorem getD_at (L : List PairB) (q : Nat) (hq : q < L.length) : L.getD q noB = L[q] := by
  rw [List.getD_eq_getElem?_getD, List.getElem?_eq_getElem hq]
  rfl
theorem rise_at {M : List PairB} (h : riseT (M.map toL)) (p : Nat) (hp : p + 1 < M.length) : cmpL (M.getD p noB).1.data.toList (M.getD (p + 1) noB).1.data.toList = -1 := by
  have h2 := List.pairwise_iff_getElem.1 (List.pairwise_map.1 h) p (p + 1) (by omega) hp (by omega)
  rw [getD_at M p (by omega), getD_at M (p + 1) hp]
  exact h2
theorem inF_append (x y : FileL) : ∀ (l : List FileL) (b : Bool), inF x (l ++ [y]) b = if y.1 = x.1 then decide (y = x) else inF x l b
  | [], _ => rfl
  | z :: l, b => by rw [List.cons_append, inF, inF_append x y l, inF]
theorem inF_next (X : PairB) (L : List PairB) (k : Nat) (hk : k < L.length) : inF (toL X) ((L.take (k + 1)).map toL) false = if (L.getD k noB).1 = X.1 then decide ((L.getD k noB).2 = X.2) else inF (toL X) ((L.take k).map toL) false := by
  rw [List.take_succ_eq_append_getElem hk, List.map_append, List.map_singleton, inF_append, getD_at L k hk]
  obtain ⟨x1, x2⟩ := X
  generalize L[k] = Y
  obtain ⟨y1, y2⟩ := Y
  have e1 : (toL (y1, y2)).1 = (toL (x1, x2)).1 ↔ y1 = x1 := ⟨fun h => ByteArray.ext (Array.toList_inj.1 h), fun h => by rw [h]; rfl⟩
  have e2 : (toL (y1, y2)).2 = (toL (x1, x2)).2 ↔ y2 = x2 := ⟨fun h => ByteArray.ext (Array.toList_inj.1 h), fun h => by rw [h]; rfl⟩
  by_cases h : y1 = x1
  · rw [if_pos (e1.2 h), if_pos h, decide_eq_decide]
    exact ⟨fun h2 => e2.1 (congrArg Prod.snd h2), fun h2 => Prod.ext (e1.2 h) (e2.2 h2)⟩
  · rw [if_neg fun h2 => h (e1.1 h2), if_neg h]
/-- Does a file of L stand at this path? -/
def hasB (X : ByteArray) (L : List PairB) : Bool := L.any fun y => decide (y.1 = X)
set_option maxRecDepth 100000 in
theorem hasB_next (X : ByteArray) (L : List PairB) (k : Nat) (hk : k < L.length) : hasB X (L.take (k + 1)) = (hasB X (L.take k) || decide ((L.getD k noB).1 = X)) := by
  unfold hasB
  rw [List.take_succ_eq_append_getElem hk, List.any_append, getD_at L k hk]
  simp
/-- Have all of the first files a path of L? -/
def allB (L M : List PairB) : Bool := M.all fun x => hasB x.1 L
set_option maxRecDepth 100000 in
theorem allB_next (L M : List PairB) (p : Nat) (hp : p < M.length) : allB L (M.take (p + 1)) = (allB L (M.take p) && hasB (M.getD p noB).1 L) := by
  unfold allB
  rw [List.take_succ_eq_append_getElem hp, List.all_append, getD_at M p hp]
  simp
theorem allB_lasts {L M : List PairB} (h : allB L M = true) : lastsT ((M ++ L).map toL) = lastsT (L.map toL) := by
  rw [List.map_append]
  refine lasts_more _ _ fun x hx => ?_
  obtain ⟨p, hp, rfl⟩ := List.mem_map.1 hx
  have h1 := List.all_eq_true.1 h p hp
  obtain ⟨y, hy, he⟩ := List.any_eq_true.1 h1
  exact ⟨toL y, List.mem_map.2 ⟨y, hy, rfl⟩, by rw [toL, toL, of_decide_eq_true he]⟩
/-- What Last tells of files is among them. -/
theorem last_mem {L M : List PairB} (h : M.map toL = lastsT (L.map toL)) {P : PairB → Prop} (hP : ∀ p, p ∈ L → P p) : ∀ p, p ∈ M → P p := fun p hp => by
  have h1 : toL p ∈ M.map toL := List.mem_map.2 ⟨p, hp, rfl⟩
  rw [h] at h1
  obtain ⟨r, hr, he⟩ := List.mem_map.1 (lasts_mem h1)
  have e1 : r.1.data.toList = p.1.data.toList := congrArg Prod.fst he
  have e2 : r.2.data.toList = p.2.data.toList := congrArg Prod.snd he
  have : r = p := Prod.ext (ByteArray.ext (Array.toList_inj.1 e1)) (ByteArray.ext (Array.toList_inj.1 e2))
  rw [← this]
  exact hP r hr
section
variable (R : TarDone)
include R
set_option maxHeartbeats 12800000 in
set_option maxRecDepth 100000 in
theorem twice_law (w : World) (hT : Tabs w) (A : Option Addr) (n c : Nat) (L : List PairB) (hI : PIn w A n L) (hn : n ≤ maxLen) (hS : ∀ p, p ∈ L → p.1.size ≤ 140737488355328 ∧ p.2.size ≤ 140737488355328) (B : Option Addr) (m d : Nat) (M : List PairB) (hJ : PIn w B m M) (hm : m ≤ maxLen) (hS2 : ∀ p, p ∈ M → p.1.size ≤ 140737488355328 ∧ p.2.size ≤ 140737488355328) :
    Calls Tryz.prog 10 #[.slice A n c, .slice B m d] w fun e w' => e = .returned (.bool true) ∧ Below w.heap.size w w' := by
  have HTB : Hid (∀ wx : World, Below w.heap.size w wx → Tabs wx) := Lib.hid fun wx hb => hT.below hb
  have HAW := Lib.hid (awake_tar R)
  have HL1 := Lib.hid (lightE_any w A n c L hI hn fun p hp => ⟨by have := (hS p hp).1; omega, by have := (hS p hp).2; omega⟩)
  have HL2 := Lib.hid fun (wx : World) (hj : PIn wx B m M) => (lightE_any wx B m d M hj hm fun p hp => ⟨by have := (hS2 p hp).1; omega, by have := (hS2 p hp).2; omega⟩)
  have HI := Lib.hid hI
  have HJ := Lib.hid hJ
  have HLA := Lib.hid R.last
  have HCM := Lib.hid R.cmp
  have HE1 := Lib.hid (lightE_is L 0)
  have HE2 := Lib.hid (lightE_is M 0)
  have HSA := Lib.hid fun (wx : World) (A B : Option Addr) (n c m e : Nat) (L M : List PairB) (hI : PIn wx A n L) (hJ : PIn wx B m M) (hn : n ≤ maxLen) (hm : m ≤ maxLen) => rsameE_any wx A B n c m e L M hI hJ hn hm
  have guardb := guardE
  clear R hT hI hn hS hJ hm hS2
  obtain ⟨lb, hlb⟩ : ∃ b, b = lightE L 0 := ⟨_, rfl⟩
  rw [← hlb] at HL1 HE1
  obtain ⟨mb, hmb⟩ : ∃ b, b = lightE M 0 := ⟨_, rfl⟩
  rw [← hmb] at HL2 HE2
  clear hlb hmb
  cases lb
  · go_enter Tryz.func10, Tryz.ntmps10
    go_wp2_with fail
    refine HL1.out.mono ?_
    rintro e w1 ⟨rfl, hb1⟩
    have HB1 := Lib.hid hb1
    clear hb1
    go_wp2_with fail
    refine (HAW.out _ (HTB.out _ HB1.out)).mono ?_
    rintro e w2 ⟨rfl, hb2⟩
    have HB2 := Lib.hid (HB1.out.trans (hb2.mono HB1.out.size))
    clear hb2
    go_wp2_with fail
    go_ret
    exact ⟨rfl, HB2.out⟩
  cases mb
  · go_enter Tryz.func10, Tryz.ntmps10
    go_wp2_with fail
    refine HL1.out.mono ?_
    rintro e w1 ⟨rfl, hb1⟩
    have HB1 := Lib.hid hb1
    clear hb1
    go_wp2_with fail
    refine (HL2.out _ (HJ.out.below HB1.out)).mono ?_
    rintro e w2 ⟨rfl, hb2⟩
    have HB2 := Lib.hid (HB1.out.trans (hb2.mono HB1.out.size))
    clear hb2
    go_wp2_with fail
    refine (HAW.out _ (HTB.out _ HB2.out)).mono ?_
    rintro e w3 ⟨rfl, hb3⟩
    have HB3 := Lib.hid (HB2.out.trans (hb3.mono HB2.out.size))
    clear hb3
    go_wp2_with fail
    go_ret
    exact ⟨rfl, HB3.out⟩
  obtain ⟨hn40, hsz⟩ := light_facts HI.out HE1.out.symm
  obtain ⟨hm40, hsz2⟩ := light_facts HJ.out HE2.out.symm
  have HSZ := Lib.hid hsz
  have HSZ2 := Lib.hid hsz2
  have HLn := Lib.hid HI.out.1
  have HMm := Lib.hid HJ.out.1
  clear hsz hsz2
  go_enter Tryz.func10, Tryz.ntmps10
  go_wp2_with fail
  refine HL1.out.mono ?_
  rintro e w1 ⟨rfl, hb1⟩
  have HB1 := Lib.hid hb1
  clear hb1
  go_wp2_with fail
  refine (HL2.out _ (HJ.out.below HB1.out)).mono ?_
  rintro e w2 ⟨rfl, hb2⟩
  have HB2 := Lib.hid (HB1.out.trans (hb2.mono HB1.out.size))
  clear hb2 HL1 HL2
  go_wp2_with fail
  refine (HLA.out w2 A n c L (HI.out.below HB2.out) (by omega) HSZ.out).mono ?_
  rintro e w3 ⟨A3, n3, c3, M3, rfl, hM3, hI3, hn3, hb3⟩
  have HB3 := Lib.hid (HB2.out.trans (hb3.mono HB2.out.size))
  have HI3 := Lib.hid hI3
  have HM3 := Lib.hid hM3
  have HR3 : Hid (riseT (M3.map toL)) := Lib.hid (by rw [hM3]; exact (lasts_is _).1)
  have HZ3 : Hid (∀ p, p ∈ M3 → p.1.size ≤ 40000 ∧ p.2.size ≤ 40000) := Lib.hid (last_mem hM3 HSZ.out)
  have HX3 : Hid (∀ x, x ∈ M3 → inF (toL x) (L.map toL) false = true) := Lib.hid fun x hx => lasts_in _ _ (by rw [← hM3]; exact List.mem_map.2 ⟨x, hx, rfl⟩) false
  have HN3 := Lib.hid hI3.1
  have hn340 : n3 ≤ 40 := by
    have h1 := lasts_len_le (L.map toL) n
    rw [List.take_of_length_le (by rw [List.length_map, HLn.out]; exact Nat.le_refl _), ← hM3, List.length_map, hI3.1] at h1
    omega
  clear hM3 hI3 hn3 hb3
  go_wp2_with fail
  go_loopw [6] (fun si wx => ∃ q : Nat, si = .int .i64 q ∧ q ≤ n3 ∧ Below w3.heap.size w3 wx) (fun si _ => n3 - (intOf si).toNat)
  case atStart => exact ⟨0, rfl, Nat.zero_le _, Below.refl _ _⟩
  case round =>
    obtain ⟨q, rfl, hqn, hbx⟩ := hrel
    rename World => w4
    have HBX := Lib.hid hbx
    have HB4 := Lib.hid (HB3.out.trans (hbx.mono HB3.out.size))
    by_cases e : q < n3
    · have d2 : decide ((q : Int) < (n3 : Int)) = true := decide_eq_true (by omega)
      have HBD := Lib.hid hbx.drew
      obtain ⟨b, off, hA, hc⟩ := (HI3.out.below hbx).2 (by omega)
      have hmem := mem_getD M3 q (by rw [HN3.out]; exact e)
      have HINF := Lib.hid (HX3.out _ hmem)
      have HXZ := Lib.hid (HZ3.out _ hmem)
      obtain ⟨X, hX⟩ : ∃ X, X = M3.getD q noB := ⟨_, rfl⟩
      have HX := Lib.hid hX
      rw [← hX] at HINF HXZ
      obtain ⟨X1, X2⟩ := X
      have HCQ : Hid (∀ wx : World, Below w4.heap.size w4 wx → wx.cell? ⟨b, off + q * 2, none⟩ = some (.string X1) ∧ wx.cell? ⟨b, off + q * 2 + 1, none⟩ = some (.string X2)) := Lib.hid fun wx hb => by
        obtain ⟨c1, c2⟩ := hc q e
        rw [← hX] at c1 c2
        exact ⟨(hb.cell (p := ⟨b, _, none⟩) (World.block_lt_of_cell? w4 _ c1)).trans c1, (hb.cell (p := ⟨b, _, none⟩) (World.block_lt_of_cell? w4 _ c2)).trans c2⟩
      have HC := Lib.hid hc
      subst hA
      clear hbx hmem hX hc
      go_upto_region 7 with fail
      go_cut [47] (fun s47 wx => s47 = .bool false ∧ Below w4.heap.size w4 wx)
      case first =>
        by_cases e0 : 0 < q
        · have d5 : decide ((0 : Int) < (q : Int)) = true := decide_eq_true (by omega)
          obtain ⟨p, hp⟩ : ∃ p, q = p + 1 := ⟨q - 1, by omega⟩
          have hsw : (q : Int) - 1 = (p : Int) := by omega
          have hww : IntKind.i64.wrap (p : Int) = (p : Int) := by rw [IntKind.wrap_i64]; omega
          have hp0 : (0 : Int) ≤ (p : Int) := by omega
          have hp1 : (p : Int) < (n3 : Int) := by omega
          have hp2 : (p : Int) ≤ (n3 : Int) := by omega
          obtain ⟨c5, _⟩ := HC.out p (by omega)
          obtain ⟨c1, _⟩ := HCQ.out w4 (Below.refl _ _)
          have hcm := rise_at HR3.out p (by rw [HN3.out]; omega)
          rw [← hp, ← HX.out] at hcm
          dsimp only at hcm
          have hpz := (HZ3.out _ (mem_getD M3 p (by rw [HN3.out]; omega))).1
          generalize (M3.getD p noB).1 = P1 at *
          have CC := Lib.hid fun wx : World => HCM.out wx P1 X1 hpz HXZ.out.1
          rw [hcm] at CC
          have hpn : p < n3 := by omega
          have t1 : decide ((0 : Int) ≤ -1) = false := by decide
          have HBW := Lib.hid ((Below.refl w4.heap.size w4).drew)
          clear hcm hpz hp
          go_wp2_with fail
          go_region_held3 (fun w' => w'.cell? ⟨b, off + p * 2, none⟩ = some (.string P1) ∧ w'.cell? ⟨b, off + q * 2, none⟩ = some (.string X1))
            (first | exact ⟨c5, c1⟩ | exact ⟨s1, s3⟩)
            (first
              | (go_at_call 25; refine (CC.out _).mono ?_; rintro e w5 ⟨rfl, hb5⟩
                 have s1 : w5.cell? ⟨b, off + p * 2, none⟩ = some (.string P1) := (hb5.cell (p := ⟨b, _, none⟩) (World.block_lt_of_cell? w4 _ c5)).trans c5
                 have s3 : w5.cell? ⟨b, off + q * 2, none⟩ = some (.string X1) := (hb5.cell (p := ⟨b, _, none⟩) (World.block_lt_of_cell? w4 _ c1)).trans c1
                 have HB5 := Lib.hid (HBW.out.trans (hb5.mono HBW.out.size))
                 clear hb5))
          clear c5 c1
          go_wp2_with fail
          go_meet
          case rel => exact ⟨rfl, HB5.out⟩
        · have d5 : decide ((0 : Int) < (q : Int)) = false := decide_eq_false (by omega)
          have HBW := Lib.hid (Below.refl w4.heap.size w4)
          obtain rfl : q = 0 := by omega
          go_wp2_with fail
          go_quiet (fail)
          go_wp2_with fail
          go_meet
          case rel => exact ⟨rfl, below_drewN HBW.out _⟩
      case rest =>
        obtain ⟨rfl, hb45⟩ := hcut
        rename World => w5
        have HB45 := Lib.hid hb45
        clear hb45
        go_wp2_with fail
        go_loopw [7, 8] (fun sb sk wx => ∃ k : Nat, sb = .bool (inF (toL (X1, X2)) ((L.take k).map toL) false) ∧ sk = .int .i64 k ∧ k ≤ n ∧ Below w4.heap.size w4 wx) (fun _ sk _ => n - (intOf sk).toNat)
        case atStart => exact ⟨0, rfl, rfl, Nat.zero_le _, HB45.out⟩
        case round =>
          obtain ⟨k, rfl, rfl, hkn, hbx⟩ := hrel
          rename World => w6
          have HB6 := Lib.hid hbx
          obtain ⟨c1, c2⟩ := HCQ.out w6 hbx
          by_cases ek : k < n
          · have d3 : decide ((k : Int) < (n : Int)) = true := decide_eq_true (by omega)
            obtain ⟨b2, off2, hA, hc⟩ := (HI.out.below (HB4.out.trans (hbx.mono HB4.out.size))).2 (by omega)
            obtain ⟨c3, c4⟩ := hc k ek
            have hnx := inF_next (X1, X2) L k (by rw [HLn.out]; exact ek)
            dsimp only at hnx
            generalize L.getD k noB = Y at *
            obtain ⟨Y1, Y2⟩ := Y
            dsimp only at hnx c3 c4
            subst hA
            clear hc hbx
            by_cases e1 : Y1 = X1
            · have hs1 : (Y1.toList == X1.toList) = true := (pbytes_same Y1 X1).2 e1
              rw [if_pos e1] at hnx
              have hs2 : (Y2.toList == X2.toList) = decide (Y2 = X2) := bytes_eql Y2 X2
              obtain ⟨rb, hrb⟩ : ∃ x, x = decide (Y2 = X2) := ⟨_, rfl⟩
              rw [← hrb] at hnx hs2
              have HNX := Lib.hid hnx
              clear hnx hrb e1
              cases rb
              · go_wp2_with fail
                go_quiet (fail)
                go_wp2_with fail
                go_quiet (fail)
                go_wp2_with fail
                go_roundw
                case rel => exact ⟨k + 1, by rw [HNX.out], by go_num, by omega, below_drewN HB6.out _⟩
                case measure => simp [intOf]; omega
              · go_wp2_with fail
                go_quiet (fail)
                go_wp2_with fail
                go_quiet (fail)
                go_wp2_with fail
                go_roundw
                case rel => exact ⟨k + 1, by rw [HNX.out], by go_num, by omega, below_drewN HB6.out _⟩
                case measure => simp [intOf]; omega
            · have hs1 : (Y1.toList == X1.toList) = false := by rw [bytes_eql, decide_eq_false e1]
              rw [if_neg e1] at hnx
              have HNX := Lib.hid hnx
              clear hnx e1
              go_wp2_with fail
              go_quiet (fail)
              go_wp2_with fail
              go_roundw
              case rel => exact ⟨k + 1, by rw [HNX.out], by go_num, by omega, below_drewN HB6.out _⟩
              case measure => simp [intOf]; omega
          · obtain rfl : k = n := by omega
            have d3 : decide ((k : Int) < (k : Int)) = false := decide_eq_false (by omega)
            have hfin : inF (toL (X1, X2)) ((L.take k).map toL) false = true := by
              rw [List.take_of_length_le (by rw [HLn.out]; exact Nat.le_refl _)]
              exact HINF.out
            rw [hfin]
            clear hfin hbx c1 c2
            go_wp2_with fail
            go_roundw
            case rel => exact ⟨q + 1, by go_num, by omega, HBX.out.trans (HB6.out.mono HBX.out.size)⟩
            case measure => simp [intOf]; omega
    · obtain rfl : q = n3 := by omega
      have d2 : decide ((q : Int) < (q : Int)) = false := decide_eq_false (by omega)
      obtain ⟨A6, c6, A7, c7, w7, ⟨w6, hr6, hr7⟩, hcm, hI7, hb7⟩ := both_inE w4 B A m n d c M L (HJ.out.below HB4.out) (HI.out.below HB4.out) (by omega)
      have HR1 := Lib.hid hr6
      have HR2 := Lib.hid hr7
      have HB7 := Lib.hid (HB4.out.trans (hb7.mono HB4.out.size))
      have HB37 := Lib.hid (HBX.out.trans (hb7.mono HBX.out.size))
      have C1 := Lib.hid (HLA.out w7 A7 (m + n) c7 (M ++ L) hI7 (by omega) fun p hp => by
        rcases List.mem_append.1 hp with h | h
        · exact HSZ2.out p h
        · exact HSZ.out p h)
      clear hr6 hr7 hI7 hb7 hbx
      unfold maxLen at hcm
      go_upto_region 17 with fail
      go_wp2_with (at_builtin; first | refine append_guard _ rfl _ _ 36 36 rfl (.slice (some ⟨w4.heap.size, 0, none⟩) 0 0) (.slice B m d) rfl rfl (.slice A6 m c6) w6 HR1.out ?_ | refine append_guard _ rfl _ _ 36 36 rfl (.slice A6 m c6) (.slice A n c) rfl rfl (.slice A7 (m + n) c7) w7 HR2.out ?_)
      refine C1.out.mono ?_
      rintro e w8 ⟨A8, n8, c8, M8, rfl, hM8, hI8, hn8, hb8⟩
      have HM8 := Lib.hid hM8
      have HI8 := Lib.hid hI8
      have HN8 := Lib.hid hn8
      have HB8 := Lib.hid (HB7.out.trans (hb8.mono HB7.out.size))
      have HB38 := Lib.hid (HB37.out.trans (hb8.mono HB37.out.size))
      have hle : q ≤ n8 := by
        have h1 := lasts_len (M.map toL) (L.map toL)
        rw [← List.map_append, ← hM8, ← HM3.out, List.length_map, List.length_map, hI8.1, HN3.out] at h1
        exact h1
      have hn8m : n8 ≤ maxLen := hn8
      unfold maxLen at hn8m
      clear hM8 hI8 hn8 hb8 C1 HR1 HR2
      go_wp2_with fail
      go_loopw [10, 11] (fun sa si wx => ∃ p : Nat, sa = .bool (allB L (M.take p)) ∧ si = .int .i64 p ∧ p ≤ m ∧ Below w8.heap.size w8 wx) (fun _ si _ => m - (intOf si).toNat)
      case atStart => exact ⟨0, rfl, rfl, Nat.zero_le _, Below.refl _ _⟩
      case round =>
        obtain ⟨p, rfl, rfl, hpm, hbx⟩ := hrel
        rename World => w9
        have HB9 := Lib.hid hbx
        have HB89 := Lib.hid (HB8.out.trans (hbx.mono HB8.out.size))
        by_cases e : p < m
        · have d3 : decide ((p : Int) < (m : Int)) = true := decide_eq_true (by omega)
          obtain ⟨b, off, hA, hc⟩ := (HJ.out.below HB89.out).2 (by omega)
          have hnx := allB_next L M p (by rw [HMm.out]; exact e)
          generalize hX : (M.getD p noB).1 = X1 at *
          have HCQ : Hid (∀ wx : World, Below w9.heap.size w9 wx → wx.cell? ⟨b, off + p * 2, none⟩ = some (.string X1)) := Lib.hid fun wx hb => by
            obtain ⟨c1, _⟩ := hc p e
            rw [hX] at c1
            exact (hb.cell (p := ⟨b, _, none⟩) (World.block_lt_of_cell? w9 _ c1)).trans c1
          obtain ⟨ab, hab⟩ : ∃ x, x = allB L (M.take p) := ⟨_, rfl⟩
          rw [← hab] at hnx ⊢
          have HNA := Lib.hid hnx
          subst hA
          clear hnx hX hc hbx hab
          go_wp2_with fail
          go_loopw [12, 13] (fun sb sk wx => ∃ k : Nat, sb = .bool (hasB X1 (L.take k)) ∧ sk = .int .i64 k ∧ k ≤ n ∧ Below w9.heap.size w9 wx) (fun _ sk _ => n - (intOf sk).toNat)
          case atStart => exact ⟨0, rfl, rfl, Nat.zero_le _, Below.refl _ _⟩
          case round =>
            obtain ⟨k, rfl, rfl, hkn, hbx⟩ := hrel
            rename World => w10
            have HB10 := Lib.hid hbx
            have c1 := HCQ.out w10 hbx
            by_cases ek : k < n
            · have d4 : decide ((k : Int) < (n : Int)) = true := decide_eq_true (by omega)
              obtain ⟨b2, off2, hA, hc⟩ := (HI.out.below (HB89.out.trans (hbx.mono HB89.out.size))).2 (by omega)
              obtain ⟨c3, _⟩ := hc k ek
              have hnx := hasB_next X1 L k (by rw [HLn.out]; exact ek)
              generalize (L.getD k noB).1 = Y1 at *
              obtain ⟨ib, hib⟩ : ∃ x, x = hasB X1 (L.take k) := ⟨_, rfl⟩
              rw [← hib] at hnx ⊢
              have hs1 : (Y1.toList == X1.toList) = decide (Y1 = X1) := bytes_eql Y1 X1
              obtain ⟨rb, hrb⟩ : ∃ x, x = decide (Y1 = X1) := ⟨_, rfl⟩
              rw [← hrb] at hnx hs1
              have HNX := Lib.hid hnx
              subst hA
              clear hc hbx hnx hib hrb
              cases ib
              · cases rb
                · go_wp2_with fail
                  go_quiet (fail)
                  go_wp2_with fail
                  go_roundw
                  case rel => exact ⟨k + 1, by rw [HNX.out]; rfl, by go_num, by omega, below_drewN HB10.out _⟩
                  case measure => simp [intOf]; omega
                · go_wp2_with fail
                  go_quiet (fail)
                  go_wp2_with fail
                  go_roundw
                  case rel => exact ⟨k + 1, by rw [HNX.out]; rfl, by go_num, by omega, below_drewN HB10.out _⟩
                  case measure => simp [intOf]; omega
              · go_wp2_with fail
                go_quiet (fail)
                go_wp2_with fail
                go_roundw
                case rel => exact ⟨k + 1, by rw [HNX.out]; rfl, by go_num, by omega, below_drewN HB10.out _⟩
                case measure => simp [intOf]; omega
            · obtain rfl : k = n := by omega
              have d4 : decide ((k : Int) < (k : Int)) = false := decide_eq_false (by omega)
              rw [List.take_of_length_le (show L.length ≤ k by rw [HLn.out]; exact Nat.le_refl _)]
              obtain ⟨ib, hib⟩ : ∃ x, x = hasB X1 L := ⟨_, rfl⟩
              have HNB := HNA.out
              rw [← hib] at HNB ⊢
              have HNC := Lib.hid HNB
              clear HNB hib hbx c1
              cases ab
              · go_wp2_with fail
                go_roundw
                case rel => exact ⟨p + 1, by rw [HNC.out]; rfl, by go_num, by omega, HB9.out.trans (HB10.out.mono HB9.out.size)⟩
                case measure => simp [intOf]; omega
              · go_wp2_with fail
                go_roundw
                case rel => exact ⟨p + 1, by rw [HNC.out, Bool.true_and], by go_num, by omega, HB9.out.trans (HB10.out.mono HB9.out.size)⟩
                case measure => simp [intOf]; omega
        · obtain rfl : p = m := by omega
          have d3 : decide ((p : Int) < (p : Int)) = false := decide_eq_false (by omega)
          rw [List.take_of_length_le (show M.length ≤ p by rw [HMm.out]; exact Nat.le_refl _)]
          obtain ⟨ab, hab⟩ : ∃ x, x = allB L M := ⟨_, rfl⟩
          rw [← hab]
          have HAB : Hid (ab = true → M8 = M3) := Lib.hid fun h => toL_injE _ _ (by rw [HM8.out, HM3.out, allB_lasts (by rw [← hab]; exact h)])
          have HI39 := Lib.hid (HI3.out.below (HB38.out.trans (hbx.mono HB38.out.size)))
          have HI89 := Lib.hid (HI8.out.below hbx)
          have C2 := Lib.hid (HLA.out w9 A3 q c3 M3 HI39.out (by omega) HZ3.out)
          have d5 : decide ((q : Int) ≤ (n8 : Int)) = true := decide_eq_true (by omega)
          clear hbx hab
          cases ab
          · clear HAB
            go_wp2_with fail
            refine C2.out.mono ?_
            rintro e w10 ⟨A10, n10, c10, M10, rfl, hM10, hI10, hn10, hb10⟩
            obtain rfl : M10 = M3 := toL_injE _ _ (hM10.trans (lasts_self HR3.out))
            have HB10 := Lib.hid (HB89.out.trans (hb10.mono HB89.out.size))
            have C3 := Lib.hid (HSA.out w10 A10 A3 n10 c10 q c3 M10 M10 hI10 (HI39.out.below hb10) hn10 (by unfold maxLen; omega))
            rw [decide_eq_true rfl] at C3
            clear hM10 hI10 hn10 hb10 C2
            go_wp2_with fail
            refine C3.out.mono ?_
            rintro e w11 ⟨rfl, hb11⟩
            have HB11 := Lib.hid (HB10.out.trans (hb11.mono HB10.out.size))
            clear hb11
            go_wp2_with fail
            refine (HAW.out _ (HTB.out _ HB11.out)).mono ?_
            rintro e w12 ⟨rfl, hb12⟩
            have HB12 := Lib.hid (HB11.out.trans (hb12.mono HB11.out.size))
            clear hb12
            go_wp2_with fail
            go_ret
            exact ⟨rfl, HB12.out⟩
          · obtain rfl : M8 = M3 := HAB.out rfl
            clear HAB
            go_wp2_with fail
            refine C2.out.mono ?_
            rintro e w10 ⟨A10, n10, c10, M10, rfl, hM10, hI10, hn10, hb10⟩
            obtain rfl : M10 = M8 := toL_injE _ _ (hM10.trans (lasts_self HR3.out))
            have HB10 := Lib.hid (HB89.out.trans (hb10.mono HB89.out.size))
            have HI310 := Lib.hid (HI39.out.below hb10)
            have HI810 := Lib.hid (HI89.out.below hb10)
            have C3 := Lib.hid (HSA.out w10 A10 A3 n10 c10 q c3 M10 M10 hI10 HI310.out hn10 (by unfold maxLen; omega))
            rw [decide_eq_true rfl] at C3
            clear hM10 hI10 hn10 hb10 C2
            go_wp2_with fail
            refine C3.out.mono ?_
            rintro e w11 ⟨rfl, hb11⟩
            have HB11 := Lib.hid (HB10.out.trans (hb11.mono HB10.out.size))
            have C4 := Lib.hid (HSA.out w11 A3 A8 q c3 n8 c8 M10 M10 (HI310.out.below hb11) (HI810.out.below hb11) (by unfold maxLen; omega) HN8.out)
            rw [decide_eq_true rfl] at C4
            clear hb11 C3
            go_wp2_with fail
            refine C4.out.mono ?_
            rintro e w12 ⟨rfl, hb12⟩
            have HB12 := Lib.hid (HB11.out.trans (hb12.mono HB11.out.size))
            clear hb12
            go_wp2_with fail
            refine (HAW.out _ (HTB.out _ HB12.out)).mono ?_
            rintro e w13 ⟨rfl, hb13⟩
            have HB13 := Lib.hid (HB12.out.trans (hb13.mono HB12.out.size))
            clear hb13
            go_wp2_with fail
            go_ret
            exact ⟨rfl, HB13.out⟩
end
end Go.Proofs.YtdjmfkodjjjhfaaGreatDoor
/- Files that are handed over, one and many: what the rows of stage 18 open. Written ahead of stage 18. -/
namespace Go.Proofs.YtdjmfkodjjjhfaaGreatDoor
open Go.RowKit

set_option maxRecDepth 100000 in
theorem cellsEn : Tryz.prog.cellsOf 23 = 2 := by kernel_rfl
set_option maxRecDepth 100000 in
theorem ecellsSt : Tryz.prog.cellsOf 9 = 1 := by kernel_rfl
set_option maxRecDepth 100000 in
theorem addr_of_cellP {w : World} {a : Addr} {v : Value} (h : w.cell? a = some v) : a = ⟨a.block, a.off, none⟩ := by
  unfold World.cell? at h
  split at h
  · split at h
    · cases h
    · rename_i hs
      cases a with
      | mk b o s =>
        cases s with
        | none => rfl
        | some s => simp at hs
  · cases h
set_option maxRecDepth 100000 in
theorem mem_weightsAll {H : Type} {e : TypeId} {x : Nat} {d : DataW H} : ∀ {l : List (DataW H)}, d ∈ l → x ∈ d.weights Tryz.prog e → x ∈ DataW.weightsAll Tryz.prog e l
  | [], h, _ => by simp at h
  | y :: l, h, hx => by
    simp only [DataW.weightsAll, List.mem_append]
    rcases List.mem_cons.1 h with rfl | h
    · exact .inl hx
    · exact .inr (mem_weightsAll h hx)
def strOf : Value → ByteArray
  | .string s => s
  | _ => ⟨#[]⟩
set_option maxRecDepth 100000 in
open Go.ChangeShapes Go.WideShapes Go.ChangeAt Go.Deep in
/-- Files that are handed over. -/
theorem open_ents {H : Type} {enc : TypeId × Value → H} {W : World} {A : Option Addr} {n c : Nat} {d : DataW H} {ps : List MemPlace}
    (h : DataW.Trod enc Tryz.prog W 0 (fun _ => true) true 36 (.slice A n c) d ps) (hw : ∀ x ∈ d.weights Tryz.prog 36, x ≤ reachBytes) :
    ∃ L : List PairB, PIn W A n L ∧ n ≤ maxLen ∧ ∀ p, p ∈ L → p.1.size ≤ 140737488355328 ∧ p.2.size ≤ 140737488355328 := by
  obtain ⟨fuel, h⟩ := h
  rcases open_slice_pairs Tryz.underlying36 Tryz.underlying23 cellsEn rfl rfl ecellsSt ecellsSt h with ⟨hc, _⟩ | ⟨a, len, cap, m, k, V0, V1, D0, D1, P0, P1, hcs, _, hl, hm, hmeq, hx, hall⟩
  · simp [Value.cells] at hc
    obtain ⟨rfl, rfl, rfl⟩ := hc
    exact ⟨[], ⟨rfl, fun h => by omega⟩, Nat.zero_le _, fun p hp => by cases hp⟩
  · simp [Value.cells] at hcs
    obtain ⟨rfl, rfl, rfl⟩ := hcs
    simp only [if_true] at hmeq
    subst hmeq
    have hd : d = .slice ((List.range n).map fun i => .agg [D0 i, D1 i]) ((List.range (m - n)).map fun j => .agg [D0 (n + j), D1 (n + j)]) := congrArg Prod.fst hx
    have hr := reachBytes_lt
    have hs : ∀ i, i < n → (∃ s : ByteArray, V0 i = .string s ∧ s.size ≤ 140737488355328) ∧ ∃ s : ByteArray, V1 i = .string s ∧ s.size ≤ 140737488355328 := fun i hi => by
      obtain ⟨_, _, t0, t1⟩ := hall i (by omega)
      obtain ⟨s, e0, x0, _⟩ := DataW.trod_string Tryz.underlying9 t0
      obtain ⟨u, e1, x1, _⟩ := DataW.trod_string Tryz.underlying9 t1
      simp only [List.cons.injEq, and_true] at e0 e1
      simp only [Prod.mk.injEq] at x0 x1
      have hmem : ∀ q, q ∈ DataW.weightsEach Tryz.prog [9, 9] [D0 i, D1 i] → q ∈ d.weights Tryz.prog 36 := fun q hq => by
        rw [hd]
        simp only [DataW.weights, Tryz.underlying36, List.mem_cons, List.mem_append]
        refine .inr (.inl (mem_weightsAll (d := .agg [D0 i, D1 i]) (List.mem_map.2 ⟨i, List.mem_range.2 hi, rfl⟩) ?_))
        simp only [DataW.weights, Tryz.underlying23]
        exact hq
      have h0 := hw _ (hmem s.data.toList.length (by simp [DataW.weightsEach, x0.1, DataW.weights]))
      have h1 := hw _ (hmem u.data.toList.length (by simp [DataW.weightsEach, x1.1, DataW.weights]))
      have z0 : s.data.toList.length = s.size := rfl
      have z1 : u.data.toList.length = u.size := rfl
      exact ⟨⟨s, e0, by omega⟩, u, e1, by omega⟩
    have hget : ∀ i, i < n → ((List.range n).map fun i => ((strOf (V0 i), strOf (V1 i)) : PairB)).getD i noB = (strOf (V0 i), strOf (V1 i)) := fun i hi => by
      rw [List.getD_eq_getElem?_getD, List.getElem?_map, List.getElem?_range hi]
      rfl
    refine ⟨(List.range n).map fun i => (strOf (V0 i), strOf (V1 i)), ⟨by rw [List.length_map, List.length_range], fun hn => ?_⟩, by omega, fun p hp => ?_⟩
    · have h0 := (hall 0 (by omega)).1
      rw [Nat.zero_mul, Addr.add_zero'] at h0
      have ha := addr_of_cellP h0
      refine ⟨a.block, a.off, by rw [← ha], fun i hi => ?_⟩
      obtain ⟨g1, g2, _⟩ := hall i (by omega)
      rw [ha, Addr.add_lit] at g1 g2
      obtain ⟨⟨s, e0, _⟩, u, e1, _⟩ := hs i hi
      rw [hget i hi]
      refine ⟨?_, ?_⟩
      · rw [g1, e0]
        rfl
      · refine Eq.trans g2 ?_
        rw [e1]
        rfl
    · obtain ⟨i, hi, rfl⟩ := List.mem_map.1 hp
      obtain ⟨⟨s, e0, b0⟩, u, e1, b1⟩ := hs i (List.mem_range.1 hi)
      dsimp only
      rw [e0, e1]
      exact ⟨b0, b1⟩

set_option maxRecDepth 100000 in
open Go.ChangeShapes Go.WideShapes Go.ChangeAt in
/-- A file that is handed over. -/
theorem open_ent {H : Type} {enc : TypeId × Value → H} {W : World} {base : Nat} {v : Value} {d : DataW H} {ps : List MemPlace} (hv : Value.okWide Tryz.prog W .any base 23 v)
    (h : DataW.Trod enc Tryz.prog W 0 (fun _ => true) true 23 v d ps) : ∃ p q : ByteArray, v = .agg #[.string p, .string q] ∧ d = .agg [.lit (.string p.data.toList), .lit (.string q.data.toList)] := by
  obtain ⟨cs, rfl, hsz⟩ := okWide_struct Tryz.underlying23 hv
  rw [cellsEn] at hsz
  obtain ⟨c0, c1, rfl⟩ : ∃ c0 c1, cs = #[c0, c1] := by
    obtain ⟨l⟩ := cs
    match l, hsz with
    | [c0, c1], _ => exact ⟨c0, c1, rfl⟩
  obtain ⟨fuel, hf⟩ := h
  obtain ⟨xs, n, _, hxd, _, hlen, hel⟩ := DataW.trod_struct Tryz.underlying23 hf
  have hd : d = .agg (xs.map (·.1)) := congrArg Prod.fst hxd
  obtain ⟨y0, y1, rfl⟩ : ∃ y0 y1, xs = [y0, y1] := by
    match xs, hlen with
    | [y0, y1], _ => exact ⟨y0, y1, rfl⟩
  have f0 := hel 0 _ rfl
  have f1 := hel 1 _ rfl
  have h0 : DataW.trod enc Tryz.prog W 0 (fun _ => true) true n 9 [c0] = some y0 := by
    rw [show some y0 = [y0, y1][0]? from rfl, ← f0]
    rfl
  have h1 : DataW.trod enc Tryz.prog W 0 (fun _ => true) true n 9 [c1] = some y1 := by
    rw [show some y1 = [y0, y1][1]? from rfl, ← f1]
    rfl
  obtain ⟨p, e0, x0, _⟩ := DataW.trod_string Tryz.underlying9 h0
  obtain ⟨q, e1, x1, _⟩ := DataW.trod_string Tryz.underlying9 h1
  simp only [List.cons.injEq, and_true] at e0 e1
  exact ⟨p, q, by rw [e0, e1], by rw [hd, x0, x1]; rfl⟩
set_option maxRecDepth 100000 in
theorem ent_sizes {H : Type} {p q : ByteArray} (h : ∀ x ∈ (DataW.agg [.lit (.string p.data.toList), .lit (.string q.data.toList)] : DataW H).weights Tryz.prog 23, x ≤ reachBytes) : p.size ≤ 140737488355328 ∧ q.size ≤ 140737488355328 := by
  have hr := reachBytes_lt
  have h0 := h p.data.toList.length (by simp [DataW.weights, DataW.weightsEach, Tryz.underlying23])
  have h1 := h q.data.toList.length (by simp [DataW.weights, DataW.weightsEach, Tryz.underlying23])
  have z0 : p.data.toList.length = p.size := rfl
  have z1 : q.data.toList.length = q.size := rfl
  exact ⟨by omega, by omega⟩
end Go.Proofs.YtdjmfkodjjjhfaaGreatDoor
/- The last step of each law's row: it returned true, and what was there when it began is as it was. -/
namespace Go.Proofs.YtdjmfkodjjjhfaaGreatDoor
open Go.ChangeShapes Go.WideShapes Go.ChangeAt Go.RowKit

set_option maxRecDepth 100000 in
theorem own : ownKnob Tryz.prog.godebug = none := by kernel_rfl
set_option maxRecDepth 100000 in
theorem laid_out : laidOutB Tryz.prog = true := by kernel_rfl

set_option maxRecDepth 100000 in
theorem args_stay {H : Type} {enc : TypeId × Value → H} {W W' : World} (hb : Below W.heap.size W W') : ∀ {ts : List TypeId} {vs : List Value} {ds : List (DataW H)} {ps : List MemPlace},
    (∀ t ∈ ts, Tryz.prog.readableRec t = true ∧ t < Tryz.prog.types.size) → (∀ x ∈ ps, x.block < W.heap.size) →
    DataW.TrodAll enc Tryz.prog W 0 (fun _ => true) true ts vs ds ps → DataW.TrodAll enc Tryz.prog W' 0 (fun b => decide (b < W.heap.size)) true ts vs ds ps
  | [], _, _, _, _, _, h => by
    obtain ⟨rfl, rfl, rfl⟩ := trodAll_nil h
    exact trodAll_mk0
  | t :: ts, _, _, _, ht, hlt, h => by
    obtain ⟨v, vs, d, ds, p, q, rfl, rfl, rfl, h1, h2⟩ := trodAll_cons h
    exact trodAll_cons_mk (Below.trod laid_out (ht t (by simp)).1 (ht t (by simp)).2 h1 hb (fun x hx => hlt x (by simp [hx])))
      (args_stay hb (fun t' h' => ht t' (by simp [h'])) (fun x hx => hlt x (by simp [hx])) h2)

set_option maxRecDepth 100000 in
theorem law_done {H : Type} {enc : TypeId × Value → H} {f : Func} {s : ChangeSpec} {W W' : World} {args : Array Value} {ds : List (DataW H)} {before : List MemPlace}
    (hW : DataW.Whole enc Tryz.prog f.params.toList s.vars false W args.toList ds [] before) (hs : s.vars = []) (hb : Below W.heap.size W W')
    (hp : f.params.toList.all (fun t => Tryz.prog.readableRec t && decide (t < Tryz.prog.types.size)) = true) (hr : f.resultTypes = #[4])
    (hfn : s.fn H (ds ++ []) = { results := [.lit (.bool true)], args := ds }) : s.post enc Tryz.prog f false true false false W args (.bool true) W' := by
  have hlt := hW.lt
  have hW' := hW
  obtain ⟨p, q, hA, hV, rfl, _, _⟩ := hW
  rw [hs] at hV
  obtain ⟨_, rfl⟩ := trodVars_none hV
  rw [List.append_nil] at hlt hW'
  refine ⟨ds, [], p, [], p, [], hW', ?_, ?_, ?_, hb.frame _, fun h => by cases h⟩
  · rw [hfn, hr]
    exact trodAll_cons_mk (shut_bool Tryz.underlying4 _) trodAll_mk0
  · rw [hfn]
    exact args_stay hb (fun t ht => by simpa using List.all_eq_true.1 hp t ht) hlt hA
  · rw [hs, hfn]
    rfl

end Go.Proofs.YtdjmfkodjjjhfaaGreatDoor
