/- Tar's code: lay, Entry. Conditions: the tables are there; texts of at most 900000 bytes. -/
import Derived.Test.YtdjmfkodjjjhfaaGreatDoorPud
import Derived.Test.YtdjmfkodjjjhfaaGreatDoorTrd
import Derived.Test.YtdjmfkodjjjhfaaGreatDoorUvg
import Derived.Test.YtdjmfkodjjjhfaaGreatDoorPwg
import Derived.Test.YtdjmfkodjjjhfaaGreatDoorPug
import Derived.Deep.RegionHeld3
import Derived.Test.YtdjmfkodjjjhfaaGreatDoorTrh
namespace Go.Proofs.YtdjmfkodjjjhfaaGreatDoor
open Go.RowKit

set_option maxRecDepth 100000 in
theorem hdT_ok (p : ByteArray) (k n : Nat) (hk : k < 256) (hp : p.size ≤ 1000000) (hn : n ≤ 1000000) : HeadT (hdT p.data.toList k n) := by
  have h0 : (strF p.data.toList).size = p.size := rfl
  refine ⟨hdB p k n hk hp, fun i hi => ?_, fun i hi => ?_, ?_, ?_⟩
  · have : i = 0 ∨ i = 1 ∨ i = 2 ∨ i = 3 := by omega
    rcases this with rfl | rfl | rfl | rfl
    · show (strF p.data.toList).size ≤ _
      omega
    · show (⟨#[]⟩ : ByteArray).size ≤ _; decide
    · show (⟨#[]⟩ : ByteArray).size ≤ _; decide
    · show (⟨#[]⟩ : ByteArray).size ≤ _; decide
  · have : i = 0 ∨ i = 1 ∨ i = 2 := by omega
    rcases this with rfl | rfl | rfl
    · show (-9223372036854775808 : Int) ≤ 420 ∧ (420 : Int) ≤ 9223372036854775807; omega
    · show (-9223372036854775808 : Int) ≤ 0 ∧ (0 : Int) ≤ 9223372036854775807; omega
    · show (-9223372036854775808 : Int) ≤ 0 ∧ (0 : Int) ≤ 9223372036854775807; omega
  · show (-9223372036854775808 : Int) ≤ (n : Int) ∧ (n : Int) ≤ 9223372036854775807; omega
  · show (-9223372036854775808 : Int) ≤ 0 ∧ (0 : Int) ≤ 9223372036854775807; omega

set_option maxHeartbeats 1600000 in
set_option maxRecDepth 100000 in
theorem claytar_any (w : World) (hT : Tabs w) (p d : ByteArray) (k : Nat) (hk : k < 256) (hp : p.size ≤ 1000000) (hd : d.size ≤ 900000) :
    Calls Tryz.prog 28 #[.string p, .int .u8 k, .string d] w fun e w' => e = .returned (.string (strF (partT p.data.toList k d.data.toList))) ∧ Below w.heap.size w w' := by
  have C1 := Lib.hid (cenc_any w hT (hdT p.data.toList k d.size) (hdT_ok p k d.size hk hp (by omega)))
  rw [hdV] at C1
  have hu : d.size ≤ upTo d.size ∧ upTo d.size ≤ 1000000 := by unfold upTo; omega
  have C2 := Lib.hid fun wx : World => cfilled_any wx d.size (by omega)
  obtain ⟨z, hz⟩ : ∃ z, z = upTo d.size - d.size := ⟨_, rfl⟩
  have C3 := Lib.hid fun wx : World => repeat_byte wx 0 z (by omega)
  have hsub : (upTo d.size : Int) - (d.size : Int) = (z : Int) := by omega
  have hll : d.data.toList.length = d.size := rfl
  have HF : Hid (strP (encA (hdT p.data.toList k d.size)).1 ++ d ++ strF (List.replicate z 0) = strF (partT p.data.toList k d.data.toList)) := Lib.hid (by
    unfold partT fillL
    rw [hll, ← hz, ← strF_app, ← strF_app, strF_self, ByteArray.append_assoc]
    rfl)
  have h1 : (strP (encA (hdT p.data.toList k d.size)).1).size ≤ 512 := encA_le _
  have h2 : (strF (List.replicate z (0 : UInt8))).size ≤ 512 := by
    show (List.replicate z (0 : UInt8)).length ≤ _
    rw [List.length_replicate, hz]
    unfold upTo
    omega
  have h3 : (strP (encA (hdT p.data.toList k d.size)).1 ++ d).size ≤ 1000000 := by
    rw [ByteArray.size_append]
    omega
  generalize strP (encA (hdT p.data.toList k d.size)).1 = X at *
  generalize (encA (hdT p.data.toList k d.size)).2 = E at *
  generalize strF (List.replicate z (0 : UInt8)) = Z at *
  generalize strF (partT p.data.toList k d.data.toList) = RES at *
  obtain ⟨u, hu'⟩ : ∃ u, u = upTo d.size := ⟨_, rfl⟩
  rw [← hu'] at C2 hsub hu
  obtain ⟨Y, hY⟩ : ∃ Y, Y = X ++ d := ⟨_, rfl⟩
  rw [← hY] at HF h3
  have hcat1 : ∀ w9 : World, (Op.stringOp .add X d).run Tryz.prog w9 = .ok (.string Y) w9 := fun w9 => by rw [hY]; exact run_string_add_sum w9 _ _ (by omega)
  have hcat2 : ∀ w9 : World, (Op.stringOp .add Y Z).run Tryz.prog w9 = .ok (.string (Y ++ Z)) w9 := fun w9 => run_string_add_sum w9 _ _ (by omega)
  clear hz hll hu' hY hT
  go_enter Tryz.func28, Tryz.ntmps28
  go_wp2_with fail
  refine C1.out.mono ?_
  rintro e w2 ⟨rfl, hb2⟩
  have HB2 := Lib.hid hb2
  clear hb2
  go_wp2_with fail
  refine (C2.out _).mono ?_
  rintro e w3 ⟨rfl, rfl⟩
  go_wp2_with fail
  refine (C3.out _).mono ?_
  rintro e w4 ⟨rfl, hb4⟩
  have HB4 := Lib.hid (HB2.out.trans (hb4.mono HB2.out.size))
  clear hb4
  go_wp2_with fail
  rw [HF.out]
  go_ret
  exact ⟨rfl, HB4.out⟩

set_option maxHeartbeats 6400000 in
set_option maxRecDepth 100000 in
theorem centry_any (w : World) (hT : Tabs w) (p d : ByteArray) (hp : p.size ≤ 140737488355328) (hd : d.size ≤ 140737488355328) :
    Calls Tryz.prog 12 #[.agg #[.string p, .string d]] w fun e w' => e = .returned (.tuple #[.string (strF (entryA p.data.toList d.data.toList).1), .int .i64 (entryA p.data.toList d.data.toList).2]) ∧ Below w.heap.size w w' := by
  have HP : Hid (∀ (l : List UInt8) (k : Nat) (w' : World), entryA p.data.toList d.data.toList = (l, k) → Below w.heap.size w w' → (fun e w' => e = Ending.returned (.tuple #[.string (strF (entryA p.data.toList d.data.toList).1), .int .i64 (entryA p.data.toList d.data.toList).2]) ∧ Below w.heap.size w w') (.returned (.tuple #[.string (strF l), .int .i64 k])) w') := Lib.hid fun l k w' e hb => ⟨by rw [e], hb⟩
  have HE : Hid (entryA p.data.toList d.data.toList = if checkL p.data.toList ≠ 0 then ([], 140) else if 262144 < d.size then ([], 3) else (entT p.data.toList d.data.toList, 0)) := Lib.hid rfl
  generalize (fun e w' => e = Ending.returned (.tuple #[.string (strF (entryA p.data.toList d.data.toList).1), .int .i64 (entryA p.data.toList d.data.toList).2]) ∧ Below w.heap.size w w') = PO at *
  have HTB : Hid (∀ wx : World, Below w.heap.size w wx → Tabs wx) := Lib.hid fun wx hb => hT.below hb
  have CC := Lib.hid fun wx : World => ccheckE_any wx p d hp hd
  have CS := Lib.hid fun wx : World => csplit_any wx p hp
  have HK1 := Lib.hid (blk_new w 23 #[.string p, .string d])
  have HB1 := Lib.hid (show Below w.heap.size w (w.alloc (.cells #[.string p, .string d] 23)) from (Below.refl _ _).alloc (Nat.le_refl _) _)
  have c0 : (w.alloc (.cells #[.string p, .string d] 23)).cell? ⟨w.heap.size, 0, none⟩ = some (.string p) := blk_cell HK1.out 0
  have c1 : (w.alloc (.cells #[.string p, .string d] 23)).cell? ⟨w.heap.size, 1, none⟩ = some (.string d) := blk_cell HK1.out 1
  obtain ⟨ck, hck⟩ : ∃ k, k = checkL p.data.toList := ⟨_, rfl⟩
  rw [← hck] at CC HE
  have HCK := Lib.hid hck
  obtain ⟨N, hN⟩ : ∃ N : Nat, N = (if ck ≠ 0 then 140 else if 262144 < d.size then 3 else 0) := ⟨_, rfl⟩
  rw [← hN] at CC
  have HN := Lib.hid hN
  obtain ⟨spl, hspl⟩ : ∃ s, s = splitL p.data.toList := ⟨_, rfl⟩
  obtain ⟨pre, name, ok⟩ := spl
  rw [← hspl] at CS
  have HSPL := Lib.hid hspl
  clear hck hspl hN hT
  go_enter Tryz.func12, Tryz.ntmps12
  go_upto_region 1 with fail
  generalize w.alloc (.cells #[.string p, .string d] 23) = w1 at *
  go_wp2_with fail
  refine (CC.out _).mono ?_
  rintro e w2 ⟨rfl, hb2⟩
  have hk2 := (step_of_below hb2).blk HK1.out List.not_mem_nil List.not_mem_nil
  have HK2 := Lib.hid hk2
  have HB2 := Lib.hid (HB1.out.trans (hb2.mono HB1.out.size))
  have q0 : w2.cell? ⟨w.heap.size, 0, none⟩ = some (.string p) := blk_cell hk2 0
  have q1 : w2.cell? ⟨w.heap.size, 1, none⟩ = some (.string d) := blk_cell hk2 1
  clear c0 c1 hb2 hk2 HK1 HB1 CC
  by_cases eN : N = 0
  · have t0 : ((N : Int) != 0) = false := by rw [eN]; rfl
    have hor : ck = 0 ∧ ¬ 262144 < d.size := by
      have h := HN.out
      rw [eN] at h
      by_cases h1 : ck = 0
      · refine ⟨h1, fun h2 => ?_⟩
        rw [if_neg (fun q => q h1), if_pos h2] at h
        cases h
      · rw [if_pos h1] at h
        cases h
    obtain ⟨ec, ed⟩ := hor
    have hdz : d.size ≤ 262144 := by omega
    have HE2 : Hid (entryA p.data.toList d.data.toList = (entT p.data.toList d.data.toList, 0)) := Lib.hid (HE.out.trans (by rw [if_neg (fun h => h ec), if_neg ed]))
    have hf := check_facts (HCK.out.symm.trans ec)
    have hpl : p.size ≤ 120 := hf.2.2.1
    have HSN : Hid (ok = false → 100 < p.size) := Lib.hid fun h => by
      have h1 := HSPL.out
      unfold splitL at h1
      split at h1
      · have h2 := congrArg (fun x => x.2.2) h1
        dsimp only at h2
        rw [h] at h2
        cases h2
      · next h2 =>
        have : p.data.toList.length = p.size := rfl
        omega
    have HENT : Hid (entT p.data.toList d.data.toList = if ok = true then partT p.data.toList 48 d.data.toList else partT paxN 120 (recL (pathK, p.data.toList)) ++ partT (p.data.toList.take 100) 48 d.data.toList) := Lib.hid (by
      unfold entT
      rw [← HSPL.out])
    clear ec ed hf hd hp HE HN
    go_wp2_with fail
    refine (CS.out _).mono ?_
    rintro e w3 ⟨rfl, hb3⟩
    have hk3 := (step_of_below hb3).blk HK2.out List.not_mem_nil List.not_mem_nil
    have HK3 := Lib.hid hk3
    have HB3 := Lib.hid (HB2.out.trans (hb3.mono HB2.out.size))
    have r0 : w3.cell? ⟨w.heap.size, 0, none⟩ = some (.string p) := blk_cell hk3 0
    have r1 : w3.cell? ⟨w.heap.size, 1, none⟩ = some (.string d) := blk_cell hk3 1
    clear q0 q1 hb3 hk3 HK2 HB2 CS
    cases ok
    · have hp100 := HSN.out rfl
      have hrl := rec_len p.data.toList hpl
      have hrz : (flatP ([(pathB18, p)].map toL)).length ≤ 20000 := by
        rw [show flatP ([(pathB18, p)].map toL) = recL (pathK, p.data.toList) from path_flat _]
        omega
      have hkk : keysK ([(pathB18, p)].map toL) := fun q hq => by
        rw [List.mem_singleton.1 (show q ∈ [toL (pathB18, p)] from hq)]
        exact (show keyK pathK by decide)
      have CE : Hid (∀ wx : World, Tabs wx → Calls Tryz.prog 29 #[.slice (some ⟨wx.heap.size, 0, none⟩) 1 1] (wx.alloc (.cells #[.string ⟨#[112, 97, 116, 104]⟩, .string p] 56)) fun e w' => e = .returned (.tuple #[.string (strF (recL (pathK, p.data.toList))), .int .i64 0]) ∧ Below wx.heap.size wx w') := Lib.hid fun wx ht => by
        have hk := blk_new wx 56 #[.string pathB18, .string p]
        have hI : PIn (wx.alloc (.cells #[.string pathB18, .string p] 56)) (some ⟨wx.heap.size, 0, none⟩) 1 [(pathB18, p)] := ⟨rfl, fun _ => ⟨wx.heap.size, 0, rfl, fun i hi => by
          obtain rfl : i = 0 := by omega
          exact ⟨blk_cell hk 0, blk_cell hk 1⟩⟩⟩
        have h0 : Below wx.heap.size wx (wx.alloc (.cells #[.string pathB18, .string p] 56)) := (Below.refl _ _).alloc (Nat.le_refl _) _
        have h := cpenc_any (wx.alloc (.cells #[.string pathB18, .string p] 56)) (ht.below h0) (some ⟨wx.heap.size, 0, none⟩) 1 1 [(pathB18, p)] hI (by unfold maxLen; omega) hrz
        rw [show pencA ([(pathB18, p)].map toL) = (recL (pathK, p.data.toList), 0) from by rw [pencA, if_pos hkk, show flatP ([(pathB18, p)].map toL) = recL (pathK, p.data.toList) from path_flat _]] at h
        refine h.mono ?_
        rintro e w' ⟨rfl, hb⟩
        exact ⟨rfl, h0.trans (hb.mono h0.size)⟩
      obtain ⟨RC, hRC⟩ : ∃ r, r = strF (recL (pathK, p.data.toList)) := ⟨_, rfl⟩
      have hRCl : RC.data.toList = recL (pathK, p.data.toList) := by rw [hRC]; rfl
      have hRCz : RC.size ≤ 512 := by rw [hRC]; exact hrl
      rw [← hRC] at CE
      obtain ⟨P1, hP1⟩ : ∃ r, r = p.extract 0 100 := ⟨_, rfl⟩
      have hP1l : P1.data.toList = p.data.toList.take 100 := by rw [hP1, fext_list, List.drop_zero]
      have hP1z : P1.size ≤ 100 := by rw [hP1, ByteArray.size_extract]; omega
      have C1 : Hid (∀ wx : World, Tabs wx → Calls Tryz.prog 28 #[.string ⟨#[112, 97, 120]⟩, .int .u8 120, .string RC] wx fun e w' => e = .returned (.string (strF (partT paxN 120 (recL (pathK, p.data.toList))))) ∧ Below wx.heap.size wx w') := Lib.hid fun wx ht => by
        have h := claytar_any wx ht ⟨#[112, 97, 120]⟩ RC 120 (by omega) (by decide) (by omega)
        rw [hRCl] at h
        exact h
      have C2 : Hid (∀ wx : World, Tabs wx → Calls Tryz.prog 28 #[.string (p.extract 0 100), .int .u8 48, .string d] wx fun e w' => e = .returned (.string (strF (partT (p.data.toList.take 100) 48 d.data.toList))) ∧ Below wx.heap.size wx w') := Lib.hid fun wx ht => by
        have h := claytar_any wx ht P1 d 48 (by omega) (by omega) (by omega)
        rw [hP1l, hP1] at h
        exact h
      have z1 : (strF (partT paxN 120 (recL (pathK, p.data.toList)))).size ≤ 2000 := by
        have := partT_le paxN 120 (recL (pathK, p.data.toList))
        show (partT paxN 120 (recL (pathK, p.data.toList))).length ≤ _
        omega
      have z2 : (strF (partT (p.data.toList.take 100) 48 d.data.toList)).size ≤ 300000 := by
        have := partT_le (p.data.toList.take 100) 48 d.data.toList
        have hl : d.data.toList.length = d.size := rfl
        show (partT (p.data.toList.take 100) 48 d.data.toList).length ≤ _
        omega
      have HEND : Hid (strF (partT paxN 120 (recL (pathK, p.data.toList))) ++ strF (partT (p.data.toList.take 100) 48 d.data.toList) = strF (entT p.data.toList d.data.toList)) := Lib.hid (by rw [HENT.out, if_neg (by decide), strF_app])
      have HF := Lib.hid fun w' => HP.out _ 0 w' HE2.out
      have hp100z : (100 : Int) ≤ (p.size : Int) := by omega
      clear hrl hrz hkk hRC hRCl hP1 hP1l HSN HENT HE2 HP HCK HSPL hdz
      generalize strF (partT paxN 120 (recL (pathK, p.data.toList))) = X1 at *
      generalize strF (partT (p.data.toList.take 100) 48 d.data.toList) = X2 at *
      have hcat : ∀ w9 : World, (Op.stringOp .add X1 X2).run Tryz.prog w9 = .ok (.string (X1 ++ X2)) w9 := fun w9 => run_string_add_sum w9 _ _ (by omega)
      go_wp2_with fail
      refine (CE.out _ (HTB.out _ HB3.out)).mono ?_
      rintro e w4 ⟨rfl, hb4⟩
      have hk4 := (step_of_below hb4).blk HK3.out List.not_mem_nil List.not_mem_nil
      have HKC := Lib.hid hk4
      have HBC := Lib.hid (HB3.out.trans (hb4.mono HB3.out.size))
      clear r0 r1 hb4 hk4 HK3 HB3 CE
      go_upto_region 8 with fail
      have HKP : Hid (∀ wx : World, Blk wx w.heap.size 23 #[.string p, .string d] → wx.cell? ⟨w.heap.size, 0, none⟩ = some (.string p) ∧ wx.cell? ⟨w.heap.size, 1, none⟩ = some (.string d)) := Lib.hid fun wx hk => ⟨blk_cell hk 0, blk_cell hk 1⟩
      have HBC2 := Lib.hid HBC.out.drew
      have HKC2 : Hid (Blk w4.drew w.heap.size 23 #[.string p, .string d]) := HKC
      clear HBC HKC
      have HBC := HBC2
      have HKC := HKC2
      clear HBC2 HKC2
      go_region_held3 (fun w' => w'.cell? ⟨w.heap.size, 0, none⟩ = some (.string p) ∧ w'.cell? ⟨w.heap.size, 1, none⟩ = some (.string d))
        (first | exact HKP.out _ HKC.out)
        (first
          | (go_at_call_of 28 (Value.string RC); refine (C1.out _ (HTB.out _ HBC.out)).mono ?_; rintro e wn ⟨rfl, hb9⟩
             have HK9 := Lib.hid ((step_of_below hb9).blk HKC.out List.not_mem_nil List.not_mem_nil)
             have HB9 := Lib.hid (HBC.out.trans (hb9.mono HBC.out.size))
             clear hb9 HKC HBC
             have HKC := HK9
             have HBC := HB9
             clear HK9 HB9)
          | (go_at_call_of 28 (Value.string d); refine (C2.out _ (HTB.out _ HBC.out)).mono ?_; rintro e wn ⟨rfl, hb9⟩
             have HK9 := Lib.hid ((step_of_below hb9).blk HKC.out List.not_mem_nil List.not_mem_nil)
             have HB9 := Lib.hid (HBC.out.trans (hb9.mono HBC.out.size))
             clear hb9 HKC HBC
             have HKC := HK9
             have HBC := HB9
             clear HK9 HB9))
      rw [HEND.out]
      have HG := Lib.hid (HF.out _ HBC.out)
      go_wp2_with fail
      exact HG.out
    · have C1 := Lib.hid fun (wx : World) (ht : Tabs wx) => claytar_any wx ht p d 48 (by omega) (by omega) (by omega)
      have HEND : Hid (entT p.data.toList d.data.toList = partT p.data.toList 48 d.data.toList) := Lib.hid (by rw [HENT.out, if_pos rfl])
      have HF := Lib.hid fun w' => HP.out _ 0 w' (HE2.out.trans (by rw [HEND.out]))
      clear HSN HENT HE2 HP HCK HSPL
      go_wp2_with fail
      refine (C1.out _ (HTB.out _ HB3.out)).mono ?_
      rintro e w4 ⟨rfl, hb4⟩
      have HG := Lib.hid (HF.out w4 (HB3.out.trans (hb4.mono HB3.out.size)))
      clear hb4
      go_wp2_with fail
      exact HG.out
  · have t0 : ((N : Int) != 0) = true := bne_iff_ne.2 (by omega)
    have HG := Lib.hid (HP.out [] N w2 (by
      have hN := HN.out
      rw [HE.out]
      by_cases h1 : ck = 0
      · rw [if_neg (fun q => q h1)] at hN ⊢
        by_cases h2 : 262144 < d.size
        · rw [if_pos h2] at hN ⊢
          rw [hN]
        · rw [if_neg h2] at hN
          exact absurd hN eN
      · rw [if_pos h1] at hN ⊢
        rw [hN]) HB2.out)
    clear eN
    go_wp2_with fail
    exact HG.out
end Go.Proofs.YtdjmfkodjjjhfaaGreatDoor
/- Tar's code: Pack of few, short files. Conditions: the tables are there. -/
namespace Go.Proofs.YtdjmfkodjjjhfaaGreatDoor
open Go.RowKit

set_option maxHeartbeats 6400000 in
set_option maxRecDepth 100000 in
theorem cpack_any (w : World) (hT : Tabs w) (A : Option Addr) (n c : Nat) (L : List PairB) (hI : PIn w A n L) (hli : lightT (L.map toL) 0 = true) :
    Calls Tryz.prog 17 #[.slice A n c] w fun e w' => e = .returned (.tuple #[.string (strF (packA (L.map toL)).1), .int .i64 (packA (L.map toL)).2]) ∧ Below w.heap.size w w' := by
  have HNO : Hid (∀ (k : Nat) (w' : World), k ≠ 0 → packE (L.map toL) = k → Below w.heap.size w w' → (fun e w' => e = Ending.returned (.tuple #[.string (strF (packA (L.map toL)).1), .int .i64 (packA (L.map toL)).2]) ∧ Below w.heap.size w w') (.returned (.tuple #[.string ⟨#[]⟩, .int .i64 k])) w') := Lib.hid fun k w' hk h hb => by
    have : packA (L.map toL) = ([], k) := by unfold packA; rw [h, if_pos hk]
    rw [this]
    exact ⟨rfl, hb⟩
  have HYES : Hid (∀ (X : ByteArray) (w' : World), packE (L.map toL) = 0 → X = strF (flatT (L.map toL) ++ List.replicate 1024 0) → Below w.heap.size w w' → (fun e w' => e = Ending.returned (.tuple #[.string (strF (packA (L.map toL)).1), .int .i64 (packA (L.map toL)).2]) ∧ Below w.heap.size w w') (.returned (.tuple #[.string X, .int .i64 0])) w') := Lib.hid fun X w' h hX hb => by
    have : packA (L.map toL) = (flatT (L.map toL) ++ List.replicate 1024 0, 0) := by unfold packA; rw [h, if_neg (fun e => e rfl)]
    rw [this, hX]
    exact ⟨rfl, hb⟩
  generalize (fun e w' => e = Ending.returned (.tuple #[.string (strF (packA (L.map toL)).1), .int .i64 (packA (L.map toL)).2]) ∧ Below w.heap.size w w') = PO at *
  obtain ⟨i5, h5, hz0', hz1, hz2⟩ := info_parts Tryz.info5
  have HTB : Hid (∀ wx : World, Below w.heap.size w wx → Tabs wx) := Lib.hid fun wx hb => hT.below hb
  have HI := Lib.hid hI
  have hlen := hI.1
  have HLEN := Lib.hid hlen
  obtain ⟨hl1, hl2⟩ := light_sum _ 0 hli (by omega)
  rw [List.length_map] at hl1
  have hn : n ≤ 40 := by omega
  have HSZ : Hid (∀ q, q < n → (L.getD q noB).1.size + (L.getD q noB).2.size ≤ 40000) := Lib.hid fun q hq => hl2 (toL (L.getD q noB)) (List.mem_map.2 ⟨_, mem_getD L q (by omega), rfl⟩)
  have HSP := Lib.hid fun q (hq : q < n) h => packE_split L q (by omega) h
  have HFB : Hid (packE (L.map toL) = 0 → (flatT (L.map toL)).length ≤ 200000) := Lib.hid fun h => by
    have := light_flatT _ 0 hli (by omega) ((packE_ok _).1 h)
    omega
  have HNX : Hid (∀ q, q < n → flatT ((L.take (q + 1)).map toL) = flatT ((L.take q).map toL) ++ entT (L.getD q noB).1.data.toList (L.getD q noB).2.data.toList) := Lib.hid fun q hq => by
    rw [flatT_next L q (by omega)]
    rfl
  have HTL := Lib.hid (flatT_take_le L)
  have HLN : Hid (L.take n = L) := Lib.hid (by rw [← hlen, List.take_length])
  have HCK := Lib.hid fun (wx : World) (p d : ByteArray) (hp : p.size ≤ 140737488355328) (hd : d.size ≤ 140737488355328) => ccheckE_any wx p d hp hd
  have HEN := Lib.hid fun (wx : World) (ht : Tabs wx) (p d : ByteArray) (hp : p.size ≤ 140737488355328) (hd : d.size ≤ 140737488355328) => centry_any wx ht p d hp hd
  have HRP := Lib.hid fun wx : World => repeat_byte wx 0 1024 (by omega)
  clear hI hli hl1 hl2 hlen hT
  go_enter Tryz.func17, Tryz.ntmps17
  go_wp2_with fail
  go_loopw [15] (fun si wx => ∃ q : Nat, si = .int .i64 q ∧ q ≤ n ∧ Hid (packE ((L.take q).map toL) = 0) ∧ Below w.heap.size w wx) (fun si _ => n - (intOf si).toNat)
  case atStart => exact ⟨0, rfl, Nat.zero_le _, Lib.hid rfl, Below.refl _ _⟩
  case round =>
    obtain ⟨q, rfl, hqn, hJ, hbx⟩ := hrel
    rename World => w1
    have HBX := Lib.hid hbx
    by_cases e : q < n
    · have d2 : decide ((q : Int) < (n : Int)) = true := decide_eq_true (by omega)
      obtain ⟨b, off, hA, hc⟩ := (HI.out.below hbx).2 (by omega)
      obtain ⟨c1, c2⟩ := hc q e
      have hsz := HSZ.out q e
      obtain ⟨hs1, hs2⟩ := HSP.out q e hJ.out
      have h5' : (toL (L.getD q noB)).1 = (L.getD q noB).1.data.toList := rfl
      have h6 : (toL (L.getD q noB)).2.length = (L.getD q noB).2.size := rfl
      rw [h5', h6] at hs1 hs2
      generalize (L.getD q noB).1 = K at *
      generalize (L.getD q noB).2 = V at *
      obtain ⟨ck, hck⟩ : ∃ k, k = checkL K.data.toList := ⟨_, rfl⟩
      have C1 := Lib.hid fun wx : World => HCK.out wx K V (by omega) (by omega)
      rw [← hck] at C1 hs1 hs2
      obtain ⟨N, hN⟩ : ∃ N : Nat, N = (if ck ≠ 0 then 140 else if 262144 < V.size then 3 else 0) := ⟨_, rfl⟩
      rw [← hN] at C1
      have hr := blk_new w1 23 #[.string K, .string V]
      have HB2 := Lib.hid (HBX.out.alloc HBX.out.size (.cells #[.string K, .string V] 23))
      have hNE : N ≠ 0 → packE (L.map toL) = N := fun h => by
        by_cases h1 : ck = 0
        · rw [hN, if_neg (fun q => q h1), if_neg (by omega)] at h
          exact absurd rfl h
        · rw [hs1, hN, if_pos h1, if_pos h1]
      have hNZ : N = 0 → packE ((L.take (q + 1)).map toL) = 0 := fun h => by
        by_cases h1 : ck = 0
        · exact hs2 h1 (by omega)
        · rw [hN, if_pos h1] at h
          cases h
      have hz0 : (0 : Int) ≤ (q : Int) := by omega
      have hzn : (q : Int) < (n : Int) := by omega
      subst hA
      clear hc hbx hs1 hs2 h5' h6 hck hsz hN
      go_upto_region 4 with fail
      generalize w1.alloc (.cells #[.string K, .string V] 23) = w2 at *
      have e0 := (blk_cell hr 0).trans (rfl : _ = some (Value.string K))
      have e1 := (blk_cell hr 1).trans (rfl : _ = some (Value.string V))
      clear hr
      by_cases ec : N = 0
      · have d3 : ((N : Int) != 0) = false := by rw [ec]; rfl
        have HJ2 := Lib.hid (hNZ ec)
        clear ec hNE hNZ
        go_wp2_with fail
        refine (C1.out _).mono ?_
        rintro e w3 ⟨rfl, hb3⟩
        have HB3 := Lib.hid (HB2.out.trans (hb3.mono HB2.out.size))
        clear hb3
        go_wp2_with fail
        go_roundw
        case rel => exact ⟨q + 1, by go_num, by omega, HJ2, HB3.out⟩
        case measure => simp [intOf]; omega
      · have d3 : ((N : Int) != 0) = true := bne_iff_ne.2 (by omega)
        have HF := Lib.hid fun w' => HNO.out N w' ec (hNE ec)
        clear ec hNE hNZ
        go_wp2_with fail
        refine (C1.out _).mono ?_
        rintro e w3 ⟨rfl, hb3⟩
        have HG := Lib.hid (HF.out w3 (HB2.out.trans (hb3.mono HB2.out.size)))
        clear hb3
        go_wp2_with fail
        exact HG.out
    · obtain rfl : q = n := by omega
      have d2 : decide ((q : Int) < (q : Int)) = false := decide_eq_false (by omega)
      have HOK : Hid (packE (L.map toL) = 0) := Lib.hid (by rw [← HLN.out]; exact hJ.out)
      have HALL := Lib.hid ((packE_ok _).1 HOK.out)
      have HFB2 := Lib.hid (HFB.out HOK.out)
      have hZz : (strF (List.replicate 1024 (0 : UInt8))).size = 1024 := by show (List.replicate 1024 (0 : UInt8)).length = _; rw [List.length_replicate]
      obtain ⟨Z, hZ⟩ : ∃ Z, Z = strF (List.replicate 1024 (0 : UInt8)) := ⟨_, rfl⟩
      rw [← hZ] at HRP hZz
      have HZ := Lib.hid hZ
      have HZZ := Lib.hid hZz
      clear hbx hJ hZ hZz
      go_wp2_with fail
      refine (HRP.out _).mono ?_
      rintro e w2 ⟨rfl, hb2⟩
      have HB2 := Lib.hid (HBX.out.trans (hb2.mono HBX.out.size))
      clear hb2
      go_wp2_with fail
      go_loopw [8, 28] (fun sv sn wx => ∃ (p : Nat) (A2 : Option Addr) (m c2 : Nat), sv = .slice A2 m c2 ∧ sn = .int .i64 p ∧ p ≤ q ∧ m ≤ 200000 ∧ Hid (wx.ownsRow w.heap.size 5 1 (.slice A2 m c2) m ((flatT ((L.take p).map toL)).map bv)) ∧ Below w.heap.size w wx) (fun _ sn _ => q - (intOf sn).toNat)
      case atStart => exact ⟨0, none, 0, 0, rfl, rfl, Nat.zero_le _, Nat.zero_le _, Lib.hid (World.ownsRow_nil _ _ _ _), HB2.out⟩
      case round =>
        obtain ⟨p, A2, m, c2, rfl, rfl, hpq, hm, hrow, hbx⟩ := hrel
        have HBX := Lib.hid hbx
        by_cases ep : p < q
        · have d0 : decide ((p : Int) < (q : Int)) = true := decide_eq_true (by omega)
          obtain ⟨b, off, hA, hc⟩ := (HI.out.below hbx).2 (by omega)
          obtain ⟨c1, c3⟩ := hc p ep
          have hsz := HSZ.out p ep
          have hnx := HNX.out p ep
          have hfl := HTL.out (p + 1)
          have hfp := hrow.out.1
          rw [List.length_map] at hfp
          have hal := HALL.out (toL (L.getD p noB)) (List.mem_map.2 ⟨_, mem_getD L p (by have := HLEN.out; omega), rfl⟩)
          have hea : entryA (L.getD p noB).1.data.toList (L.getD p noB).2.data.toList = (entT (L.getD p noB).1.data.toList (L.getD p noB).2.data.toList, 0) := by
            unfold entryA
            rw [if_neg (fun h => h hal.1), if_neg (by have := hal.2; exact Nat.not_lt.2 this)]
          have C2 := Lib.hid fun (wx : World) (ht : Tabs wx) => HEN.out wx ht (L.getD p noB).1 (L.getD p noB).2 (by omega) (by omega)
          rw [hea] at C2
          dsimp only at C2
          generalize (L.getD p noB).1 = K at *
          generalize (L.getD p noB).2 = V at *
          obtain ⟨X, hX⟩ : ∃ X, X = strF (entT K.data.toList V.data.toList) := ⟨_, rfl⟩
          have hXl : X.data.toList = entT K.data.toList V.data.toList := by rw [hX]; rfl
          rw [← hX] at C2
          rw [← hXl] at hnx
          obtain ⟨s, hs⟩ : ∃ s, s = X.size := ⟨_, rfl⟩
          have hsl : X.data.toList.length = s := by rw [hs]; rfl
          have hms : m + s ≤ 200000 := by
            rw [hnx, List.length_append] at hfl
            have := HFB2.out
            omega
          have hr := blk_new wr 23 #[.string K, .string V]
          have hbr : Below wr.heap.size wr (wr.alloc (.cells #[.string K, .string V] 23)) := (Below.refl _ _).alloc (Nat.le_refl _) _
          have HROW2 := Lib.hid ((step_of_below hbr).row hrow.out (fun k _ => List.not_mem_nil) List.not_mem_nil)
          have HB2 := Lib.hid (HBX.out.alloc HBX.out.size (.cells #[.string K, .string V] 23))
          have hz0 : (0 : Int) ≤ (p : Int) := by omega
          have hzn : (p : Int) < (q : Int) := by omega
          have hZz := HZZ.out
          have t1 : decide ((524288 : Int) - (Z.size : Int) - (m : Int) < (s : Int)) = false := decide_eq_false (by omega)
          have hZz2 : Z.size ≤ 1024 := by omega
          have HXZ := Lib.hid hs.symm
          have HFN2 := Lib.hid hnx
          subst hA
          clear hc hbx hrow hbr hnx hfl hfp hX hXl hsz hal hea hs hsl hZz
          go_upto_region 13 with fail
          generalize wr.alloc (.cells #[.string K, .string V] 23) = w3 at *
          have e0 := (blk_cell hr 0).trans (rfl : _ = some (Value.string K))
          have e1 := (blk_cell hr 1).trans (rfl : _ = some (Value.string V))
          clear hr
          go_wp2_with fail
          refine (C2.out w3 (HTB.out _ HB2.out)).mono ?_
          rintro e w4 ⟨rfl, hb4⟩
          have HB4 := Lib.hid (HB2.out.trans (hb4.mono HB2.out.size))
          have hrow4 := (step_of_below hb4).row HROW2.out (fun k _ => List.not_mem_nil) List.not_mem_nil
          have hsize4 := HB4.out.size
          have hxs : X.size = s := HXZ.out
          clear hb4 HB2 HROW2 e0 e1
          go_wp2_with (at_builtin; refine Lib.wpList_append_own_string _ rfl _ _ 80 9 rfl w.heap.size 5 i5 Tryz.underlying80 Tryz.underlying9 h5 hz0' hz1 hz2 _ _ _ rfl hrow4 X rfl ?c3 ?c4 ?c5 ?_)
          case c3 => have := HXZ.out; unfold maxLen; omega
          case c4 => have := HXZ.out; omega
          case c5 => exact hsize4
          intro v5 w5 hown5 hgrow5 _
          have HB5 := Lib.hid (HB4.out.grown hgrow5 hsize4 (fun k hk => (hrow4.lt k hk).1))
          rw [← List.map_take] at hown5
          obtain ⟨A5, c5, rfl, _⟩ := own_slice hown5
          have hown6 : w5.ownsRow w.heap.size 5 1 (.slice A5 (m + s) c5) (m + s) ((flatT ((L.take (p + 1)).map toL)).map bv) := by
            rw [HFN2.out, List.map_append]
            exact hown5
          have HOWN := Lib.hid hown6
          clear hown5 hown6 hgrow5 hrow4
          obtain ⟨m2, hm2⟩ : ∃ m2, m2 = m + s := ⟨_, rfl⟩
          rw [← hm2] at HOWN hms ⊢
          clear hm2
          go_wp2_with fail
          go_roundw
          case rel => exact ⟨p + 1, A5, m2, c5, rfl, by go_num, by omega, hms, HOWN, HB5.out⟩
          case measure => simp [intOf]; omega
        · obtain rfl : p = q := by omega
          have d0 : decide ((p : Int) < (p : Int)) = false := decide_eq_false (by omega)
          have hro := hrow.out
          rw [HLN.out] at hro
          have hml : m = (flatT (L.map toL)).length := by
            have := hro.1
            rw [List.length_map] at this
            omega
          have hcv := xconv_row (B := w.heap.size) (v := .slice A2 m c2) (l := flatT (L.map toL)) (by rw [← hml]; exact hro)
          have HG := Lib.hid (HYES.out (strF (flatT (L.map toL)) ++ Z) wr HOK.out (by rw [HZ.out, strF_app]) hbx)
          have hzf : (strF (flatT (L.map toL))).size ≤ 200000 := HFB2.out
          have hzz := HZZ.out
          have hcat : ∀ w9 : World, (Op.stringOp .add (strF (flatT (L.map toL))) Z).run Tryz.prog w9 = .ok (.string (strF (flatT (L.map toL)) ++ Z)) w9 := fun w9 => run_string_add_sum w9 _ _ (by omega)
          rw [show (⟨(flatT (L.map toL)).toArray⟩ : ByteArray) = strF (flatT (L.map toL)) from rfl] at hcv
          generalize strF (flatT (L.map toL)) = FL at *
          clear hro hml hrow hbx hzz hzf
          go_wp2_with fail
          exact HG.out
end Go.Proofs.YtdjmfkodjjjhfaaGreatDoor
