/- Ustar's code: fields laid (made, ownerField, kindField, sumField, lay), Zero. Conditions: the tables are there, where numbers are told. -/
import Derived.Test.YtiihkjloenlfmaaDoorUsc
import Derived.Test.YtiihkjloenlfmaaDoorFwh
namespace Go.Proofs.YtiihkjloenlfmaaDoor
open Go.RowKit

abbrev laidV (t : ByteArray) (e : Nat) : Value := .agg #[.string t, .int .i64 e]
set_option maxHeartbeats 1600000 in
set_option maxRecDepth 100000 in
theorem cmade_any (w : World) (t : ByteArray) (e : Nat) : Calls Tryd.prog 18 #[.string t, .int .i64 e] w fun x w' => x = .returned (laidV t e) ∧ Below w.heap.size w w' := by
  have hr := blk_new w 46 #[.string ⟨#[]⟩, .int .i64 0]
  have HB := Lib.hid (show Below w.heap.size w (w.alloc (.cells #[.string ⟨#[]⟩, .int .i64 0] 46)) from (Below.refl _ _).alloc (Nat.le_refl _) _)
  go_enter Tryd.func18, Tryd.ntmps18
  go_upto_region 1 with fail
  generalize w.alloc (.cells #[.string ⟨#[]⟩, .int .i64 0] 46) = w2 at *
  have e0 := (blk_cell hr 0).trans (rfl : _ = some (Value.string ⟨#[]⟩))
  have e1 := (blk_cell hr 1).trans (rfl : _ = some (Value.int .i64 0))
  have f0 := blk_frozen hr 0
  have f1 := blk_frozen hr 1
  clear hr
  go_wp2_with fail
  refine bodyPost_ret (v := .agg #[.string t, .int .i64 e]) ?_ rfl ?_
  · simp [results, Tryd.results18, go_sem, e0, e1]
  · exact ⟨rfl, (HB.out.setCell (p := ⟨w.heap.size, 0, none⟩) (Nat.le_refl _) _).setCell (p := ⟨w.heap.size, 1, none⟩) (Nat.le_refl _) _⟩

/-- What ownerField lays. -/
def ownA (s : List UInt8) : List UInt8 × Nat := ((textA s 31).1 ++ [0], (textA s 31).2)
set_option maxHeartbeats 1600000 in
set_option maxRecDepth 100000 in
theorem cowner_any (w : World) (t : ByteArray) (hs : t.size ≤ 140737488355328) : Calls Tryd.prog 22 #[.string t] w fun x w' => x = .returned (laidV (strF (ownA t.data.toList).1) (ownA t.data.toList).2) ∧ Below w.heap.size w w' := by
  have C1 := Lib.hid fun wx : World => ctext_any wx t 31 hs (by omega) (by omega)
  have hsz : (strF (textA t.data.toList 31).1).size ≤ 31 := by
    show (textA t.data.toList 31).1.length ≤ 31
    unfold textA
    split
    · exact Nat.zero_le _
    · split
      · exact Nat.zero_le _
      · next h => rw [List.length_append, List.length_replicate]; omega
  have HAP : Hid (strF (textA t.data.toList 31).1 ++ ⟨#[0]⟩ = strF (ownA t.data.toList).1) := Lib.hid (strF_app _ [0])
  have HE : Hid ((textA t.data.toList 31).2 = (ownA t.data.toList).2) := Lib.hid rfl
  generalize (ownA t.data.toList).1 = OA at *
  generalize (ownA t.data.toList).2 = OE at *
  generalize strF (textA t.data.toList 31).1 = T at *
  generalize (textA t.data.toList 31).2 = E at *
  have hr := blk_new w 46 #[.string ⟨#[]⟩, .int .i64 0]
  have HB := Lib.hid (show Below w.heap.size w (w.alloc (.cells #[.string ⟨#[]⟩, .int .i64 0] 46)) from (Below.refl _ _).alloc (Nat.le_refl _) _)
  go_enter Tryd.func22, Tryd.ntmps22
  go_upto_region 1 with fail
  generalize w.alloc (.cells #[.string ⟨#[]⟩, .int .i64 0] 46) = w2 at *
  have HR := Lib.hid hr
  clear hr
  go_wp2_with fail
  refine (C1.out _).mono ?_
  rintro e w3 ⟨rfl, hb3⟩
  have hr := (step_of_below hb3).blk HR.out List.not_mem_nil List.not_mem_nil
  have HB3 := Lib.hid (HB.out.trans (hb3.mono HB.out.size))
  have e0 := (blk_cell hr 0).trans (rfl : _ = some (Value.string ⟨#[]⟩))
  have e1 := (blk_cell hr 1).trans (rfl : _ = some (Value.int .i64 0))
  have f0 := blk_frozen hr 0
  have f1 := blk_frozen hr 1
  clear hr hb3 HR HB
  go_wp2_with fail
  rw [HAP.out, HE.out]
  refine bodyPost_ret (v := laidV (strF OA) OE) ?_ rfl ?_
  · simp [results, Tryd.results22, go_sem, e0, e1]
  · exact ⟨rfl, (HB3.out.setCell (p := ⟨w.heap.size, 0, none⟩) (Nat.le_refl _) _).setCell (p := ⟨w.heap.size, 1, none⟩) (Nat.le_refl _) _⟩

/-- What kindField lays. -/
def kindA (k : Nat) : List UInt8 × Nat := if k = 48 ∨ k = 53 ∨ k = 120 ∨ k = 103 then ([UInt8.ofNat k], 0) else ([], 160)
set_option maxRecDepth 100000 in
theorem kind_mem (c : UInt8) : c ∈ (⟨#[48, 53, 120, 103]⟩ : ByteArray).data.toList ↔ (c.toNat = 48 ∨ c.toNat = 53 ∨ c.toNat = 120 ∨ c.toNat = 103) := by
  show c ∈ [48, 53, 120, 103] ↔ _
  simp only [List.mem_cons, List.not_mem_nil, or_false]
  have e : ∀ d : UInt8, c = d ↔ c.toNat = d.toNat := fun d => ⟨fun h => by rw [h], fun h => UInt8.toNat_inj.1 h⟩
  rw [e 48, e 53, e 120, e 103]
  rfl
set_option maxHeartbeats 1600000 in
set_option maxRecDepth 100000 in
theorem ckind_any (w : World) (k : Nat) (hk : k < 256) : Calls Tryd.prog 21 #[.int .u8 k] w fun x w' => x = .returned (laidV (strF (kindA k).1) (kindA k).2) ∧ Below w.heap.size w w' := by
  obtain ⟨c, hc⟩ : ∃ c : UInt8, c.toNat = k := ⟨UInt8.ofNat k, by rw [UInt8.toNat_ofNat']; omega⟩
  have C1 := Lib.hid fun wx : World => sidx_any wx ⟨#[48, 53, 120, 103]⟩ c
  rw [hc] at C1
  have hm := kind_mem c
  rw [hc] at hm
  have hcv : UInt8.ofNat k = c := by rw [← hc]; exact UInt8.ofNat_toNat
  have hr := blk_new w 46 #[.string ⟨#[]⟩, .int .i64 0]
  have HB := Lib.hid (show Below w.heap.size w (w.alloc (.cells #[.string ⟨#[]⟩, .int .i64 0] 46)) from (Below.refl _ _).alloc (Nat.le_refl _) _)
  obtain ⟨w2, hw2⟩ : ∃ w2, w2 = w.alloc (.cells #[.string ⟨#[]⟩, .int .i64 0] 46) := ⟨_, rfl⟩
  rw [← hw2] at hr HB
  have HW2 := Lib.hid hw2.symm
  have e0 := (blk_cell hr 0).trans (rfl : _ = some (Value.string ⟨#[]⟩))
  have e1 := (blk_cell hr 1).trans (rfl : _ = some (Value.int .i64 0))
  have f0 := blk_frozen hr 0
  have f1 := blk_frozen hr 1
  have HR := Lib.hid hr
  clear hr hw2
  by_cases h : k = 48 ∨ k = 53 ∨ k = 120 ∨ k = 103
  · have HE : Hid (kindA k = ([c], 0)) := Lib.hid (by unfold kindA; rw [if_pos h, hcv])
    have hp := ibyte_pos _ _ (hm.2 h)
    generalize Lib.indexByte (⟨#[48, 53, 120, 103]⟩ : ByteArray).data.toList c = y at *
    have d1 : decide (y < 0) = false := decide_eq_false (by omega)
    rw [HE.out]
    have HCV : Hid (∀ (w1 : World) (g : Nat), w1.cell? ⟨g, 0, none⟩ = some (.int .u8 k) → (convert 38 9 (.slice (some ⟨g, 0, none⟩) 1 1)).run Tryd.prog w1 = .ok (.string (strF [c])) w1) := Lib.hid (by
      intro w1 g hcc
      have := run_convert_bytes_arg (P := Tryd.prog) w1 38 5 Tryd.underlying38 Tryd.underlying5 g 0 1 1 [(k : Int)] rfl (fun i hi => by
        obtain rfl : i = 0 := by omega
        exact hcc) 9 Tryd.underlying9
      rw [show strOfNums [(k : Int)] = strF [c] from by rw [← hcv]; rfl] at this
      exact this)
    have hb2 := blk_new w2 5 #[.int .u8 k]
    have hcv2 := HCV.out (w2.alloc (.cells #[.int .u8 k] 5)) w2.heap.size (blk_cell hb2 0)
    have hb3 : Below w2.heap.size w2 (w2.alloc (.cells #[.int .u8 k] 5)) := (Below.refl _ _).alloc (Nat.le_refl _) _
    have hk3 := (step_of_below hb3).blk HR.out List.not_mem_nil List.not_mem_nil
    have g0 := (blk_cell hk3 0).trans (rfl : _ = some (Value.string ⟨#[]⟩))
    have g1 := (blk_cell hk3 1).trans (rfl : _ = some (Value.int .i64 0))
    have k0 := blk_frozen hk3 0
    have k1 := blk_frozen hk3 1
    have HB3 := Lib.hid (HB.out.trans (hb3.mono HB.out.size))
    clear h hm hp hcv hc hb2 hb3 hk3 HR HB HE HCV
    go_enter Tryd.func21, Tryd.ntmps21
    go_upto_region 1 with fail
    rw [HW2.out]
    go_wp2_with fail
    refine (C1.out _).mono ?_
    rintro e w3 ⟨rfl, rfl⟩
    go_wp2_with fail
    refine bodyPost_ret (v := laidV (strF [c]) 0) ?_ rfl ?_
    · simp [results, Tryd.results21, go_sem, g0, g1]
    · exact ⟨rfl, (HB3.out.setCell (p := ⟨w.heap.size, 0, none⟩) (Nat.le_refl _) _).setCell (p := ⟨w.heap.size, 1, none⟩) (Nat.le_refl _) _⟩
  · have HE : Hid (kindA k = ([], 160)) := Lib.hid (by unfold kindA; rw [if_neg h])
    have hp := ibyte_neg _ _ (fun hh => h (hm.1 hh))
    generalize Lib.indexByte (⟨#[48, 53, 120, 103]⟩ : ByteArray).data.toList c = y at *
    have d1 : decide (y < 0) = true := decide_eq_true (by omega)
    rw [HE.out]
    clear h hm hp hcv hc HR HE
    go_enter Tryd.func21, Tryd.ntmps21
    go_upto_region 1 with fail
    rw [HW2.out]
    go_wp2_with fail
    refine (C1.out _).mono ?_
    rintro e w3 ⟨rfl, rfl⟩
    go_wp2_with fail
    refine bodyPost_ret (v := laidV (strF []) 160) ?_ rfl ?_
    · simp [results, Tryd.results21, go_sem, e0, e1]
      rfl
    · exact ⟨rfl, (HB.out.setCell (p := ⟨w.heap.size, 0, none⟩) (Nat.le_refl _) _).setCell (p := ⟨w.heap.size, 1, none⟩) (Nat.le_refl _) _⟩

theorem zeroA_rep (l : List UInt8) : zeroA l = decide (l = List.replicate 512 0) := by
  unfold zeroA allZ
  rw [Bool.eq_iff_iff, Bool.and_eq_true, decide_eq_true_iff, decide_eq_true_iff, List.all_eq_true]
  constructor
  · rintro ⟨h1, h2⟩
    exact List.eq_replicate_iff.2 ⟨h2, fun c hc => of_decide_eq_true (h1 c hc)⟩
  · intro h
    obtain ⟨h2, h1⟩ := List.eq_replicate_iff.1 h
    exact ⟨fun c hc => decide_eq_true (h1 c hc), h2⟩
set_option maxRecDepth 100000 in
theorem czero_any (w : World) (s : ByteArray) : Calls Tryd.prog 14 #[.string s] w fun e w' => e = .returned (.bool (zeroA s.data.toList)) ∧ Below w.heap.size w w' := by
  have C1 := Lib.hid fun wx : World => repeat_byte wx 0 512 (by omega)
  have he : (s.toList == (strF (List.replicate 512 0)).toList) = zeroA s.data.toList := by
    rw [fsame, strF_list, zeroA_rep]
  generalize strF (List.replicate 512 0) = T at *
  generalize zeroA s.data.toList = b at *
  go_enter Tryd.func14, Tryd.ntmps14
  go_wp2_with fail
  refine (C1.out _).mono ?_
  rintro e w2 ⟨rfl, hb2⟩
  have HB := Lib.hid hb2
  clear hb2
  go_wp2_with fail
  go_ret
  exact ⟨rfl, HB.out⟩

/-- What sumField tells. -/
def sumT (A B : List UInt8) : List UInt8 := oW ((sumA (A ++ (blanks ++ B))).1 : Nat) 7 ++ [32]
set_option maxRecDepth 100000 in
theorem oW_seven (x : Int) : (oW x 7).length ≤ 7 := by
  unfold oW octalA
  split
  · exact Nat.zero_le _
  · split
    · exact Nat.zero_le _
    · simp [octL_length]
set_option maxHeartbeats 1600000 in
set_option maxRecDepth 100000 in
theorem csumf_any (w : World) (hT : Tabs w) (A B : List UInt8) (hA : A.length ≤ 1000) (hB : B.length ≤ 1000) :
    Calls Tryd.prog 23 #[.string (strF A), .string (strF B)] w fun e w' => e = .returned (.string (strF (sumT A B))) ∧ Below w.heap.size w w' := by
  have HTB : Hid (∀ wx : World, Below w.heap.size w wx → Tabs wx) := Lib.hid fun wx hb => hT.below hb
  have C1 := Lib.hid fun wx : World => repeat_byte wx 32 8 (by omega)
  have C2 := Lib.hid fun wx : World => csum15_any wx (strF (A ++ (blanks ++ B))) (by show (A ++ (blanks ++ B)).length ≤ _; unfold blanks; simp; omega)
  rw [strF_list] at C2
  have hn := sumF_le (A ++ (blanks ++ B)) 512
  have hn2 : (sumA (A ++ (blanks ++ B))).1 ≤ 200000 := by
    unfold sumA
    split
    · exact Nat.zero_le _
    · show 256 + _ ≤ _; omega
  have C3 := Lib.hid fun (wx : World) (ht : Tabs wx) => coctal_any wx ht ((sumA (A ++ (blanks ++ B))).1 : Nat) 7 (by omega) (by omega) (by omega) (by omega)
  have HAP : Hid (strF A ++ strF (List.replicate 8 32) ++ strF B = strF (A ++ (blanks ++ B))) := Lib.hid (by rw [strF_app, strF_app, List.append_assoc]; rfl)
  have HSM : Hid (strF (oW ((sumA (A ++ (blanks ++ B))).1 : Nat) 7) ++ ⟨#[32]⟩ = strF (sumT A B)) := Lib.hid (strF_app _ [32])
  have hz : (strF (oW ((sumA (A ++ (blanks ++ B))).1 : Nat) 7)).size ≤ 7 := oW_seven _
  have HO : Hid ((octalA ((sumA (A ++ (blanks ++ B))).1 : Nat) 7).1 = oW ((sumA (A ++ (blanks ++ B))).1 : Nat) 7) := Lib.hid rfl
  have hza : (strF A).size ≤ 1000 := hA
  have hzb : (strF B).size ≤ 1000 := hB
  have hzr : (strF (List.replicate 8 (32 : UInt8))).size = 8 := rfl
  have hzm : (strF A ++ strF (List.replicate 8 (32 : UInt8))).size ≤ 1008 := by rw [ByteArray.size_append]; omega
  rw [HO.out] at C3
  clear hn hn2 HO hT
  generalize (octalA ((sumA (A ++ (blanks ++ B))).1 : Nat) 7).2 = OE at *
  generalize strF (oW ((sumA (A ++ (blanks ++ B))).1 : Nat) 7) = OT at *
  generalize (sumA (A ++ (blanks ++ B))).1 = SN at *
  generalize (sumA (A ++ (blanks ++ B))).2 = SE at *
  generalize strF (A ++ (blanks ++ B)) = ALL at *
  generalize strF (List.replicate 8 (32 : UInt8)) = BL at *
  generalize strF (sumT A B) = RES at *
  generalize strF A = TA at *
  generalize strF B = TB at *
  clear hA hB
  go_enter Tryd.func23, Tryd.ntmps23
  go_wp2_with fail
  refine (C1.out _).mono ?_
  rintro e w2 ⟨rfl, hb2⟩
  have HB2 := Lib.hid hb2
  clear hb2
  go_wp2_with fail
  rw [HAP.out]
  refine (C2.out _).mono ?_
  rintro e w3 ⟨rfl, hb3⟩
  have HB3 := Lib.hid (HB2.out.trans (hb3.mono HB2.out.size))
  clear hb3
  go_wp2_with fail
  refine (C3.out _ (HTB.out _ (Hid.out (by assumption)))).mono ?_
  rintro e w4 ⟨rfl, hb4⟩
  have HB4 := Lib.hid (HB3.out.trans (hb4.mono HB3.out.size))
  clear hb4
  go_wp2_with fail
  rw [HSM.out]
  go_ret
  exact ⟨rfl, HB4.out⟩
end Go.Proofs.YtiihkjloenlfmaaDoor
