/- What is asked of ustar's functions (UstarDone); the answers that the document fixes; Encodes, Decodes, Zeros walked. With the tables and the sizes that the landed code wants (gen16t.py). -/
import Derived.Test.YtiihkjloenlfmaaDoorUsf
import Derived.Test.YtiihkjloenlfmaaDoorTab
import Derived.Laws.MakeOwn
namespace Go.Proofs.YtiihkjloenlfmaaDoor
open Go.RowKit

theorem str2_deep (a b c e : ByteArray) (w : World) : (Op.equalIn 9999 22 (.agg #[.string a, .string b]) (.agg #[.string c, .string e])).run Tryd.prog w = .ok (a.toList == c.toList && b.toList == e.toList) w := str2_in 9997 a b c e w
theorem int2_deep (a b c e : Int) (w : World) : (Op.equalIn 9999 23 (.agg #[.int .i64 a, .int .i64 b]) (.agg #[.int .i64 c, .int .i64 e])).run Tryd.prog w = .ok (a == c && b == e) w := int2_in 9997 a b c e w
/-- The ints and strings of a head lie in their kinds, the strings within the reading's own reach. -/
structure HeadT (h : HeadP) : Prop where
  base : HeadB h
  texts : ∀ i, i < 4 → (mayT h i).size ≤ 140737488355328
  ints : ∀ i, i < 3 → -9223372036854775808 ≤ mayS h i ∧ mayS h i ≤ 9223372036854775807
  size : -9223372036854775808 ≤ h.size ∧ h.size ≤ 9223372036854775807
  time : -9223372036854775808 ≤ h.time ∧ h.time ≤ 9223372036854775807
structure UstarDone : Prop where
  encode : ∀ (w : World), Tabs w → ∀ (h : HeadP), HeadT h → Calls Tryd.prog 9 #[headV h] w fun e w' => e = .returned (.tuple #[.string (strP (encA h).1), .int .i64 (encA h).2]) ∧ Below w.heap.size w w'
  decode : ∀ (w : World) (s : ByteArray), s.size ≤ 140737488355328 → Calls Tryd.prog 12 #[.string s] w fun e w' => e = .returned (.tuple #[headV (decA s.data.toList).1, .int .i64 (decA s.data.toList).2]) ∧ Below w.heap.size w w'
  zero : ∀ (w : World) (s : ByteArray), s.size ≤ 9223372036854775807 → Calls Tryd.prog 14 #[.string s] w fun e w' => e = .returned (.bool (zeroA s.data.toList)) ∧ Below w.heap.size w w'

def headA : HeadP := ⟨⟨#[97]⟩, 5, 48, 420, 0, ⟨#[]⟩, ⟨#[]⟩, ⟨#[]⟩, 0, 0⟩
set_option maxRecDepth 100000 in
theorem headA_b : HeadT headA := ⟨⟨by decide, fun i hi => by
  have : i = 0 ∨ i = 1 ∨ i = 2 ∨ i = 3 := by omega
  rcases this with rfl | rfl | rfl | rfl <;> decide⟩, fun i hi => by
  have : i = 0 ∨ i = 1 ∨ i = 2 ∨ i = 3 := by omega
  rcases this with rfl | rfl | rfl | rfl <;> decide, fun i hi => by
  have : i = 0 ∨ i = 1 ∨ i = 2 := by omega
  rcases this with rfl | rfl | rfl <;> decide, by decide, by decide⟩
theorem headA_may : mayA headA := by decide
theorem headA_enc : ∃ S : List UInt8, encA headA = (S, 0) ∧ decA S = (headA, 0) ∧ S.length = 512 ∧ fld S 100 108 = [48, 48, 48, 48, 54, 52, 52, 0] := by
  have hs : splitL headA.path.data.toList = ([], [97], true) := by decide
  have he : encA headA = (headL headA [] [97], 0) := by
    unfold encA
    rw [hs, if_neg (by decide), if_neg (fun h => h headA_may)]
  obtain ⟨h1, h2, _⟩ := enc_dec headA _ he
  refine ⟨_, he, h1, h2, ?_⟩
  have F := fits_of headA headA_may [] [97] hs
  have hsum := head_sum F
  have h7 : (oW ((sumA (rawL headA [] [97])).1 : Nat) 7 ++ [32]).length = 8 := by rw [List.length_append, seven_len _ hsum.2.1]; rfl
  have L := head_laid F _ h7
  rw [← head_is] at L
  rw [L.fM]
  decide
theorem zeros_conv (w : World) (n : Nat) : (convert 38 9 (.slice (some ⟨w.heap.size, 0, none⟩) n n)).run Tryd.prog (w.alloc (.cells (madeCells #[.int .u8 0] n) 5)) = .ok (.string (strP (List.replicate n 0))) (w.alloc (.cells (madeCells #[.int .u8 0] n) 5)) := by
  have h := run_convert_bytes_arg (P := Tryd.prog) (w.alloc (.cells (madeCells #[.int .u8 0] n) 5)) 38 5 Tryd.underlying38 Tryd.underlying5 w.heap.size 0 n n (List.replicate n 0) List.length_replicate (fun i hi => by
    rw [Nat.zero_add, blk_cell (blk_new w _ _) i, ← Array.getElem?_toList, toList_madeCells_one, List.getElem?_replicate, if_pos hi, List.getD_eq_getElem?_getD, List.getElem?_replicate, if_pos hi]
    rfl) 9 Tryd.underlying9
  rw [show strOfNums (List.replicate n 0) = strP (List.replicate n 0) from by
    unfold strOfNums strP
    rw [List.map_replicate]
    rfl] at h
  exact h
set_option maxRecDepth 100000 in
theorem zeroA_made : zeroA (strP (List.replicate 512 0)).data.toList = true := by
  unfold zeroA allZ
  rw [strP_list, List.all_replicate]
  simp
section
variable (R : UstarDone)
include R
set_option maxHeartbeats 3200000 in
set_option maxRecDepth 100000 in
theorem awake_ustar (w : World) (hT : Tabs w) : Calls Tryd.prog 11 #[] w fun e w' => e = .returned (.bool true) ∧ Below w.heap.size w w' := by
  have HTB : Hid (∀ wx : World, Below w.heap.size w wx → Tabs wx) := Lib.hid fun wx hb => hT.below hb
  obtain ⟨S, he, hd, hl, hf⟩ := headA_enc
  have hv : headV headA = .agg #[.string ⟨#[97]⟩, .int .i64 5, .int .u8 48, .int .i64 420, .int .i64 0, .string ⟨#[]⟩, .string ⟨#[]⟩, .string ⟨#[]⟩, .int .i64 0, .int .i64 0] := rfl
  have C1 := Lib.hid fun (wx : World) (ht : Tabs wx) => R.encode wx ht headA headA_b
  have C2 := Lib.hid fun wx => R.decode wx (strP S) (by show S.length ≤ _; omega)
  have C3 := Lib.hid fun wx => R.zero wx (strP (List.replicate 512 0)) (by show (List.replicate 512 (0 : UInt8)).length ≤ _; rw [List.length_replicate]; omega)
  rw [zeroA_made] at C3
  rw [he, hv] at C1
  rw [strP_list, hd, hv] at C2
  have heq := fun wx => head_eql headA headA wx
  rw [hv, decide_eq_true rfl] at heq
  have dsz : (strP S).size = 512 := hl
  have dsl : (((strP S).extract 100 108).toList == [48, 48, 48, 48, 54, 52, 52, 0]) = true := by
    rw [ByteArray.toList_eq, ext_list, strP_list, beq_iff_eq]
    exact hf
  have HMK := Lib.hid fun wx : World => (show (Instr.makeSlice 38 (.int .i64 512) (.int .i64 512)).run Tryd.prog wx = .ok (.slice (some ⟨wx.heap.size, 0, none⟩) 512 512) (wx.alloc (.cells (madeCells #[.int .u8 0] 512) 5)) from by
    obtain ⟨i5, h5, hz0, hz1, hz2⟩ := info_parts Tryd.info5
    have h := run_make (P := Tryd.prog) wx 38 5 i5 (.int .u8 0) Tryd.underlying38 h5 hz0 .i64 .i64 (512 : Int) (512 : Int) (by omega) (by omega) (by rw [hz2]; decide) (by omega)
    rw [hz1] at h
    exact h)
  have HCV := Lib.hid fun wx => zeros_conv wx 512
  have HEQ := Lib.hid heq
  clear heq he hd hl hf hv R hT
  generalize strP S = T at *
  generalize strP (List.replicate 512 0) = Z at *
  have HK1 := Lib.hid (blk_new w 25 #[.string ⟨#[97]⟩, .int .i64 5, .int .u8 48, .int .i64 420, .int .i64 0, .string ⟨#[]⟩, .string ⟨#[]⟩, .string ⟨#[]⟩, .int .i64 0, .int .i64 0])
  have HB1 := Lib.hid (show Below w.heap.size w (w.alloc (.cells #[.string ⟨#[97]⟩, .int .i64 5, .int .u8 48, .int .i64 420, .int .i64 0, .string ⟨#[]⟩, .string ⟨#[]⟩, .string ⟨#[]⟩, .int .i64 0, .int .i64 0] 25)) from (Below.refl _ _).alloc (Nat.le_refl _) _)
  go_enter Tryd.func11, Tryd.ntmps11
  go_wp2_with fail
  refine (C1.out _ (HTB.out _ (Hid.out (by first | assumption | exact Lib.hid (Below.refl _ _))))).mono ?_
  rintro e w2 ⟨rfl, hb2⟩
  have HK2 := Lib.hid ((step_of_below hb2).blk HK1.out List.not_mem_nil List.not_mem_nil)
  have HB2 := Lib.hid (HB1.out.trans (hb2.mono HB1.out.size))
  clear hb2 HK1 HB1 C1
  go_wp2_with fail
  refine (C2.out _).mono ?_
  rintro e w3 ⟨rfl, hb3⟩
  have HK3 := Lib.hid ((step_of_below hb3).blk HK2.out List.not_mem_nil List.not_mem_nil)
  have HB3 := Lib.hid (HB2.out.trans (hb3.mono HB2.out.size))
  clear hb3 HK2 HB2 C2
  have hk4 := blk_new w3 25 #[.string ⟨#[97]⟩, .int .i64 5, .int .u8 48, .int .i64 420, .int .i64 0, .string ⟨#[]⟩, .string ⟨#[]⟩, .string ⟨#[]⟩, .int .i64 0, .int .i64 0]
  have hb4 : Below w3.heap.size w3 (w3.alloc (.cells #[.string ⟨#[97]⟩, .int .i64 5, .int .u8 48, .int .i64 420, .int .i64 0, .string ⟨#[]⟩, .string ⟨#[]⟩, .string ⟨#[]⟩, .int .i64 0, .int .i64 0] 25)) := (Below.refl _ _).alloc (Nat.le_refl _) _
  have hk3 := (step_of_below hb4).blk HK3.out List.not_mem_nil List.not_mem_nil
  have HB4 := Lib.hid (HB3.out.trans (hb4.mono HB3.out.size))
  have p0 : (w3.alloc (.cells #[.string ⟨#[97]⟩, .int .i64 5, .int .u8 48, .int .i64 420, .int .i64 0, .string ⟨#[]⟩, .string ⟨#[]⟩, .string ⟨#[]⟩, .int .i64 0, .int .i64 0] 25)).cell? ⟨w.heap.size, 0, none⟩ = some (.string ⟨#[97]⟩) := blk_cell hk3 0
  have p1 : (w3.alloc (.cells #[.string ⟨#[97]⟩, .int .i64 5, .int .u8 48, .int .i64 420, .int .i64 0, .string ⟨#[]⟩, .string ⟨#[]⟩, .string ⟨#[]⟩, .int .i64 0, .int .i64 0] 25)).cell? ⟨w.heap.size, 1, none⟩ = some (.int .i64 5) := blk_cell hk3 1
  have p2 : (w3.alloc (.cells #[.string ⟨#[97]⟩, .int .i64 5, .int .u8 48, .int .i64 420, .int .i64 0, .string ⟨#[]⟩, .string ⟨#[]⟩, .string ⟨#[]⟩, .int .i64 0, .int .i64 0] 25)).cell? ⟨w.heap.size, 2, none⟩ = some (.int .u8 48) := blk_cell hk3 2
  have p3 : (w3.alloc (.cells #[.string ⟨#[97]⟩, .int .i64 5, .int .u8 48, .int .i64 420, .int .i64 0, .string ⟨#[]⟩, .string ⟨#[]⟩, .string ⟨#[]⟩, .int .i64 0, .int .i64 0] 25)).cell? ⟨w.heap.size, 3, none⟩ = some (.int .i64 420) := blk_cell hk3 3
  have p4 : (w3.alloc (.cells #[.string ⟨#[97]⟩, .int .i64 5, .int .u8 48, .int .i64 420, .int .i64 0, .string ⟨#[]⟩, .string ⟨#[]⟩, .string ⟨#[]⟩, .int .i64 0, .int .i64 0] 25)).cell? ⟨w.heap.size, 4, none⟩ = some (.int .i64 0) := blk_cell hk3 4
  have p5 : (w3.alloc (.cells #[.string ⟨#[97]⟩, .int .i64 5, .int .u8 48, .int .i64 420, .int .i64 0, .string ⟨#[]⟩, .string ⟨#[]⟩, .string ⟨#[]⟩, .int .i64 0, .int .i64 0] 25)).cell? ⟨w.heap.size, 5, none⟩ = some (.string ⟨#[]⟩) := blk_cell hk3 5
  have p6 : (w3.alloc (.cells #[.string ⟨#[97]⟩, .int .i64 5, .int .u8 48, .int .i64 420, .int .i64 0, .string ⟨#[]⟩, .string ⟨#[]⟩, .string ⟨#[]⟩, .int .i64 0, .int .i64 0] 25)).cell? ⟨w.heap.size, 6, none⟩ = some (.string ⟨#[]⟩) := blk_cell hk3 6
  have p7 : (w3.alloc (.cells #[.string ⟨#[97]⟩, .int .i64 5, .int .u8 48, .int .i64 420, .int .i64 0, .string ⟨#[]⟩, .string ⟨#[]⟩, .string ⟨#[]⟩, .int .i64 0, .int .i64 0] 25)).cell? ⟨w.heap.size, 7, none⟩ = some (.string ⟨#[]⟩) := blk_cell hk3 7
  have p8 : (w3.alloc (.cells #[.string ⟨#[97]⟩, .int .i64 5, .int .u8 48, .int .i64 420, .int .i64 0, .string ⟨#[]⟩, .string ⟨#[]⟩, .string ⟨#[]⟩, .int .i64 0, .int .i64 0] 25)).cell? ⟨w.heap.size, 8, none⟩ = some (.int .i64 0) := blk_cell hk3 8
  have p9 : (w3.alloc (.cells #[.string ⟨#[97]⟩, .int .i64 5, .int .u8 48, .int .i64 420, .int .i64 0, .string ⟨#[]⟩, .string ⟨#[]⟩, .string ⟨#[]⟩, .int .i64 0, .int .i64 0] 25)).cell? ⟨w.heap.size, 9, none⟩ = some (.int .i64 0) := blk_cell hk3 9
  have heq := HEQ.out (w3.alloc (.cells #[.string ⟨#[97]⟩, .int .i64 5, .int .u8 48, .int .i64 420, .int .i64 0, .string ⟨#[]⟩, .string ⟨#[]⟩, .string ⟨#[]⟩, .int .i64 0, .int .i64 0] 25))
  have hmk := HMK.out (w3.alloc (.cells #[.string ⟨#[97]⟩, .int .i64 5, .int .u8 48, .int .i64 420, .int .i64 0, .string ⟨#[]⟩, .string ⟨#[]⟩, .string ⟨#[]⟩, .int .i64 0, .int .i64 0] 25))
  have hcv := HCV.out (w3.alloc (.cells #[.string ⟨#[97]⟩, .int .i64 5, .int .u8 48, .int .i64 420, .int .i64 0, .string ⟨#[]⟩, .string ⟨#[]⟩, .string ⟨#[]⟩, .int .i64 0, .int .i64 0] 25))
  rw [show (w3.alloc (.cells #[.string ⟨#[97]⟩, .int .i64 5, .int .u8 48, .int .i64 420, .int .i64 0, .string ⟨#[]⟩, .string ⟨#[]⟩, .string ⟨#[]⟩, .int .i64 0, .int .i64 0] 25)).heap.size = w3.heap.size + 1 by simp] at hcv hmk
  have hb5 : Below w.heap.size w ((w3.alloc (.cells #[.string ⟨#[97]⟩, .int .i64 5, .int .u8 48, .int .i64 420, .int .i64 0, .string ⟨#[]⟩, .string ⟨#[]⟩, .string ⟨#[]⟩, .int .i64 0, .int .i64 0] 25)).alloc (.cells (madeCells #[.int .u8 0] 512) 5)) := HB4.out.alloc HB4.out.size _
  have HB5 := Lib.hid hb5
  clear hk3 hk4 hb4 hb5
  have guardb := guardH
  have deep1 := str2_deep
  have deep2 := int2_deep
  clear heq
  go_wp2_with fail
  refine (C3.out _).mono ?_
  rintro e w5 ⟨rfl, hb6⟩
  have HB6 := Lib.hid (HB5.out.trans (hb6.mono HB5.out.size))
  clear hb6
  go_wp2_with fail
  go_ret
  exact ⟨rfl, HB6.out⟩
set_option maxHeartbeats 3200000 in
set_option maxRecDepth 100000 in
theorem encodes_law (w : World) (hT : Tabs w) (h : HeadP) (hb : HeadT h) : Calls Tryd.prog 3 #[headV h] w fun e w' => e = .returned (.bool true) ∧ Below w.heap.size w w' := by
  have HTB : Hid (∀ wx : World, Below w.heap.size w wx → Tabs wx) := Lib.hid fun wx hb => hT.below hb
  have HAW := Lib.hid (awake_ustar R)
  have C1 := Lib.hid fun (wx : World) (ht : Tabs wx) => R.encode wx ht h hb
  have C2 := Lib.hid fun wx => renc16_any wx h hb.base
  have hv : headV h = .agg #[.string h.path, .int .i64 h.size, .int .u8 h.kind, .int .i64 h.mode, .int .i64 h.time, .string h.link, .string h.user, .string h.group, .int .i64 h.uid, .int .i64 h.gid] := rfl
  generalize encA h = ans at *
  obtain ⟨X, k⟩ := ans
  dsimp only at C1 C2
  generalize strP X = T at *
  rw [hv] at C1 C2 ⊢
  have HK1 := Lib.hid (blk_new w 25 #[.string h.path, .int .i64 h.size, .int .u8 h.kind, .int .i64 h.mode, .int .i64 h.time, .string h.link, .string h.user, .string h.group, .int .i64 h.uid, .int .i64 h.gid])
  have HB1 := Lib.hid (show Below w.heap.size w (w.alloc (.cells #[.string h.path, .int .i64 h.size, .int .u8 h.kind, .int .i64 h.mode, .int .i64 h.time, .string h.link, .string h.user, .string h.group, .int .i64 h.uid, .int .i64 h.gid] 25)) from (Below.refl _ _).alloc (Nat.le_refl _) _)
  have e2 : ((k : Int) == (k : Int)) = true := beq_self_eq_true _
  clear hT R hv hb
  go_enter Tryd.func3, Tryd.ntmps3
  go_wp2_with fail
  refine (C1.out _ (HTB.out _ (Hid.out (by first | assumption | exact Lib.hid (Below.refl _ _))))).mono ?_
  rintro e w2 ⟨rfl, hb2⟩
  have hk2 := (step_of_below hb2).blk HK1.out List.not_mem_nil List.not_mem_nil
  have HB2 := Lib.hid (HB1.out.trans (hb2.mono HB1.out.size))
  have c0 : w2.cell? ⟨w.heap.size, 0, none⟩ = some (.string h.path) := blk_cell hk2 0
  have c1 : w2.cell? ⟨w.heap.size, 1, none⟩ = some (.int .i64 h.size) := blk_cell hk2 1
  have c2 : w2.cell? ⟨w.heap.size, 2, none⟩ = some (.int .u8 h.kind) := blk_cell hk2 2
  have c3 : w2.cell? ⟨w.heap.size, 3, none⟩ = some (.int .i64 h.mode) := blk_cell hk2 3
  have c4 : w2.cell? ⟨w.heap.size, 4, none⟩ = some (.int .i64 h.time) := blk_cell hk2 4
  have c5 : w2.cell? ⟨w.heap.size, 5, none⟩ = some (.string h.link) := blk_cell hk2 5
  have c6 : w2.cell? ⟨w.heap.size, 6, none⟩ = some (.string h.user) := blk_cell hk2 6
  have c7 : w2.cell? ⟨w.heap.size, 7, none⟩ = some (.string h.group) := blk_cell hk2 7
  have c8 : w2.cell? ⟨w.heap.size, 8, none⟩ = some (.int .i64 h.uid) := blk_cell hk2 8
  have c9 : w2.cell? ⟨w.heap.size, 9, none⟩ = some (.int .i64 h.gid) := blk_cell hk2 9
  clear hb2 hk2 HK1 HB1
  go_wp2_with fail
  refine (C2.out _).mono ?_
  rintro e w3 ⟨rfl, hb3⟩
  have HB3 := Lib.hid (HB2.out.trans (hb3.mono HB2.out.size))
  clear hb3
  go_wp2_with fail
  refine (HAW.out _ (HTB.out _ (Hid.out (by first | assumption | exact Lib.hid (Below.refl _ _))))).mono ?_
  rintro e w4 ⟨rfl, hb4⟩
  have HB4 := Lib.hid (HB3.out.trans (hb4.mono HB3.out.size))
  clear hb4
  go_wp2_with fail
  go_ret
  exact ⟨rfl, HB4.out⟩
set_option maxHeartbeats 3200000 in
set_option maxRecDepth 100000 in
theorem zeros_law (w : World) (hT : Tabs w) (s : ByteArray) (hs : s.size ≤ 9223372036854775807) : Calls Tryd.prog 5 #[.string s] w fun e w' => e = .returned (.bool true) ∧ Below w.heap.size w w' := by
  have HTB : Hid (∀ wx : World, Below w.heap.size w wx → Tabs wx) := Lib.hid fun wx hb => hT.below hb
  have HAW := Lib.hid (awake_ustar R)
  have C1 := Lib.hid fun wx => R.zero wx s hs
  have C2 := Lib.hid fun wx => rzero_any wx s hs
  generalize zeroA s.data.toList = b at *
  have e2 : (b == b) = true := beq_self_eq_true _
  clear hT R
  go_enter Tryd.func5, Tryd.ntmps5
  go_wp2_with fail
  refine (C1.out _).mono ?_
  rintro e w2 ⟨rfl, hb2⟩
  have HB2 := Lib.hid hb2
  clear hb2
  go_wp2_with fail
  refine (C2.out _).mono ?_
  rintro e w3 ⟨rfl, rfl⟩
  go_wp2_with fail
  refine (HAW.out _ (HTB.out _ (Hid.out (by first | assumption | exact Lib.hid (Below.refl _ _))))).mono ?_
  rintro e w4 ⟨rfl, hb4⟩
  have HB4 := Lib.hid (HB2.out.trans (hb4.mono HB2.out.size))
  clear hb4
  go_wp2_with fail
  go_ret
  exact ⟨rfl, HB4.out⟩
end
end Go.Proofs.YtiihkjloenlfmaaDoor
