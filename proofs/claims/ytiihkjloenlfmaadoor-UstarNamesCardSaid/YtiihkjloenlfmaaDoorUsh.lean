/- The laws UstarDecodes, UstarBack, UstarNames, walked over what is asked of the code. With the tables and the sizes that the landed code wants (gen16t.py). -/
import Derived.Test.YtiihkjloenlfmaaDoorUsg
namespace Go.Proofs.YtiihkjloenlfmaaDoor
open Go.RowKit
theorem headV_lit (h : HeadP) : headV h = .agg #[.string h.path, .int .i64 h.size, .int .u8 h.kind, .int .i64 h.mode, .int .i64 h.time, .string h.link, .string h.user, .string h.group, .int .i64 h.uid, .int .i64 h.gid] := rfl
section
variable (R : UstarDone)
include R
set_option maxHeartbeats 3200000 in
set_option maxRecDepth 100000 in
theorem decodes_law (w : World) (hT : Tabs w) (s : ByteArray) (hs : s.size ≤ 140737488355328) : Calls Tryd.prog 4 #[.string s] w fun e w' => e = .returned (.bool true) ∧ Below w.heap.size w w' := by
  have HTB : Hid (∀ wx : World, Below w.heap.size w wx → Tabs wx) := Lib.hid fun wx hb => hT.below hb
  have HAW := Lib.hid (awake_ustar R)
  have C1 := Lib.hid fun wx => R.decode wx s hs
  have C2 := Lib.hid fun wx => rdec16_any wx s (by omega)
  generalize decA s.data.toList = ans at *
  obtain ⟨X, k⟩ := ans
  dsimp only at C1 C2
  rw [headV_lit] at C1 C2
  have e2 : ((k : Int) == (k : Int)) = true := beq_self_eq_true _
  have deep1 := str2_deep
  have deep2 := int2_deep
  have guardb := guardH
  clear hT R
  go_enter Tryd.func4, Tryd.ntmps4
  go_wp2_with fail
  refine (C1.out _).mono ?_
  rintro e w1 ⟨rfl, hb1⟩
  have HK1 := Lib.hid (blk_new w1 25 #[.string X.path, .int .i64 X.size, .int .u8 X.kind, .int .i64 X.mode, .int .i64 X.time, .string X.link, .string X.user, .string X.group, .int .i64 X.uid, .int .i64 X.gid])
  have HB1 : Hid (Below w.heap.size w (w1.alloc (.cells #[.string X.path, .int .i64 X.size, .int .u8 X.kind, .int .i64 X.mode, .int .i64 X.time, .string X.link, .string X.user, .string X.group, .int .i64 X.uid, .int .i64 X.gid] 25))) := Lib.hid (hb1.alloc hb1.size _)
  clear hb1
  go_wp2_with fail
  refine (C2.out _).mono ?_
  rintro e w2 ⟨rfl, hb2⟩
  have hk2 := (step_of_below hb2).blk HK1.out List.not_mem_nil List.not_mem_nil
  have HB2 := Lib.hid (HB1.out.trans (hb2.mono HB1.out.size))
  have hb3 : Below w2.heap.size w2 (w2.alloc (.cells #[.string X.path, .int .i64 X.size, .int .u8 X.kind, .int .i64 X.mode, .int .i64 X.time, .string X.link, .string X.user, .string X.group, .int .i64 X.uid, .int .i64 X.gid] 25)) := (Below.refl _ _).alloc (Nat.le_refl _) _
  have hk3 := (step_of_below hb3).blk hk2 List.not_mem_nil List.not_mem_nil
  have HB3 := Lib.hid (HB2.out.trans (hb3.mono HB2.out.size))
  have p0 : (w2.alloc (.cells #[.string X.path, .int .i64 X.size, .int .u8 X.kind, .int .i64 X.mode, .int .i64 X.time, .string X.link, .string X.user, .string X.group, .int .i64 X.uid, .int .i64 X.gid] 25)).cell? ⟨w1.heap.size, 0, none⟩ = some (.string X.path) := blk_cell hk3 0
  have p1 : (w2.alloc (.cells #[.string X.path, .int .i64 X.size, .int .u8 X.kind, .int .i64 X.mode, .int .i64 X.time, .string X.link, .string X.user, .string X.group, .int .i64 X.uid, .int .i64 X.gid] 25)).cell? ⟨w1.heap.size, 1, none⟩ = some (.int .i64 X.size) := blk_cell hk3 1
  have p2 : (w2.alloc (.cells #[.string X.path, .int .i64 X.size, .int .u8 X.kind, .int .i64 X.mode, .int .i64 X.time, .string X.link, .string X.user, .string X.group, .int .i64 X.uid, .int .i64 X.gid] 25)).cell? ⟨w1.heap.size, 2, none⟩ = some (.int .u8 X.kind) := blk_cell hk3 2
  have p3 : (w2.alloc (.cells #[.string X.path, .int .i64 X.size, .int .u8 X.kind, .int .i64 X.mode, .int .i64 X.time, .string X.link, .string X.user, .string X.group, .int .i64 X.uid, .int .i64 X.gid] 25)).cell? ⟨w1.heap.size, 3, none⟩ = some (.int .i64 X.mode) := blk_cell hk3 3
  have p4 : (w2.alloc (.cells #[.string X.path, .int .i64 X.size, .int .u8 X.kind, .int .i64 X.mode, .int .i64 X.time, .string X.link, .string X.user, .string X.group, .int .i64 X.uid, .int .i64 X.gid] 25)).cell? ⟨w1.heap.size, 4, none⟩ = some (.int .i64 X.time) := blk_cell hk3 4
  have p5 : (w2.alloc (.cells #[.string X.path, .int .i64 X.size, .int .u8 X.kind, .int .i64 X.mode, .int .i64 X.time, .string X.link, .string X.user, .string X.group, .int .i64 X.uid, .int .i64 X.gid] 25)).cell? ⟨w1.heap.size, 5, none⟩ = some (.string X.link) := blk_cell hk3 5
  have p6 : (w2.alloc (.cells #[.string X.path, .int .i64 X.size, .int .u8 X.kind, .int .i64 X.mode, .int .i64 X.time, .string X.link, .string X.user, .string X.group, .int .i64 X.uid, .int .i64 X.gid] 25)).cell? ⟨w1.heap.size, 6, none⟩ = some (.string X.user) := blk_cell hk3 6
  have p7 : (w2.alloc (.cells #[.string X.path, .int .i64 X.size, .int .u8 X.kind, .int .i64 X.mode, .int .i64 X.time, .string X.link, .string X.user, .string X.group, .int .i64 X.uid, .int .i64 X.gid] 25)).cell? ⟨w1.heap.size, 7, none⟩ = some (.string X.group) := blk_cell hk3 7
  have p8 : (w2.alloc (.cells #[.string X.path, .int .i64 X.size, .int .u8 X.kind, .int .i64 X.mode, .int .i64 X.time, .string X.link, .string X.user, .string X.group, .int .i64 X.uid, .int .i64 X.gid] 25)).cell? ⟨w1.heap.size, 8, none⟩ = some (.int .i64 X.uid) := blk_cell hk3 8
  have p9 : (w2.alloc (.cells #[.string X.path, .int .i64 X.size, .int .u8 X.kind, .int .i64 X.mode, .int .i64 X.time, .string X.link, .string X.user, .string X.group, .int .i64 X.uid, .int .i64 X.gid] 25)).cell? ⟨w1.heap.size, 9, none⟩ = some (.int .i64 X.gid) := blk_cell hk3 9
  clear hb2 hk2 hb3 hk3 HK1 HB1
  go_wp2_with fail
  refine (HAW.out _ (HTB.out _ (Hid.out (by first | assumption | exact Lib.hid (Below.refl _ _))))).mono ?_
  rintro e w4 ⟨rfl, hb4⟩
  have HB4 := Lib.hid (HB3.out.trans (hb4.mono HB3.out.size))
  clear hb4
  go_wp2_with fail
  go_ret
  exact ⟨rfl, HB4.out⟩
set_option maxHeartbeats 3200000 in
set_option maxRecDepth 100000 in
theorem back_law (w : World) (hT : Tabs w) (h : HeadP) (hb : HeadT h) : Calls Tryd.prog 6 #[headV h] w fun e w' => e = .returned (.bool true) ∧ Below w.heap.size w w' := by
  have HTB : Hid (∀ wx : World, Below w.heap.size w wx → Tabs wx) := Lib.hid fun wx hb => hT.below hb
  have HAW := Lib.hid (awake_ustar R)
  have C1 := Lib.hid fun (wx : World) (ht : Tabs wx) => R.encode wx ht h hb
  have HED := Lib.hid fun s he => enc_dec h s he
  have HER := Lib.hid (enc_err h)
  have HDE := Lib.hid R.decode
  have HZE := Lib.hid R.zero
  generalize encA h = ans at *
  obtain ⟨X, k⟩ := ans
  dsimp only at C1
  rw [headV_lit] at C1 ⊢
  have HK1 := Lib.hid (blk_new w 25 #[.string h.path, .int .i64 h.size, .int .u8 h.kind, .int .i64 h.mode, .int .i64 h.time, .string h.link, .string h.user, .string h.group, .int .i64 h.uid, .int .i64 h.gid])
  have HB1 := Lib.hid (show Below w.heap.size w (w.alloc (.cells #[.string h.path, .int .i64 h.size, .int .u8 h.kind, .int .i64 h.mode, .int .i64 h.time, .string h.link, .string h.user, .string h.group, .int .i64 h.uid, .int .i64 h.gid] 25)) from (Below.refl _ _).alloc (Nat.le_refl _) _)
  have deep1 := str2_deep
  have deep2 := int2_deep
  have guardb := guardH
  clear hT R hb
  by_cases hk : k = 0
  · subst hk
    obtain ⟨hd, hl, hz⟩ := HED.out X rfl
    have C2 := Lib.hid fun wx => HDE.out wx (strP X) (by show X.length ≤ _; omega)
    have C3 := Lib.hid fun wx => HZE.out wx (strP X) (by show X.length ≤ _; omega)
    rw [strP_list, hd, headV_lit] at C2
    rw [strP_list, hz] at C3
    have dsz : (strP X).size = 512 := hl
    generalize strP X = T at *
    clear hd hl hz HED HER HDE HZE
    go_enter Tryd.func6, Tryd.ntmps6
    go_wp2_with fail
    refine (C1.out _ (HTB.out _ (Hid.out (by first | assumption | exact Lib.hid (Below.refl _ _))))).mono ?_
    rintro e w2 ⟨rfl, hb2⟩
    have hk2 := (step_of_below hb2).blk HK1.out List.not_mem_nil List.not_mem_nil
    have HK2 := Lib.hid hk2
    have HB2 := Lib.hid (HB1.out.trans (hb2.mono HB1.out.size))
    clear hb2 hk2 HK1 HB1
    go_wp2_with fail
    refine (C2.out _).mono ?_
    rintro e w3 ⟨rfl, hb3⟩
    have hk3 := (step_of_below hb3).blk HK2.out List.not_mem_nil List.not_mem_nil
    have HB3 := Lib.hid (HB2.out.trans (hb3.mono HB2.out.size))
    have hb4 : Below w3.heap.size w3 (w3.alloc (.cells #[.string h.path, .int .i64 h.size, .int .u8 h.kind, .int .i64 h.mode, .int .i64 h.time, .string h.link, .string h.user, .string h.group, .int .i64 h.uid, .int .i64 h.gid] 25)) := (Below.refl _ _).alloc (Nat.le_refl _) _
    have hk4 := (step_of_below hb4).blk hk3 List.not_mem_nil List.not_mem_nil
    have HB4 := Lib.hid (HB3.out.trans (hb4.mono HB3.out.size))
    have p0 : (w3.alloc (.cells #[.string h.path, .int .i64 h.size, .int .u8 h.kind, .int .i64 h.mode, .int .i64 h.time, .string h.link, .string h.user, .string h.group, .int .i64 h.uid, .int .i64 h.gid] 25)).cell? ⟨w.heap.size, 0, none⟩ = some (.string h.path) := blk_cell hk4 0
    have p1 : (w3.alloc (.cells #[.string h.path, .int .i64 h.size, .int .u8 h.kind, .int .i64 h.mode, .int .i64 h.time, .string h.link, .string h.user, .string h.group, .int .i64 h.uid, .int .i64 h.gid] 25)).cell? ⟨w.heap.size, 1, none⟩ = some (.int .i64 h.size) := blk_cell hk4 1
    have p2 : (w3.alloc (.cells #[.string h.path, .int .i64 h.size, .int .u8 h.kind, .int .i64 h.mode, .int .i64 h.time, .string h.link, .string h.user, .string h.group, .int .i64 h.uid, .int .i64 h.gid] 25)).cell? ⟨w.heap.size, 2, none⟩ = some (.int .u8 h.kind) := blk_cell hk4 2
    have p3 : (w3.alloc (.cells #[.string h.path, .int .i64 h.size, .int .u8 h.kind, .int .i64 h.mode, .int .i64 h.time, .string h.link, .string h.user, .string h.group, .int .i64 h.uid, .int .i64 h.gid] 25)).cell? ⟨w.heap.size, 3, none⟩ = some (.int .i64 h.mode) := blk_cell hk4 3
    have p4 : (w3.alloc (.cells #[.string h.path, .int .i64 h.size, .int .u8 h.kind, .int .i64 h.mode, .int .i64 h.time, .string h.link, .string h.user, .string h.group, .int .i64 h.uid, .int .i64 h.gid] 25)).cell? ⟨w.heap.size, 4, none⟩ = some (.int .i64 h.time) := blk_cell hk4 4
    have p5 : (w3.alloc (.cells #[.string h.path, .int .i64 h.size, .int .u8 h.kind, .int .i64 h.mode, .int .i64 h.time, .string h.link, .string h.user, .string h.group, .int .i64 h.uid, .int .i64 h.gid] 25)).cell? ⟨w.heap.size, 5, none⟩ = some (.string h.link) := blk_cell hk4 5
    have p6 : (w3.alloc (.cells #[.string h.path, .int .i64 h.size, .int .u8 h.kind, .int .i64 h.mode, .int .i64 h.time, .string h.link, .string h.user, .string h.group, .int .i64 h.uid, .int .i64 h.gid] 25)).cell? ⟨w.heap.size, 6, none⟩ = some (.string h.user) := blk_cell hk4 6
    have p7 : (w3.alloc (.cells #[.string h.path, .int .i64 h.size, .int .u8 h.kind, .int .i64 h.mode, .int .i64 h.time, .string h.link, .string h.user, .string h.group, .int .i64 h.uid, .int .i64 h.gid] 25)).cell? ⟨w.heap.size, 7, none⟩ = some (.string h.group) := blk_cell hk4 7
    have p8 : (w3.alloc (.cells #[.string h.path, .int .i64 h.size, .int .u8 h.kind, .int .i64 h.mode, .int .i64 h.time, .string h.link, .string h.user, .string h.group, .int .i64 h.uid, .int .i64 h.gid] 25)).cell? ⟨w.heap.size, 8, none⟩ = some (.int .i64 h.uid) := blk_cell hk4 8
    have p9 : (w3.alloc (.cells #[.string h.path, .int .i64 h.size, .int .u8 h.kind, .int .i64 h.mode, .int .i64 h.time, .string h.link, .string h.user, .string h.group, .int .i64 h.uid, .int .i64 h.gid] 25)).cell? ⟨w.heap.size, 9, none⟩ = some (.int .i64 h.gid) := blk_cell hk4 9
    clear hb3 hk3 hb4 hk4 HK2 HB2
    go_wp2_with fail
    refine (C3.out _).mono ?_
    rintro e w5 ⟨rfl, hb5⟩
    have HB5 := Lib.hid (HB4.out.trans (hb5.mono HB4.out.size))
    clear hb5
    go_wp2_with fail
    refine (HAW.out _ (HTB.out _ (Hid.out (by first | assumption | exact Lib.hid (Below.refl _ _))))).mono ?_
    rintro e w6 ⟨rfl, hb6⟩
    have HB6 := Lib.hid (HB5.out.trans (hb6.mono HB5.out.size))
    clear hb6
    go_wp2_with fail
    go_ret
    exact ⟨rfl, HB6.out⟩
  · have hX : X = [] := HER.out hk
    subst hX
    have dk : ((k : Int) != 0) = true := bne_iff_ne.2 (by omega)
    have hT : strP [] = (⟨#[]⟩ : ByteArray) := rfl
    rw [hT] at C1
    clear hk hT HED HER HDE HZE
    go_enter Tryd.func6, Tryd.ntmps6
    go_wp2_with fail
    refine (C1.out _ (HTB.out _ (Hid.out (by first | assumption | exact Lib.hid (Below.refl _ _))))).mono ?_
    rintro e w2 ⟨rfl, hb2⟩
    have HB2 := Lib.hid (HB1.out.trans (hb2.mono HB1.out.size))
    clear hb2 HK1 HB1
    go_wp2_with fail
    refine (HAW.out _ (HTB.out _ (Hid.out (by first | assumption | exact Lib.hid (Below.refl _ _))))).mono ?_
    rintro e w6 ⟨rfl, hb6⟩
    have HB6 := Lib.hid (HB2.out.trans (hb6.mono HB2.out.size))
    clear hb6
    go_wp2_with fail
    go_ret
    exact ⟨rfl, HB6.out⟩
set_option maxHeartbeats 6400000 in
set_option maxRecDepth 100000 in
theorem names_law (w : World) (hT : Tabs w) (a b : HeadP) (ha : HeadT a) (hb : HeadT b) : Calls Tryd.prog 8 #[headV a, headV b] w fun e w' => e = .returned (.bool true) ∧ Below w.heap.size w w' := by
  have HTB : Hid (∀ wx : World, Below w.heap.size w wx → Tabs wx) := Lib.hid fun wx hb => hT.below hb
  have HAW := Lib.hid (awake_ustar R)
  have C1 := Lib.hid fun (wx : World) (ht : Tabs wx) => R.encode wx ht a ha
  have C2 := Lib.hid fun (wx : World) (ht : Tabs wx) => R.encode wx ht b hb
  have HED := Lib.hid fun s he => enc_dec a s he
  have HEE := Lib.hid fun s he => enc_dec b s he
  have hsame : a = b → encA a = encA b := fun h => by rw [h]
  have HSAME := Lib.hid hsame
  generalize encA a = ans at *
  generalize encA b = bns at *
  obtain ⟨X, k⟩ := ans
  obtain ⟨Y, m⟩ := bns
  dsimp only at C1 C2
  rw [headV_lit, headV_lit]
  rw [headV_lit] at C1 C2
  have hk0 := blk_new w 25 #[.string a.path, .int .i64 a.size, .int .u8 a.kind, .int .i64 a.mode, .int .i64 a.time, .string a.link, .string a.user, .string a.group, .int .i64 a.uid, .int .i64 a.gid]
  have hb1 : Below w.heap.size w (w.alloc (.cells #[.string a.path, .int .i64 a.size, .int .u8 a.kind, .int .i64 a.mode, .int .i64 a.time, .string a.link, .string a.user, .string a.group, .int .i64 a.uid, .int .i64 a.gid] 25)) := (Below.refl _ _).alloc (Nat.le_refl _) _
  have hz1 : (w.alloc (.cells #[.string a.path, .int .i64 a.size, .int .u8 a.kind, .int .i64 a.mode, .int .i64 a.time, .string a.link, .string a.user, .string a.group, .int .i64 a.uid, .int .i64 a.gid] 25)).heap.size = w.heap.size + 1 := by simp
  have hk1 := blk_new (w.alloc (.cells #[.string a.path, .int .i64 a.size, .int .u8 a.kind, .int .i64 a.mode, .int .i64 a.time, .string a.link, .string a.user, .string a.group, .int .i64 a.uid, .int .i64 a.gid] 25)) 25 #[.string b.path, .int .i64 b.size, .int .u8 b.kind, .int .i64 b.mode, .int .i64 b.time, .string b.link, .string b.user, .string b.group, .int .i64 b.uid, .int .i64 b.gid]
  rw [hz1] at hk1
  have hb2 : Below (w.alloc (.cells #[.string a.path, .int .i64 a.size, .int .u8 a.kind, .int .i64 a.mode, .int .i64 a.time, .string a.link, .string a.user, .string a.group, .int .i64 a.uid, .int .i64 a.gid] 25)).heap.size (w.alloc (.cells #[.string a.path, .int .i64 a.size, .int .u8 a.kind, .int .i64 a.mode, .int .i64 a.time, .string a.link, .string a.user, .string a.group, .int .i64 a.uid, .int .i64 a.gid] 25)) ((w.alloc (.cells #[.string a.path, .int .i64 a.size, .int .u8 a.kind, .int .i64 a.mode, .int .i64 a.time, .string a.link, .string a.user, .string a.group, .int .i64 a.uid, .int .i64 a.gid] 25)).alloc (.cells #[.string b.path, .int .i64 b.size, .int .u8 b.kind, .int .i64 b.mode, .int .i64 b.time, .string b.link, .string b.user, .string b.group, .int .i64 b.uid, .int .i64 b.gid] 25)) := (Below.refl _ _).alloc (Nat.le_refl _) _
  have hk2 := (step_of_below hb2).blk hk0 List.not_mem_nil List.not_mem_nil
  have HKA := Lib.hid hk2
  have HKB := Lib.hid hk1
  have HB2 := Lib.hid (hb1.trans (hb2.mono hb1.size))
  have deep1 := str2_deep
  have deep2 := int2_deep
  have guardb := guardH
  clear hT R ha hb hk0 hb1 hz1 hk1 hb2 hk2 hsame
  have hXY : ((strP X).toList == (strP Y).toList) = decide (X = Y) := by
    rw [strP_toList, strP_toList]
    by_cases h : X = Y
    · rw [h, beq_self_eq_true, decide_eq_true rfl]
    · rw [decide_eq_false h]
      exact beq_false_of_ne h
  have HXY := Lib.hid hXY
  clear hXY
  by_cases hk : k = 0
  · by_cases hm : m = 0
    · subst hk hm
      by_cases hab : a = b
      · have hx : X = Y := congrArg Prod.fst (HSAME.out hab)
        subst hab
        subst hx
        clear HED HEE HSAME HXY
        generalize strP X = T at *
        go_enter Tryd.func8, Tryd.ntmps8
        go_wp2_with fail
        refine (C1.out _ (HTB.out _ (Hid.out (by first | assumption | exact Lib.hid (Below.refl _ _))))).mono ?_
        rintro e w2 ⟨rfl, hb2⟩
        have hka := (step_of_below hb2).blk HKA.out List.not_mem_nil List.not_mem_nil
        have hkb := (step_of_below hb2).blk HKB.out List.not_mem_nil List.not_mem_nil
        have HKA2 := Lib.hid hka
        have HKB2 := Lib.hid hkb
        have HB3 := Lib.hid (HB2.out.trans (hb2.mono HB2.out.size))
        have p0 : w2.cell? ⟨w.heap.size + 1, 0, none⟩ = some (.string a.path) := blk_cell hkb 0
        have p1 : w2.cell? ⟨w.heap.size + 1, 1, none⟩ = some (.int .i64 a.size) := blk_cell hkb 1
        have p2 : w2.cell? ⟨w.heap.size + 1, 2, none⟩ = some (.int .u8 a.kind) := blk_cell hkb 2
        have p3 : w2.cell? ⟨w.heap.size + 1, 3, none⟩ = some (.int .i64 a.mode) := blk_cell hkb 3
        have p4 : w2.cell? ⟨w.heap.size + 1, 4, none⟩ = some (.int .i64 a.time) := blk_cell hkb 4
        have p5 : w2.cell? ⟨w.heap.size + 1, 5, none⟩ = some (.string a.link) := blk_cell hkb 5
        have p6 : w2.cell? ⟨w.heap.size + 1, 6, none⟩ = some (.string a.user) := blk_cell hkb 6
        have p7 : w2.cell? ⟨w.heap.size + 1, 7, none⟩ = some (.string a.group) := blk_cell hkb 7
        have p8 : w2.cell? ⟨w.heap.size + 1, 8, none⟩ = some (.int .i64 a.uid) := blk_cell hkb 8
        have p9 : w2.cell? ⟨w.heap.size + 1, 9, none⟩ = some (.int .i64 a.gid) := blk_cell hkb 9
        clear hb2 hka hkb
        go_wp2_with fail
        refine (C2.out _ (HTB.out _ (Hid.out (by first | assumption | exact Lib.hid (Below.refl _ _))))).mono ?_
        rintro e w3 ⟨rfl, hb3⟩
        have hka := (step_of_below hb3).blk HKA2.out List.not_mem_nil List.not_mem_nil
        have hkb := (step_of_below hb3).blk HKB2.out List.not_mem_nil List.not_mem_nil
        have HB4 := Lib.hid (HB3.out.trans (hb3.mono HB3.out.size))
        have r0 : w3.cell? ⟨w.heap.size, 0, none⟩ = some (.string a.path) := blk_cell hka 0
        have r1 : w3.cell? ⟨w.heap.size, 1, none⟩ = some (.int .i64 a.size) := blk_cell hka 1
        have r2 : w3.cell? ⟨w.heap.size, 2, none⟩ = some (.int .u8 a.kind) := blk_cell hka 2
        have r3 : w3.cell? ⟨w.heap.size, 3, none⟩ = some (.int .i64 a.mode) := blk_cell hka 3
        have r4 : w3.cell? ⟨w.heap.size, 4, none⟩ = some (.int .i64 a.time) := blk_cell hka 4
        have r5 : w3.cell? ⟨w.heap.size, 5, none⟩ = some (.string a.link) := blk_cell hka 5
        have r6 : w3.cell? ⟨w.heap.size, 6, none⟩ = some (.string a.user) := blk_cell hka 6
        have r7 : w3.cell? ⟨w.heap.size, 7, none⟩ = some (.string a.group) := blk_cell hka 7
        have r8 : w3.cell? ⟨w.heap.size, 8, none⟩ = some (.int .i64 a.uid) := blk_cell hka 8
        have r9 : w3.cell? ⟨w.heap.size, 9, none⟩ = some (.int .i64 a.gid) := blk_cell hka 9
        have t0 : w3.cell? ⟨w.heap.size + 1, 0, none⟩ = some (.string a.path) := blk_cell hkb 0
        have t1 : w3.cell? ⟨w.heap.size + 1, 1, none⟩ = some (.int .i64 a.size) := blk_cell hkb 1
        have t2 : w3.cell? ⟨w.heap.size + 1, 2, none⟩ = some (.int .u8 a.kind) := blk_cell hkb 2
        have t3 : w3.cell? ⟨w.heap.size + 1, 3, none⟩ = some (.int .i64 a.mode) := blk_cell hkb 3
        have t4 : w3.cell? ⟨w.heap.size + 1, 4, none⟩ = some (.int .i64 a.time) := blk_cell hkb 4
        have t5 : w3.cell? ⟨w.heap.size + 1, 5, none⟩ = some (.string a.link) := blk_cell hkb 5
        have t6 : w3.cell? ⟨w.heap.size + 1, 6, none⟩ = some (.string a.user) := blk_cell hkb 6
        have t7 : w3.cell? ⟨w.heap.size + 1, 7, none⟩ = some (.string a.group) := blk_cell hkb 7
        have t8 : w3.cell? ⟨w.heap.size + 1, 8, none⟩ = some (.int .i64 a.uid) := blk_cell hkb 8
        have t9 : w3.cell? ⟨w.heap.size + 1, 9, none⟩ = some (.int .i64 a.gid) := blk_cell hkb 9
        clear hb3 hka hkb p0 p1 p2 p3 p4 p5 p6 p7 p8 p9
        go_wp2_with fail
        refine (HAW.out _ (HTB.out _ (Hid.out (by first | assumption | exact Lib.hid (Below.refl _ _))))).mono ?_
        rintro e w4 ⟨rfl, hb4⟩
        have HB5 := Lib.hid (HB4.out.trans (hb4.mono HB4.out.size))
        clear hb4
        go_wp2_with fail
        go_ret
        exact ⟨rfl, HB5.out⟩
      have hx : ((strP X).toList == (strP Y).toList) = false := by
        rw [HXY.out]
        refine decide_eq_false fun h => hab ?_
        have h1 := (HED.out X rfl).1
        have h2 := (HEE.out Y rfl).1
        rw [h, h2] at h1
        exact (congrArg Prod.fst h1).symm
      clear HED HEE HSAME HXY
      generalize strP X = T at *
      generalize strP Y = U at *
      cases y0 : (a.path.toList == b.path.toList)
      · clear hab
        go_enter Tryd.func8, Tryd.ntmps8
        go_wp2_with fail
        refine (C1.out _ (HTB.out _ (Hid.out (by first | assumption | exact Lib.hid (Below.refl _ _))))).mono ?_
        rintro e w2 ⟨rfl, hb2⟩
        have hka := (step_of_below hb2).blk HKA.out List.not_mem_nil List.not_mem_nil
        have hkb := (step_of_below hb2).blk HKB.out List.not_mem_nil List.not_mem_nil
        have HKA2 := Lib.hid hka
        have HKB2 := Lib.hid hkb
        have HB3 := Lib.hid (HB2.out.trans (hb2.mono HB2.out.size))
        have p0 : w2.cell? ⟨w.heap.size + 1, 0, none⟩ = some (.string b.path) := blk_cell hkb 0
        have p1 : w2.cell? ⟨w.heap.size + 1, 1, none⟩ = some (.int .i64 b.size) := blk_cell hkb 1
        have p2 : w2.cell? ⟨w.heap.size + 1, 2, none⟩ = some (.int .u8 b.kind) := blk_cell hkb 2
        have p3 : w2.cell? ⟨w.heap.size + 1, 3, none⟩ = some (.int .i64 b.mode) := blk_cell hkb 3
        have p4 : w2.cell? ⟨w.heap.size + 1, 4, none⟩ = some (.int .i64 b.time) := blk_cell hkb 4
        have p5 : w2.cell? ⟨w.heap.size + 1, 5, none⟩ = some (.string b.link) := blk_cell hkb 5
        have p6 : w2.cell? ⟨w.heap.size + 1, 6, none⟩ = some (.string b.user) := blk_cell hkb 6
        have p7 : w2.cell? ⟨w.heap.size + 1, 7, none⟩ = some (.string b.group) := blk_cell hkb 7
        have p8 : w2.cell? ⟨w.heap.size + 1, 8, none⟩ = some (.int .i64 b.uid) := blk_cell hkb 8
        have p9 : w2.cell? ⟨w.heap.size + 1, 9, none⟩ = some (.int .i64 b.gid) := blk_cell hkb 9
        clear hb2 hka hkb
        go_wp2_with fail
        refine (C2.out _ (HTB.out _ (Hid.out (by first | assumption | exact Lib.hid (Below.refl _ _))))).mono ?_
        rintro e w3 ⟨rfl, hb3⟩
        have hka := (step_of_below hb3).blk HKA2.out List.not_mem_nil List.not_mem_nil
        have hkb := (step_of_below hb3).blk HKB2.out List.not_mem_nil List.not_mem_nil
        have HB4 := Lib.hid (HB3.out.trans (hb3.mono HB3.out.size))
        have r0 : w3.cell? ⟨w.heap.size, 0, none⟩ = some (.string a.path) := blk_cell hka 0
        have r1 : w3.cell? ⟨w.heap.size, 1, none⟩ = some (.int .i64 a.size) := blk_cell hka 1
        have r2 : w3.cell? ⟨w.heap.size, 2, none⟩ = some (.int .u8 a.kind) := blk_cell hka 2
        have r3 : w3.cell? ⟨w.heap.size, 3, none⟩ = some (.int .i64 a.mode) := blk_cell hka 3
        have r4 : w3.cell? ⟨w.heap.size, 4, none⟩ = some (.int .i64 a.time) := blk_cell hka 4
        have r5 : w3.cell? ⟨w.heap.size, 5, none⟩ = some (.string a.link) := blk_cell hka 5
        have r6 : w3.cell? ⟨w.heap.size, 6, none⟩ = some (.string a.user) := blk_cell hka 6
        have r7 : w3.cell? ⟨w.heap.size, 7, none⟩ = some (.string a.group) := blk_cell hka 7
        have r8 : w3.cell? ⟨w.heap.size, 8, none⟩ = some (.int .i64 a.uid) := blk_cell hka 8
        have r9 : w3.cell? ⟨w.heap.size, 9, none⟩ = some (.int .i64 a.gid) := blk_cell hka 9
        have t0 : w3.cell? ⟨w.heap.size + 1, 0, none⟩ = some (.string b.path) := blk_cell hkb 0
        have t1 : w3.cell? ⟨w.heap.size + 1, 1, none⟩ = some (.int .i64 b.size) := blk_cell hkb 1
        have t2 : w3.cell? ⟨w.heap.size + 1, 2, none⟩ = some (.int .u8 b.kind) := blk_cell hkb 2
        have t3 : w3.cell? ⟨w.heap.size + 1, 3, none⟩ = some (.int .i64 b.mode) := blk_cell hkb 3
        have t4 : w3.cell? ⟨w.heap.size + 1, 4, none⟩ = some (.int .i64 b.time) := blk_cell hkb 4
        have t5 : w3.cell? ⟨w.heap.size + 1, 5, none⟩ = some (.string b.link) := blk_cell hkb 5
        have t6 : w3.cell? ⟨w.heap.size + 1, 6, none⟩ = some (.string b.user) := blk_cell hkb 6
        have t7 : w3.cell? ⟨w.heap.size + 1, 7, none⟩ = some (.string b.group) := blk_cell hkb 7
        have t8 : w3.cell? ⟨w.heap.size + 1, 8, none⟩ = some (.int .i64 b.uid) := blk_cell hkb 8
        have t9 : w3.cell? ⟨w.heap.size + 1, 9, none⟩ = some (.int .i64 b.gid) := blk_cell hkb 9
        clear hb3 hka hkb p0 p1 p2 p3 p4 p5 p6 p7 p8 p9
        go_wp2_with fail
        refine (HAW.out _ (HTB.out _ (Hid.out (by first | assumption | exact Lib.hid (Below.refl _ _))))).mono ?_
        rintro e w4 ⟨rfl, hb4⟩
        have HB5 := Lib.hid (HB4.out.trans (hb4.mono HB4.out.size))
        clear hb4
        go_wp2_with fail
        go_ret
        exact ⟨rfl, HB5.out⟩
      · skip
        cases y1 : (a.size == b.size)
        · clear hab
          go_enter Tryd.func8, Tryd.ntmps8
          go_wp2_with fail
          refine (C1.out _ (HTB.out _ (Hid.out (by first | assumption | exact Lib.hid (Below.refl _ _))))).mono ?_
          rintro e w2 ⟨rfl, hb2⟩
          have hka := (step_of_below hb2).blk HKA.out List.not_mem_nil List.not_mem_nil
          have hkb := (step_of_below hb2).blk HKB.out List.not_mem_nil List.not_mem_nil
          have HKA2 := Lib.hid hka
          have HKB2 := Lib.hid hkb
          have HB3 := Lib.hid (HB2.out.trans (hb2.mono HB2.out.size))
          have p0 : w2.cell? ⟨w.heap.size + 1, 0, none⟩ = some (.string b.path) := blk_cell hkb 0
          have p1 : w2.cell? ⟨w.heap.size + 1, 1, none⟩ = some (.int .i64 b.size) := blk_cell hkb 1
          have p2 : w2.cell? ⟨w.heap.size + 1, 2, none⟩ = some (.int .u8 b.kind) := blk_cell hkb 2
          have p3 : w2.cell? ⟨w.heap.size + 1, 3, none⟩ = some (.int .i64 b.mode) := blk_cell hkb 3
          have p4 : w2.cell? ⟨w.heap.size + 1, 4, none⟩ = some (.int .i64 b.time) := blk_cell hkb 4
          have p5 : w2.cell? ⟨w.heap.size + 1, 5, none⟩ = some (.string b.link) := blk_cell hkb 5
          have p6 : w2.cell? ⟨w.heap.size + 1, 6, none⟩ = some (.string b.user) := blk_cell hkb 6
          have p7 : w2.cell? ⟨w.heap.size + 1, 7, none⟩ = some (.string b.group) := blk_cell hkb 7
          have p8 : w2.cell? ⟨w.heap.size + 1, 8, none⟩ = some (.int .i64 b.uid) := blk_cell hkb 8
          have p9 : w2.cell? ⟨w.heap.size + 1, 9, none⟩ = some (.int .i64 b.gid) := blk_cell hkb 9
          clear hb2 hka hkb
          go_wp2_with fail
          refine (C2.out _ (HTB.out _ (Hid.out (by first | assumption | exact Lib.hid (Below.refl _ _))))).mono ?_
          rintro e w3 ⟨rfl, hb3⟩
          have hka := (step_of_below hb3).blk HKA2.out List.not_mem_nil List.not_mem_nil
          have hkb := (step_of_below hb3).blk HKB2.out List.not_mem_nil List.not_mem_nil
          have HB4 := Lib.hid (HB3.out.trans (hb3.mono HB3.out.size))
          have r0 : w3.cell? ⟨w.heap.size, 0, none⟩ = some (.string a.path) := blk_cell hka 0
          have r1 : w3.cell? ⟨w.heap.size, 1, none⟩ = some (.int .i64 a.size) := blk_cell hka 1
          have r2 : w3.cell? ⟨w.heap.size, 2, none⟩ = some (.int .u8 a.kind) := blk_cell hka 2
          have r3 : w3.cell? ⟨w.heap.size, 3, none⟩ = some (.int .i64 a.mode) := blk_cell hka 3
          have r4 : w3.cell? ⟨w.heap.size, 4, none⟩ = some (.int .i64 a.time) := blk_cell hka 4
          have r5 : w3.cell? ⟨w.heap.size, 5, none⟩ = some (.string a.link) := blk_cell hka 5
          have r6 : w3.cell? ⟨w.heap.size, 6, none⟩ = some (.string a.user) := blk_cell hka 6
          have r7 : w3.cell? ⟨w.heap.size, 7, none⟩ = some (.string a.group) := blk_cell hka 7
          have r8 : w3.cell? ⟨w.heap.size, 8, none⟩ = some (.int .i64 a.uid) := blk_cell hka 8
          have r9 : w3.cell? ⟨w.heap.size, 9, none⟩ = some (.int .i64 a.gid) := blk_cell hka 9
          have t0 : w3.cell? ⟨w.heap.size + 1, 0, none⟩ = some (.string b.path) := blk_cell hkb 0
          have t1 : w3.cell? ⟨w.heap.size + 1, 1, none⟩ = some (.int .i64 b.size) := blk_cell hkb 1
          have t2 : w3.cell? ⟨w.heap.size + 1, 2, none⟩ = some (.int .u8 b.kind) := blk_cell hkb 2
          have t3 : w3.cell? ⟨w.heap.size + 1, 3, none⟩ = some (.int .i64 b.mode) := blk_cell hkb 3
          have t4 : w3.cell? ⟨w.heap.size + 1, 4, none⟩ = some (.int .i64 b.time) := blk_cell hkb 4
          have t5 : w3.cell? ⟨w.heap.size + 1, 5, none⟩ = some (.string b.link) := blk_cell hkb 5
          have t6 : w3.cell? ⟨w.heap.size + 1, 6, none⟩ = some (.string b.user) := blk_cell hkb 6
          have t7 : w3.cell? ⟨w.heap.size + 1, 7, none⟩ = some (.string b.group) := blk_cell hkb 7
          have t8 : w3.cell? ⟨w.heap.size + 1, 8, none⟩ = some (.int .i64 b.uid) := blk_cell hkb 8
          have t9 : w3.cell? ⟨w.heap.size + 1, 9, none⟩ = some (.int .i64 b.gid) := blk_cell hkb 9
          clear hb3 hka hkb p0 p1 p2 p3 p4 p5 p6 p7 p8 p9
          go_wp2_with fail
          refine (HAW.out _ (HTB.out _ (Hid.out (by first | assumption | exact Lib.hid (Below.refl _ _))))).mono ?_
          rintro e w4 ⟨rfl, hb4⟩
          have HB5 := Lib.hid (HB4.out.trans (hb4.mono HB4.out.size))
          clear hb4
          go_wp2_with fail
          go_ret
          exact ⟨rfl, HB5.out⟩
        · skip
          cases y2 : ((a.kind : Int) == (b.kind : Int))
          · clear hab
            go_enter Tryd.func8, Tryd.ntmps8
            go_wp2_with fail
            refine (C1.out _ (HTB.out _ (Hid.out (by first | assumption | exact Lib.hid (Below.refl _ _))))).mono ?_
            rintro e w2 ⟨rfl, hb2⟩
            have hka := (step_of_below hb2).blk HKA.out List.not_mem_nil List.not_mem_nil
            have hkb := (step_of_below hb2).blk HKB.out List.not_mem_nil List.not_mem_nil
            have HKA2 := Lib.hid hka
            have HKB2 := Lib.hid hkb
            have HB3 := Lib.hid (HB2.out.trans (hb2.mono HB2.out.size))
            have p0 : w2.cell? ⟨w.heap.size + 1, 0, none⟩ = some (.string b.path) := blk_cell hkb 0
            have p1 : w2.cell? ⟨w.heap.size + 1, 1, none⟩ = some (.int .i64 b.size) := blk_cell hkb 1
            have p2 : w2.cell? ⟨w.heap.size + 1, 2, none⟩ = some (.int .u8 b.kind) := blk_cell hkb 2
            have p3 : w2.cell? ⟨w.heap.size + 1, 3, none⟩ = some (.int .i64 b.mode) := blk_cell hkb 3
            have p4 : w2.cell? ⟨w.heap.size + 1, 4, none⟩ = some (.int .i64 b.time) := blk_cell hkb 4
            have p5 : w2.cell? ⟨w.heap.size + 1, 5, none⟩ = some (.string b.link) := blk_cell hkb 5
            have p6 : w2.cell? ⟨w.heap.size + 1, 6, none⟩ = some (.string b.user) := blk_cell hkb 6
            have p7 : w2.cell? ⟨w.heap.size + 1, 7, none⟩ = some (.string b.group) := blk_cell hkb 7
            have p8 : w2.cell? ⟨w.heap.size + 1, 8, none⟩ = some (.int .i64 b.uid) := blk_cell hkb 8
            have p9 : w2.cell? ⟨w.heap.size + 1, 9, none⟩ = some (.int .i64 b.gid) := blk_cell hkb 9
            clear hb2 hka hkb
            go_wp2_with fail
            refine (C2.out _ (HTB.out _ (Hid.out (by first | assumption | exact Lib.hid (Below.refl _ _))))).mono ?_
            rintro e w3 ⟨rfl, hb3⟩
            have hka := (step_of_below hb3).blk HKA2.out List.not_mem_nil List.not_mem_nil
            have hkb := (step_of_below hb3).blk HKB2.out List.not_mem_nil List.not_mem_nil
            have HB4 := Lib.hid (HB3.out.trans (hb3.mono HB3.out.size))
            have r0 : w3.cell? ⟨w.heap.size, 0, none⟩ = some (.string a.path) := blk_cell hka 0
            have r1 : w3.cell? ⟨w.heap.size, 1, none⟩ = some (.int .i64 a.size) := blk_cell hka 1
            have r2 : w3.cell? ⟨w.heap.size, 2, none⟩ = some (.int .u8 a.kind) := blk_cell hka 2
            have r3 : w3.cell? ⟨w.heap.size, 3, none⟩ = some (.int .i64 a.mode) := blk_cell hka 3
            have r4 : w3.cell? ⟨w.heap.size, 4, none⟩ = some (.int .i64 a.time) := blk_cell hka 4
            have r5 : w3.cell? ⟨w.heap.size, 5, none⟩ = some (.string a.link) := blk_cell hka 5
            have r6 : w3.cell? ⟨w.heap.size, 6, none⟩ = some (.string a.user) := blk_cell hka 6
            have r7 : w3.cell? ⟨w.heap.size, 7, none⟩ = some (.string a.group) := blk_cell hka 7
            have r8 : w3.cell? ⟨w.heap.size, 8, none⟩ = some (.int .i64 a.uid) := blk_cell hka 8
            have r9 : w3.cell? ⟨w.heap.size, 9, none⟩ = some (.int .i64 a.gid) := blk_cell hka 9
            have t0 : w3.cell? ⟨w.heap.size + 1, 0, none⟩ = some (.string b.path) := blk_cell hkb 0
            have t1 : w3.cell? ⟨w.heap.size + 1, 1, none⟩ = some (.int .i64 b.size) := blk_cell hkb 1
            have t2 : w3.cell? ⟨w.heap.size + 1, 2, none⟩ = some (.int .u8 b.kind) := blk_cell hkb 2
            have t3 : w3.cell? ⟨w.heap.size + 1, 3, none⟩ = some (.int .i64 b.mode) := blk_cell hkb 3
            have t4 : w3.cell? ⟨w.heap.size + 1, 4, none⟩ = some (.int .i64 b.time) := blk_cell hkb 4
            have t5 : w3.cell? ⟨w.heap.size + 1, 5, none⟩ = some (.string b.link) := blk_cell hkb 5
            have t6 : w3.cell? ⟨w.heap.size + 1, 6, none⟩ = some (.string b.user) := blk_cell hkb 6
            have t7 : w3.cell? ⟨w.heap.size + 1, 7, none⟩ = some (.string b.group) := blk_cell hkb 7
            have t8 : w3.cell? ⟨w.heap.size + 1, 8, none⟩ = some (.int .i64 b.uid) := blk_cell hkb 8
            have t9 : w3.cell? ⟨w.heap.size + 1, 9, none⟩ = some (.int .i64 b.gid) := blk_cell hkb 9
            clear hb3 hka hkb p0 p1 p2 p3 p4 p5 p6 p7 p8 p9
            go_wp2_with fail
            refine (HAW.out _ (HTB.out _ (Hid.out (by first | assumption | exact Lib.hid (Below.refl _ _))))).mono ?_
            rintro e w4 ⟨rfl, hb4⟩
            have HB5 := Lib.hid (HB4.out.trans (hb4.mono HB4.out.size))
            clear hb4
            go_wp2_with fail
            go_ret
            exact ⟨rfl, HB5.out⟩
          · skip
            cases y3 : (a.mode == b.mode)
            · clear hab
              go_enter Tryd.func8, Tryd.ntmps8
              go_wp2_with fail
              refine (C1.out _ (HTB.out _ (Hid.out (by first | assumption | exact Lib.hid (Below.refl _ _))))).mono ?_
              rintro e w2 ⟨rfl, hb2⟩
              have hka := (step_of_below hb2).blk HKA.out List.not_mem_nil List.not_mem_nil
              have hkb := (step_of_below hb2).blk HKB.out List.not_mem_nil List.not_mem_nil
              have HKA2 := Lib.hid hka
              have HKB2 := Lib.hid hkb
              have HB3 := Lib.hid (HB2.out.trans (hb2.mono HB2.out.size))
              have p0 : w2.cell? ⟨w.heap.size + 1, 0, none⟩ = some (.string b.path) := blk_cell hkb 0
              have p1 : w2.cell? ⟨w.heap.size + 1, 1, none⟩ = some (.int .i64 b.size) := blk_cell hkb 1
              have p2 : w2.cell? ⟨w.heap.size + 1, 2, none⟩ = some (.int .u8 b.kind) := blk_cell hkb 2
              have p3 : w2.cell? ⟨w.heap.size + 1, 3, none⟩ = some (.int .i64 b.mode) := blk_cell hkb 3
              have p4 : w2.cell? ⟨w.heap.size + 1, 4, none⟩ = some (.int .i64 b.time) := blk_cell hkb 4
              have p5 : w2.cell? ⟨w.heap.size + 1, 5, none⟩ = some (.string b.link) := blk_cell hkb 5
              have p6 : w2.cell? ⟨w.heap.size + 1, 6, none⟩ = some (.string b.user) := blk_cell hkb 6
              have p7 : w2.cell? ⟨w.heap.size + 1, 7, none⟩ = some (.string b.group) := blk_cell hkb 7
              have p8 : w2.cell? ⟨w.heap.size + 1, 8, none⟩ = some (.int .i64 b.uid) := blk_cell hkb 8
              have p9 : w2.cell? ⟨w.heap.size + 1, 9, none⟩ = some (.int .i64 b.gid) := blk_cell hkb 9
              clear hb2 hka hkb
              go_wp2_with fail
              refine (C2.out _ (HTB.out _ (Hid.out (by first | assumption | exact Lib.hid (Below.refl _ _))))).mono ?_
              rintro e w3 ⟨rfl, hb3⟩
              have hka := (step_of_below hb3).blk HKA2.out List.not_mem_nil List.not_mem_nil
              have hkb := (step_of_below hb3).blk HKB2.out List.not_mem_nil List.not_mem_nil
              have HB4 := Lib.hid (HB3.out.trans (hb3.mono HB3.out.size))
              have r0 : w3.cell? ⟨w.heap.size, 0, none⟩ = some (.string a.path) := blk_cell hka 0
              have r1 : w3.cell? ⟨w.heap.size, 1, none⟩ = some (.int .i64 a.size) := blk_cell hka 1
              have r2 : w3.cell? ⟨w.heap.size, 2, none⟩ = some (.int .u8 a.kind) := blk_cell hka 2
              have r3 : w3.cell? ⟨w.heap.size, 3, none⟩ = some (.int .i64 a.mode) := blk_cell hka 3
              have r4 : w3.cell? ⟨w.heap.size, 4, none⟩ = some (.int .i64 a.time) := blk_cell hka 4
              have r5 : w3.cell? ⟨w.heap.size, 5, none⟩ = some (.string a.link) := blk_cell hka 5
              have r6 : w3.cell? ⟨w.heap.size, 6, none⟩ = some (.string a.user) := blk_cell hka 6
              have r7 : w3.cell? ⟨w.heap.size, 7, none⟩ = some (.string a.group) := blk_cell hka 7
              have r8 : w3.cell? ⟨w.heap.size, 8, none⟩ = some (.int .i64 a.uid) := blk_cell hka 8
              have r9 : w3.cell? ⟨w.heap.size, 9, none⟩ = some (.int .i64 a.gid) := blk_cell hka 9
              have t0 : w3.cell? ⟨w.heap.size + 1, 0, none⟩ = some (.string b.path) := blk_cell hkb 0
              have t1 : w3.cell? ⟨w.heap.size + 1, 1, none⟩ = some (.int .i64 b.size) := blk_cell hkb 1
              have t2 : w3.cell? ⟨w.heap.size + 1, 2, none⟩ = some (.int .u8 b.kind) := blk_cell hkb 2
              have t3 : w3.cell? ⟨w.heap.size + 1, 3, none⟩ = some (.int .i64 b.mode) := blk_cell hkb 3
              have t4 : w3.cell? ⟨w.heap.size + 1, 4, none⟩ = some (.int .i64 b.time) := blk_cell hkb 4
              have t5 : w3.cell? ⟨w.heap.size + 1, 5, none⟩ = some (.string b.link) := blk_cell hkb 5
              have t6 : w3.cell? ⟨w.heap.size + 1, 6, none⟩ = some (.string b.user) := blk_cell hkb 6
              have t7 : w3.cell? ⟨w.heap.size + 1, 7, none⟩ = some (.string b.group) := blk_cell hkb 7
              have t8 : w3.cell? ⟨w.heap.size + 1, 8, none⟩ = some (.int .i64 b.uid) := blk_cell hkb 8
              have t9 : w3.cell? ⟨w.heap.size + 1, 9, none⟩ = some (.int .i64 b.gid) := blk_cell hkb 9
              clear hb3 hka hkb p0 p1 p2 p3 p4 p5 p6 p7 p8 p9
              go_wp2_with fail
              refine (HAW.out _ (HTB.out _ (Hid.out (by first | assumption | exact Lib.hid (Below.refl _ _))))).mono ?_
              rintro e w4 ⟨rfl, hb4⟩
              have HB5 := Lib.hid (HB4.out.trans (hb4.mono HB4.out.size))
              clear hb4
              go_wp2_with fail
              go_ret
              exact ⟨rfl, HB5.out⟩
            · skip
              cases y4 : (a.time == b.time)
              · clear hab
                go_enter Tryd.func8, Tryd.ntmps8
                go_wp2_with fail
                refine (C1.out _ (HTB.out _ (Hid.out (by first | assumption | exact Lib.hid (Below.refl _ _))))).mono ?_
                rintro e w2 ⟨rfl, hb2⟩
                have hka := (step_of_below hb2).blk HKA.out List.not_mem_nil List.not_mem_nil
                have hkb := (step_of_below hb2).blk HKB.out List.not_mem_nil List.not_mem_nil
                have HKA2 := Lib.hid hka
                have HKB2 := Lib.hid hkb
                have HB3 := Lib.hid (HB2.out.trans (hb2.mono HB2.out.size))
                have p0 : w2.cell? ⟨w.heap.size + 1, 0, none⟩ = some (.string b.path) := blk_cell hkb 0
                have p1 : w2.cell? ⟨w.heap.size + 1, 1, none⟩ = some (.int .i64 b.size) := blk_cell hkb 1
                have p2 : w2.cell? ⟨w.heap.size + 1, 2, none⟩ = some (.int .u8 b.kind) := blk_cell hkb 2
                have p3 : w2.cell? ⟨w.heap.size + 1, 3, none⟩ = some (.int .i64 b.mode) := blk_cell hkb 3
                have p4 : w2.cell? ⟨w.heap.size + 1, 4, none⟩ = some (.int .i64 b.time) := blk_cell hkb 4
                have p5 : w2.cell? ⟨w.heap.size + 1, 5, none⟩ = some (.string b.link) := blk_cell hkb 5
                have p6 : w2.cell? ⟨w.heap.size + 1, 6, none⟩ = some (.string b.user) := blk_cell hkb 6
                have p7 : w2.cell? ⟨w.heap.size + 1, 7, none⟩ = some (.string b.group) := blk_cell hkb 7
                have p8 : w2.cell? ⟨w.heap.size + 1, 8, none⟩ = some (.int .i64 b.uid) := blk_cell hkb 8
                have p9 : w2.cell? ⟨w.heap.size + 1, 9, none⟩ = some (.int .i64 b.gid) := blk_cell hkb 9
                clear hb2 hka hkb
                go_wp2_with fail
                refine (C2.out _ (HTB.out _ (Hid.out (by first | assumption | exact Lib.hid (Below.refl _ _))))).mono ?_
                rintro e w3 ⟨rfl, hb3⟩
                have hka := (step_of_below hb3).blk HKA2.out List.not_mem_nil List.not_mem_nil
                have hkb := (step_of_below hb3).blk HKB2.out List.not_mem_nil List.not_mem_nil
                have HB4 := Lib.hid (HB3.out.trans (hb3.mono HB3.out.size))
                have r0 : w3.cell? ⟨w.heap.size, 0, none⟩ = some (.string a.path) := blk_cell hka 0
                have r1 : w3.cell? ⟨w.heap.size, 1, none⟩ = some (.int .i64 a.size) := blk_cell hka 1
                have r2 : w3.cell? ⟨w.heap.size, 2, none⟩ = some (.int .u8 a.kind) := blk_cell hka 2
                have r3 : w3.cell? ⟨w.heap.size, 3, none⟩ = some (.int .i64 a.mode) := blk_cell hka 3
                have r4 : w3.cell? ⟨w.heap.size, 4, none⟩ = some (.int .i64 a.time) := blk_cell hka 4
                have r5 : w3.cell? ⟨w.heap.size, 5, none⟩ = some (.string a.link) := blk_cell hka 5
                have r6 : w3.cell? ⟨w.heap.size, 6, none⟩ = some (.string a.user) := blk_cell hka 6
                have r7 : w3.cell? ⟨w.heap.size, 7, none⟩ = some (.string a.group) := blk_cell hka 7
                have r8 : w3.cell? ⟨w.heap.size, 8, none⟩ = some (.int .i64 a.uid) := blk_cell hka 8
                have r9 : w3.cell? ⟨w.heap.size, 9, none⟩ = some (.int .i64 a.gid) := blk_cell hka 9
                have t0 : w3.cell? ⟨w.heap.size + 1, 0, none⟩ = some (.string b.path) := blk_cell hkb 0
                have t1 : w3.cell? ⟨w.heap.size + 1, 1, none⟩ = some (.int .i64 b.size) := blk_cell hkb 1
                have t2 : w3.cell? ⟨w.heap.size + 1, 2, none⟩ = some (.int .u8 b.kind) := blk_cell hkb 2
                have t3 : w3.cell? ⟨w.heap.size + 1, 3, none⟩ = some (.int .i64 b.mode) := blk_cell hkb 3
                have t4 : w3.cell? ⟨w.heap.size + 1, 4, none⟩ = some (.int .i64 b.time) := blk_cell hkb 4
                have t5 : w3.cell? ⟨w.heap.size + 1, 5, none⟩ = some (.string b.link) := blk_cell hkb 5
                have t6 : w3.cell? ⟨w.heap.size + 1, 6, none⟩ = some (.string b.user) := blk_cell hkb 6
                have t7 : w3.cell? ⟨w.heap.size + 1, 7, none⟩ = some (.string b.group) := blk_cell hkb 7
                have t8 : w3.cell? ⟨w.heap.size + 1, 8, none⟩ = some (.int .i64 b.uid) := blk_cell hkb 8
                have t9 : w3.cell? ⟨w.heap.size + 1, 9, none⟩ = some (.int .i64 b.gid) := blk_cell hkb 9
                clear hb3 hka hkb p0 p1 p2 p3 p4 p5 p6 p7 p8 p9
                go_wp2_with fail
                refine (HAW.out _ (HTB.out _ (Hid.out (by first | assumption | exact Lib.hid (Below.refl _ _))))).mono ?_
                rintro e w4 ⟨rfl, hb4⟩
                have HB5 := Lib.hid (HB4.out.trans (hb4.mono HB4.out.size))
                clear hb4
                go_wp2_with fail
                go_ret
                exact ⟨rfl, HB5.out⟩
              · skip
                cases y5 : (a.link.toList == b.link.toList)
                · clear hab
                  go_enter Tryd.func8, Tryd.ntmps8
                  go_wp2_with fail
                  refine (C1.out _ (HTB.out _ (Hid.out (by first | assumption | exact Lib.hid (Below.refl _ _))))).mono ?_
                  rintro e w2 ⟨rfl, hb2⟩
                  have hka := (step_of_below hb2).blk HKA.out List.not_mem_nil List.not_mem_nil
                  have hkb := (step_of_below hb2).blk HKB.out List.not_mem_nil List.not_mem_nil
                  have HKA2 := Lib.hid hka
                  have HKB2 := Lib.hid hkb
                  have HB3 := Lib.hid (HB2.out.trans (hb2.mono HB2.out.size))
                  have p0 : w2.cell? ⟨w.heap.size + 1, 0, none⟩ = some (.string b.path) := blk_cell hkb 0
                  have p1 : w2.cell? ⟨w.heap.size + 1, 1, none⟩ = some (.int .i64 b.size) := blk_cell hkb 1
                  have p2 : w2.cell? ⟨w.heap.size + 1, 2, none⟩ = some (.int .u8 b.kind) := blk_cell hkb 2
                  have p3 : w2.cell? ⟨w.heap.size + 1, 3, none⟩ = some (.int .i64 b.mode) := blk_cell hkb 3
                  have p4 : w2.cell? ⟨w.heap.size + 1, 4, none⟩ = some (.int .i64 b.time) := blk_cell hkb 4
                  have p5 : w2.cell? ⟨w.heap.size + 1, 5, none⟩ = some (.string b.link) := blk_cell hkb 5
                  have p6 : w2.cell? ⟨w.heap.size + 1, 6, none⟩ = some (.string b.user) := blk_cell hkb 6
                  have p7 : w2.cell? ⟨w.heap.size + 1, 7, none⟩ = some (.string b.group) := blk_cell hkb 7
                  have p8 : w2.cell? ⟨w.heap.size + 1, 8, none⟩ = some (.int .i64 b.uid) := blk_cell hkb 8
                  have p9 : w2.cell? ⟨w.heap.size + 1, 9, none⟩ = some (.int .i64 b.gid) := blk_cell hkb 9
                  clear hb2 hka hkb
                  go_wp2_with fail
                  refine (C2.out _ (HTB.out _ (Hid.out (by first | assumption | exact Lib.hid (Below.refl _ _))))).mono ?_
                  rintro e w3 ⟨rfl, hb3⟩
                  have hka := (step_of_below hb3).blk HKA2.out List.not_mem_nil List.not_mem_nil
                  have hkb := (step_of_below hb3).blk HKB2.out List.not_mem_nil List.not_mem_nil
                  have HB4 := Lib.hid (HB3.out.trans (hb3.mono HB3.out.size))
                  have r0 : w3.cell? ⟨w.heap.size, 0, none⟩ = some (.string a.path) := blk_cell hka 0
                  have r1 : w3.cell? ⟨w.heap.size, 1, none⟩ = some (.int .i64 a.size) := blk_cell hka 1
                  have r2 : w3.cell? ⟨w.heap.size, 2, none⟩ = some (.int .u8 a.kind) := blk_cell hka 2
                  have r3 : w3.cell? ⟨w.heap.size, 3, none⟩ = some (.int .i64 a.mode) := blk_cell hka 3
                  have r4 : w3.cell? ⟨w.heap.size, 4, none⟩ = some (.int .i64 a.time) := blk_cell hka 4
                  have r5 : w3.cell? ⟨w.heap.size, 5, none⟩ = some (.string a.link) := blk_cell hka 5
                  have r6 : w3.cell? ⟨w.heap.size, 6, none⟩ = some (.string a.user) := blk_cell hka 6
                  have r7 : w3.cell? ⟨w.heap.size, 7, none⟩ = some (.string a.group) := blk_cell hka 7
                  have r8 : w3.cell? ⟨w.heap.size, 8, none⟩ = some (.int .i64 a.uid) := blk_cell hka 8
                  have r9 : w3.cell? ⟨w.heap.size, 9, none⟩ = some (.int .i64 a.gid) := blk_cell hka 9
                  have t0 : w3.cell? ⟨w.heap.size + 1, 0, none⟩ = some (.string b.path) := blk_cell hkb 0
                  have t1 : w3.cell? ⟨w.heap.size + 1, 1, none⟩ = some (.int .i64 b.size) := blk_cell hkb 1
                  have t2 : w3.cell? ⟨w.heap.size + 1, 2, none⟩ = some (.int .u8 b.kind) := blk_cell hkb 2
                  have t3 : w3.cell? ⟨w.heap.size + 1, 3, none⟩ = some (.int .i64 b.mode) := blk_cell hkb 3
                  have t4 : w3.cell? ⟨w.heap.size + 1, 4, none⟩ = some (.int .i64 b.time) := blk_cell hkb 4
                  have t5 : w3.cell? ⟨w.heap.size + 1, 5, none⟩ = some (.string b.link) := blk_cell hkb 5
                  have t6 : w3.cell? ⟨w.heap.size + 1, 6, none⟩ = some (.string b.user) := blk_cell hkb 6
                  have t7 : w3.cell? ⟨w.heap.size + 1, 7, none⟩ = some (.string b.group) := blk_cell hkb 7
                  have t8 : w3.cell? ⟨w.heap.size + 1, 8, none⟩ = some (.int .i64 b.uid) := blk_cell hkb 8
                  have t9 : w3.cell? ⟨w.heap.size + 1, 9, none⟩ = some (.int .i64 b.gid) := blk_cell hkb 9
                  clear hb3 hka hkb p0 p1 p2 p3 p4 p5 p6 p7 p8 p9
                  go_wp2_with fail
                  refine (HAW.out _ (HTB.out _ (Hid.out (by first | assumption | exact Lib.hid (Below.refl _ _))))).mono ?_
                  rintro e w4 ⟨rfl, hb4⟩
                  have HB5 := Lib.hid (HB4.out.trans (hb4.mono HB4.out.size))
                  clear hb4
                  go_wp2_with fail
                  go_ret
                  exact ⟨rfl, HB5.out⟩
                · skip
                  cases y6 : (a.user.toList == b.user.toList)
                  · clear hab
                    go_enter Tryd.func8, Tryd.ntmps8
                    go_wp2_with fail
                    refine (C1.out _ (HTB.out _ (Hid.out (by first | assumption | exact Lib.hid (Below.refl _ _))))).mono ?_
                    rintro e w2 ⟨rfl, hb2⟩
                    have hka := (step_of_below hb2).blk HKA.out List.not_mem_nil List.not_mem_nil
                    have hkb := (step_of_below hb2).blk HKB.out List.not_mem_nil List.not_mem_nil
                    have HKA2 := Lib.hid hka
                    have HKB2 := Lib.hid hkb
                    have HB3 := Lib.hid (HB2.out.trans (hb2.mono HB2.out.size))
                    have p0 : w2.cell? ⟨w.heap.size + 1, 0, none⟩ = some (.string b.path) := blk_cell hkb 0
                    have p1 : w2.cell? ⟨w.heap.size + 1, 1, none⟩ = some (.int .i64 b.size) := blk_cell hkb 1
                    have p2 : w2.cell? ⟨w.heap.size + 1, 2, none⟩ = some (.int .u8 b.kind) := blk_cell hkb 2
                    have p3 : w2.cell? ⟨w.heap.size + 1, 3, none⟩ = some (.int .i64 b.mode) := blk_cell hkb 3
                    have p4 : w2.cell? ⟨w.heap.size + 1, 4, none⟩ = some (.int .i64 b.time) := blk_cell hkb 4
                    have p5 : w2.cell? ⟨w.heap.size + 1, 5, none⟩ = some (.string b.link) := blk_cell hkb 5
                    have p6 : w2.cell? ⟨w.heap.size + 1, 6, none⟩ = some (.string b.user) := blk_cell hkb 6
                    have p7 : w2.cell? ⟨w.heap.size + 1, 7, none⟩ = some (.string b.group) := blk_cell hkb 7
                    have p8 : w2.cell? ⟨w.heap.size + 1, 8, none⟩ = some (.int .i64 b.uid) := blk_cell hkb 8
                    have p9 : w2.cell? ⟨w.heap.size + 1, 9, none⟩ = some (.int .i64 b.gid) := blk_cell hkb 9
                    clear hb2 hka hkb
                    go_wp2_with fail
                    refine (C2.out _ (HTB.out _ (Hid.out (by first | assumption | exact Lib.hid (Below.refl _ _))))).mono ?_
                    rintro e w3 ⟨rfl, hb3⟩
                    have hka := (step_of_below hb3).blk HKA2.out List.not_mem_nil List.not_mem_nil
                    have hkb := (step_of_below hb3).blk HKB2.out List.not_mem_nil List.not_mem_nil
                    have HB4 := Lib.hid (HB3.out.trans (hb3.mono HB3.out.size))
                    have r0 : w3.cell? ⟨w.heap.size, 0, none⟩ = some (.string a.path) := blk_cell hka 0
                    have r1 : w3.cell? ⟨w.heap.size, 1, none⟩ = some (.int .i64 a.size) := blk_cell hka 1
                    have r2 : w3.cell? ⟨w.heap.size, 2, none⟩ = some (.int .u8 a.kind) := blk_cell hka 2
                    have r3 : w3.cell? ⟨w.heap.size, 3, none⟩ = some (.int .i64 a.mode) := blk_cell hka 3
                    have r4 : w3.cell? ⟨w.heap.size, 4, none⟩ = some (.int .i64 a.time) := blk_cell hka 4
                    have r5 : w3.cell? ⟨w.heap.size, 5, none⟩ = some (.string a.link) := blk_cell hka 5
                    have r6 : w3.cell? ⟨w.heap.size, 6, none⟩ = some (.string a.user) := blk_cell hka 6
                    have r7 : w3.cell? ⟨w.heap.size, 7, none⟩ = some (.string a.group) := blk_cell hka 7
                    have r8 : w3.cell? ⟨w.heap.size, 8, none⟩ = some (.int .i64 a.uid) := blk_cell hka 8
                    have r9 : w3.cell? ⟨w.heap.size, 9, none⟩ = some (.int .i64 a.gid) := blk_cell hka 9
                    have t0 : w3.cell? ⟨w.heap.size + 1, 0, none⟩ = some (.string b.path) := blk_cell hkb 0
                    have t1 : w3.cell? ⟨w.heap.size + 1, 1, none⟩ = some (.int .i64 b.size) := blk_cell hkb 1
                    have t2 : w3.cell? ⟨w.heap.size + 1, 2, none⟩ = some (.int .u8 b.kind) := blk_cell hkb 2
                    have t3 : w3.cell? ⟨w.heap.size + 1, 3, none⟩ = some (.int .i64 b.mode) := blk_cell hkb 3
                    have t4 : w3.cell? ⟨w.heap.size + 1, 4, none⟩ = some (.int .i64 b.time) := blk_cell hkb 4
                    have t5 : w3.cell? ⟨w.heap.size + 1, 5, none⟩ = some (.string b.link) := blk_cell hkb 5
                    have t6 : w3.cell? ⟨w.heap.size + 1, 6, none⟩ = some (.string b.user) := blk_cell hkb 6
                    have t7 : w3.cell? ⟨w.heap.size + 1, 7, none⟩ = some (.string b.group) := blk_cell hkb 7
                    have t8 : w3.cell? ⟨w.heap.size + 1, 8, none⟩ = some (.int .i64 b.uid) := blk_cell hkb 8
                    have t9 : w3.cell? ⟨w.heap.size + 1, 9, none⟩ = some (.int .i64 b.gid) := blk_cell hkb 9
                    clear hb3 hka hkb p0 p1 p2 p3 p4 p5 p6 p7 p8 p9
                    go_wp2_with fail
                    refine (HAW.out _ (HTB.out _ (Hid.out (by first | assumption | exact Lib.hid (Below.refl _ _))))).mono ?_
                    rintro e w4 ⟨rfl, hb4⟩
                    have HB5 := Lib.hid (HB4.out.trans (hb4.mono HB4.out.size))
                    clear hb4
                    go_wp2_with fail
                    go_ret
                    exact ⟨rfl, HB5.out⟩
                  · skip
                    cases y7 : (a.group.toList == b.group.toList)
                    · clear hab
                      go_enter Tryd.func8, Tryd.ntmps8
                      go_wp2_with fail
                      refine (C1.out _ (HTB.out _ (Hid.out (by first | assumption | exact Lib.hid (Below.refl _ _))))).mono ?_
                      rintro e w2 ⟨rfl, hb2⟩
                      have hka := (step_of_below hb2).blk HKA.out List.not_mem_nil List.not_mem_nil
                      have hkb := (step_of_below hb2).blk HKB.out List.not_mem_nil List.not_mem_nil
                      have HKA2 := Lib.hid hka
                      have HKB2 := Lib.hid hkb
                      have HB3 := Lib.hid (HB2.out.trans (hb2.mono HB2.out.size))
                      have p0 : w2.cell? ⟨w.heap.size + 1, 0, none⟩ = some (.string b.path) := blk_cell hkb 0
                      have p1 : w2.cell? ⟨w.heap.size + 1, 1, none⟩ = some (.int .i64 b.size) := blk_cell hkb 1
                      have p2 : w2.cell? ⟨w.heap.size + 1, 2, none⟩ = some (.int .u8 b.kind) := blk_cell hkb 2
                      have p3 : w2.cell? ⟨w.heap.size + 1, 3, none⟩ = some (.int .i64 b.mode) := blk_cell hkb 3
                      have p4 : w2.cell? ⟨w.heap.size + 1, 4, none⟩ = some (.int .i64 b.time) := blk_cell hkb 4
                      have p5 : w2.cell? ⟨w.heap.size + 1, 5, none⟩ = some (.string b.link) := blk_cell hkb 5
                      have p6 : w2.cell? ⟨w.heap.size + 1, 6, none⟩ = some (.string b.user) := blk_cell hkb 6
                      have p7 : w2.cell? ⟨w.heap.size + 1, 7, none⟩ = some (.string b.group) := blk_cell hkb 7
                      have p8 : w2.cell? ⟨w.heap.size + 1, 8, none⟩ = some (.int .i64 b.uid) := blk_cell hkb 8
                      have p9 : w2.cell? ⟨w.heap.size + 1, 9, none⟩ = some (.int .i64 b.gid) := blk_cell hkb 9
                      clear hb2 hka hkb
                      go_wp2_with fail
                      refine (C2.out _ (HTB.out _ (Hid.out (by first | assumption | exact Lib.hid (Below.refl _ _))))).mono ?_
                      rintro e w3 ⟨rfl, hb3⟩
                      have hka := (step_of_below hb3).blk HKA2.out List.not_mem_nil List.not_mem_nil
                      have hkb := (step_of_below hb3).blk HKB2.out List.not_mem_nil List.not_mem_nil
                      have HB4 := Lib.hid (HB3.out.trans (hb3.mono HB3.out.size))
                      have r0 : w3.cell? ⟨w.heap.size, 0, none⟩ = some (.string a.path) := blk_cell hka 0
                      have r1 : w3.cell? ⟨w.heap.size, 1, none⟩ = some (.int .i64 a.size) := blk_cell hka 1
                      have r2 : w3.cell? ⟨w.heap.size, 2, none⟩ = some (.int .u8 a.kind) := blk_cell hka 2
                      have r3 : w3.cell? ⟨w.heap.size, 3, none⟩ = some (.int .i64 a.mode) := blk_cell hka 3
                      have r4 : w3.cell? ⟨w.heap.size, 4, none⟩ = some (.int .i64 a.time) := blk_cell hka 4
                      have r5 : w3.cell? ⟨w.heap.size, 5, none⟩ = some (.string a.link) := blk_cell hka 5
                      have r6 : w3.cell? ⟨w.heap.size, 6, none⟩ = some (.string a.user) := blk_cell hka 6
                      have r7 : w3.cell? ⟨w.heap.size, 7, none⟩ = some (.string a.group) := blk_cell hka 7
                      have r8 : w3.cell? ⟨w.heap.size, 8, none⟩ = some (.int .i64 a.uid) := blk_cell hka 8
                      have r9 : w3.cell? ⟨w.heap.size, 9, none⟩ = some (.int .i64 a.gid) := blk_cell hka 9
                      have t0 : w3.cell? ⟨w.heap.size + 1, 0, none⟩ = some (.string b.path) := blk_cell hkb 0
                      have t1 : w3.cell? ⟨w.heap.size + 1, 1, none⟩ = some (.int .i64 b.size) := blk_cell hkb 1
                      have t2 : w3.cell? ⟨w.heap.size + 1, 2, none⟩ = some (.int .u8 b.kind) := blk_cell hkb 2
                      have t3 : w3.cell? ⟨w.heap.size + 1, 3, none⟩ = some (.int .i64 b.mode) := blk_cell hkb 3
                      have t4 : w3.cell? ⟨w.heap.size + 1, 4, none⟩ = some (.int .i64 b.time) := blk_cell hkb 4
                      have t5 : w3.cell? ⟨w.heap.size + 1, 5, none⟩ = some (.string b.link) := blk_cell hkb 5
                      have t6 : w3.cell? ⟨w.heap.size + 1, 6, none⟩ = some (.string b.user) := blk_cell hkb 6
                      have t7 : w3.cell? ⟨w.heap.size + 1, 7, none⟩ = some (.string b.group) := blk_cell hkb 7
                      have t8 : w3.cell? ⟨w.heap.size + 1, 8, none⟩ = some (.int .i64 b.uid) := blk_cell hkb 8
                      have t9 : w3.cell? ⟨w.heap.size + 1, 9, none⟩ = some (.int .i64 b.gid) := blk_cell hkb 9
                      clear hb3 hka hkb p0 p1 p2 p3 p4 p5 p6 p7 p8 p9
                      go_wp2_with fail
                      refine (HAW.out _ (HTB.out _ (Hid.out (by first | assumption | exact Lib.hid (Below.refl _ _))))).mono ?_
                      rintro e w4 ⟨rfl, hb4⟩
                      have HB5 := Lib.hid (HB4.out.trans (hb4.mono HB4.out.size))
                      clear hb4
                      go_wp2_with fail
                      go_ret
                      exact ⟨rfl, HB5.out⟩
                    · skip
                      cases y8 : (a.uid == b.uid)
                      · clear hab
                        go_enter Tryd.func8, Tryd.ntmps8
                        go_wp2_with fail
                        refine (C1.out _ (HTB.out _ (Hid.out (by first | assumption | exact Lib.hid (Below.refl _ _))))).mono ?_
                        rintro e w2 ⟨rfl, hb2⟩
                        have hka := (step_of_below hb2).blk HKA.out List.not_mem_nil List.not_mem_nil
                        have hkb := (step_of_below hb2).blk HKB.out List.not_mem_nil List.not_mem_nil
                        have HKA2 := Lib.hid hka
                        have HKB2 := Lib.hid hkb
                        have HB3 := Lib.hid (HB2.out.trans (hb2.mono HB2.out.size))
                        have p0 : w2.cell? ⟨w.heap.size + 1, 0, none⟩ = some (.string b.path) := blk_cell hkb 0
                        have p1 : w2.cell? ⟨w.heap.size + 1, 1, none⟩ = some (.int .i64 b.size) := blk_cell hkb 1
                        have p2 : w2.cell? ⟨w.heap.size + 1, 2, none⟩ = some (.int .u8 b.kind) := blk_cell hkb 2
                        have p3 : w2.cell? ⟨w.heap.size + 1, 3, none⟩ = some (.int .i64 b.mode) := blk_cell hkb 3
                        have p4 : w2.cell? ⟨w.heap.size + 1, 4, none⟩ = some (.int .i64 b.time) := blk_cell hkb 4
                        have p5 : w2.cell? ⟨w.heap.size + 1, 5, none⟩ = some (.string b.link) := blk_cell hkb 5
                        have p6 : w2.cell? ⟨w.heap.size + 1, 6, none⟩ = some (.string b.user) := blk_cell hkb 6
                        have p7 : w2.cell? ⟨w.heap.size + 1, 7, none⟩ = some (.string b.group) := blk_cell hkb 7
                        have p8 : w2.cell? ⟨w.heap.size + 1, 8, none⟩ = some (.int .i64 b.uid) := blk_cell hkb 8
                        have p9 : w2.cell? ⟨w.heap.size + 1, 9, none⟩ = some (.int .i64 b.gid) := blk_cell hkb 9
                        clear hb2 hka hkb
                        go_wp2_with fail
                        refine (C2.out _ (HTB.out _ (Hid.out (by first | assumption | exact Lib.hid (Below.refl _ _))))).mono ?_
                        rintro e w3 ⟨rfl, hb3⟩
                        have hka := (step_of_below hb3).blk HKA2.out List.not_mem_nil List.not_mem_nil
                        have hkb := (step_of_below hb3).blk HKB2.out List.not_mem_nil List.not_mem_nil
                        have HB4 := Lib.hid (HB3.out.trans (hb3.mono HB3.out.size))
                        have r0 : w3.cell? ⟨w.heap.size, 0, none⟩ = some (.string a.path) := blk_cell hka 0
                        have r1 : w3.cell? ⟨w.heap.size, 1, none⟩ = some (.int .i64 a.size) := blk_cell hka 1
                        have r2 : w3.cell? ⟨w.heap.size, 2, none⟩ = some (.int .u8 a.kind) := blk_cell hka 2
                        have r3 : w3.cell? ⟨w.heap.size, 3, none⟩ = some (.int .i64 a.mode) := blk_cell hka 3
                        have r4 : w3.cell? ⟨w.heap.size, 4, none⟩ = some (.int .i64 a.time) := blk_cell hka 4
                        have r5 : w3.cell? ⟨w.heap.size, 5, none⟩ = some (.string a.link) := blk_cell hka 5
                        have r6 : w3.cell? ⟨w.heap.size, 6, none⟩ = some (.string a.user) := blk_cell hka 6
                        have r7 : w3.cell? ⟨w.heap.size, 7, none⟩ = some (.string a.group) := blk_cell hka 7
                        have r8 : w3.cell? ⟨w.heap.size, 8, none⟩ = some (.int .i64 a.uid) := blk_cell hka 8
                        have r9 : w3.cell? ⟨w.heap.size, 9, none⟩ = some (.int .i64 a.gid) := blk_cell hka 9
                        have t0 : w3.cell? ⟨w.heap.size + 1, 0, none⟩ = some (.string b.path) := blk_cell hkb 0
                        have t1 : w3.cell? ⟨w.heap.size + 1, 1, none⟩ = some (.int .i64 b.size) := blk_cell hkb 1
                        have t2 : w3.cell? ⟨w.heap.size + 1, 2, none⟩ = some (.int .u8 b.kind) := blk_cell hkb 2
                        have t3 : w3.cell? ⟨w.heap.size + 1, 3, none⟩ = some (.int .i64 b.mode) := blk_cell hkb 3
                        have t4 : w3.cell? ⟨w.heap.size + 1, 4, none⟩ = some (.int .i64 b.time) := blk_cell hkb 4
                        have t5 : w3.cell? ⟨w.heap.size + 1, 5, none⟩ = some (.string b.link) := blk_cell hkb 5
                        have t6 : w3.cell? ⟨w.heap.size + 1, 6, none⟩ = some (.string b.user) := blk_cell hkb 6
                        have t7 : w3.cell? ⟨w.heap.size + 1, 7, none⟩ = some (.string b.group) := blk_cell hkb 7
                        have t8 : w3.cell? ⟨w.heap.size + 1, 8, none⟩ = some (.int .i64 b.uid) := blk_cell hkb 8
                        have t9 : w3.cell? ⟨w.heap.size + 1, 9, none⟩ = some (.int .i64 b.gid) := blk_cell hkb 9
                        clear hb3 hka hkb p0 p1 p2 p3 p4 p5 p6 p7 p8 p9
                        go_wp2_with fail
                        refine (HAW.out _ (HTB.out _ (Hid.out (by first | assumption | exact Lib.hid (Below.refl _ _))))).mono ?_
                        rintro e w4 ⟨rfl, hb4⟩
                        have HB5 := Lib.hid (HB4.out.trans (hb4.mono HB4.out.size))
                        clear hb4
                        go_wp2_with fail
                        go_ret
                        exact ⟨rfl, HB5.out⟩
                      · skip
                        cases y9 : (a.gid == b.gid)
                        · clear hab
                          go_enter Tryd.func8, Tryd.ntmps8
                          go_wp2_with fail
                          refine (C1.out _ (HTB.out _ (Hid.out (by first | assumption | exact Lib.hid (Below.refl _ _))))).mono ?_
                          rintro e w2 ⟨rfl, hb2⟩
                          have hka := (step_of_below hb2).blk HKA.out List.not_mem_nil List.not_mem_nil
                          have hkb := (step_of_below hb2).blk HKB.out List.not_mem_nil List.not_mem_nil
                          have HKA2 := Lib.hid hka
                          have HKB2 := Lib.hid hkb
                          have HB3 := Lib.hid (HB2.out.trans (hb2.mono HB2.out.size))
                          have p0 : w2.cell? ⟨w.heap.size + 1, 0, none⟩ = some (.string b.path) := blk_cell hkb 0
                          have p1 : w2.cell? ⟨w.heap.size + 1, 1, none⟩ = some (.int .i64 b.size) := blk_cell hkb 1
                          have p2 : w2.cell? ⟨w.heap.size + 1, 2, none⟩ = some (.int .u8 b.kind) := blk_cell hkb 2
                          have p3 : w2.cell? ⟨w.heap.size + 1, 3, none⟩ = some (.int .i64 b.mode) := blk_cell hkb 3
                          have p4 : w2.cell? ⟨w.heap.size + 1, 4, none⟩ = some (.int .i64 b.time) := blk_cell hkb 4
                          have p5 : w2.cell? ⟨w.heap.size + 1, 5, none⟩ = some (.string b.link) := blk_cell hkb 5
                          have p6 : w2.cell? ⟨w.heap.size + 1, 6, none⟩ = some (.string b.user) := blk_cell hkb 6
                          have p7 : w2.cell? ⟨w.heap.size + 1, 7, none⟩ = some (.string b.group) := blk_cell hkb 7
                          have p8 : w2.cell? ⟨w.heap.size + 1, 8, none⟩ = some (.int .i64 b.uid) := blk_cell hkb 8
                          have p9 : w2.cell? ⟨w.heap.size + 1, 9, none⟩ = some (.int .i64 b.gid) := blk_cell hkb 9
                          clear hb2 hka hkb
                          go_wp2_with fail
                          refine (C2.out _ (HTB.out _ (Hid.out (by first | assumption | exact Lib.hid (Below.refl _ _))))).mono ?_
                          rintro e w3 ⟨rfl, hb3⟩
                          have hka := (step_of_below hb3).blk HKA2.out List.not_mem_nil List.not_mem_nil
                          have hkb := (step_of_below hb3).blk HKB2.out List.not_mem_nil List.not_mem_nil
                          have HB4 := Lib.hid (HB3.out.trans (hb3.mono HB3.out.size))
                          have r0 : w3.cell? ⟨w.heap.size, 0, none⟩ = some (.string a.path) := blk_cell hka 0
                          have r1 : w3.cell? ⟨w.heap.size, 1, none⟩ = some (.int .i64 a.size) := blk_cell hka 1
                          have r2 : w3.cell? ⟨w.heap.size, 2, none⟩ = some (.int .u8 a.kind) := blk_cell hka 2
                          have r3 : w3.cell? ⟨w.heap.size, 3, none⟩ = some (.int .i64 a.mode) := blk_cell hka 3
                          have r4 : w3.cell? ⟨w.heap.size, 4, none⟩ = some (.int .i64 a.time) := blk_cell hka 4
                          have r5 : w3.cell? ⟨w.heap.size, 5, none⟩ = some (.string a.link) := blk_cell hka 5
                          have r6 : w3.cell? ⟨w.heap.size, 6, none⟩ = some (.string a.user) := blk_cell hka 6
                          have r7 : w3.cell? ⟨w.heap.size, 7, none⟩ = some (.string a.group) := blk_cell hka 7
                          have r8 : w3.cell? ⟨w.heap.size, 8, none⟩ = some (.int .i64 a.uid) := blk_cell hka 8
                          have r9 : w3.cell? ⟨w.heap.size, 9, none⟩ = some (.int .i64 a.gid) := blk_cell hka 9
                          have t0 : w3.cell? ⟨w.heap.size + 1, 0, none⟩ = some (.string b.path) := blk_cell hkb 0
                          have t1 : w3.cell? ⟨w.heap.size + 1, 1, none⟩ = some (.int .i64 b.size) := blk_cell hkb 1
                          have t2 : w3.cell? ⟨w.heap.size + 1, 2, none⟩ = some (.int .u8 b.kind) := blk_cell hkb 2
                          have t3 : w3.cell? ⟨w.heap.size + 1, 3, none⟩ = some (.int .i64 b.mode) := blk_cell hkb 3
                          have t4 : w3.cell? ⟨w.heap.size + 1, 4, none⟩ = some (.int .i64 b.time) := blk_cell hkb 4
                          have t5 : w3.cell? ⟨w.heap.size + 1, 5, none⟩ = some (.string b.link) := blk_cell hkb 5
                          have t6 : w3.cell? ⟨w.heap.size + 1, 6, none⟩ = some (.string b.user) := blk_cell hkb 6
                          have t7 : w3.cell? ⟨w.heap.size + 1, 7, none⟩ = some (.string b.group) := blk_cell hkb 7
                          have t8 : w3.cell? ⟨w.heap.size + 1, 8, none⟩ = some (.int .i64 b.uid) := blk_cell hkb 8
                          have t9 : w3.cell? ⟨w.heap.size + 1, 9, none⟩ = some (.int .i64 b.gid) := blk_cell hkb 9
                          clear hb3 hka hkb p0 p1 p2 p3 p4 p5 p6 p7 p8 p9
                          go_wp2_with fail
                          refine (HAW.out _ (HTB.out _ (Hid.out (by first | assumption | exact Lib.hid (Below.refl _ _))))).mono ?_
                          rintro e w4 ⟨rfl, hb4⟩
                          have HB5 := Lib.hid (HB4.out.trans (hb4.mono HB4.out.size))
                          clear hb4
                          go_wp2_with fail
                          go_ret
                          exact ⟨rfl, HB5.out⟩
                        · skip
                          exact absurd ((sameH_true a b).1 (by unfold sameH; rw [y0, y1, y2, y3, y4, y5, y6, y7, y8, y9]; rfl)) hab
    · have dm : ((m : Int) != 0) = true := bne_iff_ne.2 (by omega)
      subst hk
      clear HED HEE HSAME HXY hm
      generalize strP X = T at *
      generalize strP Y = U at *
      go_enter Tryd.func8, Tryd.ntmps8
      go_wp2_with fail
      refine (C1.out _ (HTB.out _ (Hid.out (by first | assumption | exact Lib.hid (Below.refl _ _))))).mono ?_
      rintro e w2 ⟨rfl, hb2⟩
      have hka := (step_of_below hb2).blk HKA.out List.not_mem_nil List.not_mem_nil
      have hkb := (step_of_below hb2).blk HKB.out List.not_mem_nil List.not_mem_nil
      have HKA2 := Lib.hid hka
      have HKB2 := Lib.hid hkb
      have HB3 := Lib.hid (HB2.out.trans (hb2.mono HB2.out.size))
      have p0 : w2.cell? ⟨w.heap.size + 1, 0, none⟩ = some (.string b.path) := blk_cell hkb 0
      have p1 : w2.cell? ⟨w.heap.size + 1, 1, none⟩ = some (.int .i64 b.size) := blk_cell hkb 1
      have p2 : w2.cell? ⟨w.heap.size + 1, 2, none⟩ = some (.int .u8 b.kind) := blk_cell hkb 2
      have p3 : w2.cell? ⟨w.heap.size + 1, 3, none⟩ = some (.int .i64 b.mode) := blk_cell hkb 3
      have p4 : w2.cell? ⟨w.heap.size + 1, 4, none⟩ = some (.int .i64 b.time) := blk_cell hkb 4
      have p5 : w2.cell? ⟨w.heap.size + 1, 5, none⟩ = some (.string b.link) := blk_cell hkb 5
      have p6 : w2.cell? ⟨w.heap.size + 1, 6, none⟩ = some (.string b.user) := blk_cell hkb 6
      have p7 : w2.cell? ⟨w.heap.size + 1, 7, none⟩ = some (.string b.group) := blk_cell hkb 7
      have p8 : w2.cell? ⟨w.heap.size + 1, 8, none⟩ = some (.int .i64 b.uid) := blk_cell hkb 8
      have p9 : w2.cell? ⟨w.heap.size + 1, 9, none⟩ = some (.int .i64 b.gid) := blk_cell hkb 9
      clear hb2 hka hkb
      go_wp2_with fail
      refine (C2.out _ (HTB.out _ (Hid.out (by first | assumption | exact Lib.hid (Below.refl _ _))))).mono ?_
      rintro e w3 ⟨rfl, hb3⟩
      have hka := (step_of_below hb3).blk HKA2.out List.not_mem_nil List.not_mem_nil
      have hkb := (step_of_below hb3).blk HKB2.out List.not_mem_nil List.not_mem_nil
      have HB4 := Lib.hid (HB3.out.trans (hb3.mono HB3.out.size))
      have r0 : w3.cell? ⟨w.heap.size, 0, none⟩ = some (.string a.path) := blk_cell hka 0
      have r1 : w3.cell? ⟨w.heap.size, 1, none⟩ = some (.int .i64 a.size) := blk_cell hka 1
      have r2 : w3.cell? ⟨w.heap.size, 2, none⟩ = some (.int .u8 a.kind) := blk_cell hka 2
      have r3 : w3.cell? ⟨w.heap.size, 3, none⟩ = some (.int .i64 a.mode) := blk_cell hka 3
      have r4 : w3.cell? ⟨w.heap.size, 4, none⟩ = some (.int .i64 a.time) := blk_cell hka 4
      have r5 : w3.cell? ⟨w.heap.size, 5, none⟩ = some (.string a.link) := blk_cell hka 5
      have r6 : w3.cell? ⟨w.heap.size, 6, none⟩ = some (.string a.user) := blk_cell hka 6
      have r7 : w3.cell? ⟨w.heap.size, 7, none⟩ = some (.string a.group) := blk_cell hka 7
      have r8 : w3.cell? ⟨w.heap.size, 8, none⟩ = some (.int .i64 a.uid) := blk_cell hka 8
      have r9 : w3.cell? ⟨w.heap.size, 9, none⟩ = some (.int .i64 a.gid) := blk_cell hka 9
      have t0 : w3.cell? ⟨w.heap.size + 1, 0, none⟩ = some (.string b.path) := blk_cell hkb 0
      have t1 : w3.cell? ⟨w.heap.size + 1, 1, none⟩ = some (.int .i64 b.size) := blk_cell hkb 1
      have t2 : w3.cell? ⟨w.heap.size + 1, 2, none⟩ = some (.int .u8 b.kind) := blk_cell hkb 2
      have t3 : w3.cell? ⟨w.heap.size + 1, 3, none⟩ = some (.int .i64 b.mode) := blk_cell hkb 3
      have t4 : w3.cell? ⟨w.heap.size + 1, 4, none⟩ = some (.int .i64 b.time) := blk_cell hkb 4
      have t5 : w3.cell? ⟨w.heap.size + 1, 5, none⟩ = some (.string b.link) := blk_cell hkb 5
      have t6 : w3.cell? ⟨w.heap.size + 1, 6, none⟩ = some (.string b.user) := blk_cell hkb 6
      have t7 : w3.cell? ⟨w.heap.size + 1, 7, none⟩ = some (.string b.group) := blk_cell hkb 7
      have t8 : w3.cell? ⟨w.heap.size + 1, 8, none⟩ = some (.int .i64 b.uid) := blk_cell hkb 8
      have t9 : w3.cell? ⟨w.heap.size + 1, 9, none⟩ = some (.int .i64 b.gid) := blk_cell hkb 9
      clear hb3 hka hkb p0 p1 p2 p3 p4 p5 p6 p7 p8 p9
      go_wp2_with fail
      refine (HAW.out _ (HTB.out _ (Hid.out (by first | assumption | exact Lib.hid (Below.refl _ _))))).mono ?_
      rintro e w4 ⟨rfl, hb4⟩
      have HB5 := Lib.hid (HB4.out.trans (hb4.mono HB4.out.size))
      clear hb4
      go_wp2_with fail
      go_ret
      exact ⟨rfl, HB5.out⟩
  · have dk : ((k : Int) != 0) = true := bne_iff_ne.2 (by omega)
    clear HED HEE HSAME HXY hk
    generalize strP X = T at *
    generalize strP Y = U at *
    go_enter Tryd.func8, Tryd.ntmps8
    go_wp2_with fail
    refine (C1.out _ (HTB.out _ (Hid.out (by first | assumption | exact Lib.hid (Below.refl _ _))))).mono ?_
    rintro e w2 ⟨rfl, hb2⟩
    have hka := (step_of_below hb2).blk HKA.out List.not_mem_nil List.not_mem_nil
    have hkb := (step_of_below hb2).blk HKB.out List.not_mem_nil List.not_mem_nil
    have HKA2 := Lib.hid hka
    have HKB2 := Lib.hid hkb
    have HB3 := Lib.hid (HB2.out.trans (hb2.mono HB2.out.size))
    have p0 : w2.cell? ⟨w.heap.size + 1, 0, none⟩ = some (.string b.path) := blk_cell hkb 0
    have p1 : w2.cell? ⟨w.heap.size + 1, 1, none⟩ = some (.int .i64 b.size) := blk_cell hkb 1
    have p2 : w2.cell? ⟨w.heap.size + 1, 2, none⟩ = some (.int .u8 b.kind) := blk_cell hkb 2
    have p3 : w2.cell? ⟨w.heap.size + 1, 3, none⟩ = some (.int .i64 b.mode) := blk_cell hkb 3
    have p4 : w2.cell? ⟨w.heap.size + 1, 4, none⟩ = some (.int .i64 b.time) := blk_cell hkb 4
    have p5 : w2.cell? ⟨w.heap.size + 1, 5, none⟩ = some (.string b.link) := blk_cell hkb 5
    have p6 : w2.cell? ⟨w.heap.size + 1, 6, none⟩ = some (.string b.user) := blk_cell hkb 6
    have p7 : w2.cell? ⟨w.heap.size + 1, 7, none⟩ = some (.string b.group) := blk_cell hkb 7
    have p8 : w2.cell? ⟨w.heap.size + 1, 8, none⟩ = some (.int .i64 b.uid) := blk_cell hkb 8
    have p9 : w2.cell? ⟨w.heap.size + 1, 9, none⟩ = some (.int .i64 b.gid) := blk_cell hkb 9
    clear hb2 hka hkb
    go_wp2_with fail
    refine (C2.out _ (HTB.out _ (Hid.out (by first | assumption | exact Lib.hid (Below.refl _ _))))).mono ?_
    rintro e w3 ⟨rfl, hb3⟩
    have hka := (step_of_below hb3).blk HKA2.out List.not_mem_nil List.not_mem_nil
    have hkb := (step_of_below hb3).blk HKB2.out List.not_mem_nil List.not_mem_nil
    have HB4 := Lib.hid (HB3.out.trans (hb3.mono HB3.out.size))
    have r0 : w3.cell? ⟨w.heap.size, 0, none⟩ = some (.string a.path) := blk_cell hka 0
    have r1 : w3.cell? ⟨w.heap.size, 1, none⟩ = some (.int .i64 a.size) := blk_cell hka 1
    have r2 : w3.cell? ⟨w.heap.size, 2, none⟩ = some (.int .u8 a.kind) := blk_cell hka 2
    have r3 : w3.cell? ⟨w.heap.size, 3, none⟩ = some (.int .i64 a.mode) := blk_cell hka 3
    have r4 : w3.cell? ⟨w.heap.size, 4, none⟩ = some (.int .i64 a.time) := blk_cell hka 4
    have r5 : w3.cell? ⟨w.heap.size, 5, none⟩ = some (.string a.link) := blk_cell hka 5
    have r6 : w3.cell? ⟨w.heap.size, 6, none⟩ = some (.string a.user) := blk_cell hka 6
    have r7 : w3.cell? ⟨w.heap.size, 7, none⟩ = some (.string a.group) := blk_cell hka 7
    have r8 : w3.cell? ⟨w.heap.size, 8, none⟩ = some (.int .i64 a.uid) := blk_cell hka 8
    have r9 : w3.cell? ⟨w.heap.size, 9, none⟩ = some (.int .i64 a.gid) := blk_cell hka 9
    have t0 : w3.cell? ⟨w.heap.size + 1, 0, none⟩ = some (.string b.path) := blk_cell hkb 0
    have t1 : w3.cell? ⟨w.heap.size + 1, 1, none⟩ = some (.int .i64 b.size) := blk_cell hkb 1
    have t2 : w3.cell? ⟨w.heap.size + 1, 2, none⟩ = some (.int .u8 b.kind) := blk_cell hkb 2
    have t3 : w3.cell? ⟨w.heap.size + 1, 3, none⟩ = some (.int .i64 b.mode) := blk_cell hkb 3
    have t4 : w3.cell? ⟨w.heap.size + 1, 4, none⟩ = some (.int .i64 b.time) := blk_cell hkb 4
    have t5 : w3.cell? ⟨w.heap.size + 1, 5, none⟩ = some (.string b.link) := blk_cell hkb 5
    have t6 : w3.cell? ⟨w.heap.size + 1, 6, none⟩ = some (.string b.user) := blk_cell hkb 6
    have t7 : w3.cell? ⟨w.heap.size + 1, 7, none⟩ = some (.string b.group) := blk_cell hkb 7
    have t8 : w3.cell? ⟨w.heap.size + 1, 8, none⟩ = some (.int .i64 b.uid) := blk_cell hkb 8
    have t9 : w3.cell? ⟨w.heap.size + 1, 9, none⟩ = some (.int .i64 b.gid) := blk_cell hkb 9
    clear hb3 hka hkb p0 p1 p2 p3 p4 p5 p6 p7 p8 p9
    go_wp2_with fail
    refine (HAW.out _ (HTB.out _ (Hid.out (by first | assumption | exact Lib.hid (Below.refl _ _))))).mono ?_
    rintro e w4 ⟨rfl, hb4⟩
    have HB5 := Lib.hid (HB4.out.trans (hb4.mono HB4.out.size))
    clear hb4
    go_wp2_with fail
    go_ret
    exact ⟨rfl, HB5.out⟩
end
end Go.Proofs.YtiihkjloenlfmaaDoor
