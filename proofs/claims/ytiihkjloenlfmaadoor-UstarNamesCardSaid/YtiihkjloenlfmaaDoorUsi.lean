/- The law UstarTurned, walked over what is asked of the code. With the tables and the sizes that the landed code wants (gen16t.py). -/
import Derived.Test.YtiihkjloenlfmaaDoorUsh
import Derived.Lib.ConvBytes
import Derived.Lib.AtoiErrMem
import Derived.Laws.BytesArg
namespace Go.Proofs.YtiihkjloenlfmaaDoor
open Go.RowKit

/-- A block of bytes whose first n cells may be read and written. -/
def UAt (w : World) (g n : Nat) (f : Nat → Nat) : Prop := ∀ i, i < n → w.cell? ⟨g, i, none⟩ = some (.int .u8 (f i)) ∧ w.frozen? ⟨g, i, none⟩ = false
set_option maxRecDepth 100000 in
theorem UAt.set {w : World} {g n : Nat} {f : Nat → Nat} (h : UAt w g n f) (j v : Nat) (hj : j < n) : UAt (w.setCell ⟨g, j, none⟩ (.int .u8 v)) g n (fun i => if i = j then v else f i) := by
  intro i hi
  refine ⟨?_, by rw [World.frozen?_setCell]; exact (h i hi).2⟩
  by_cases e : i = j
  · subst e
    rw [World.cell?_setCell_same _ _ _ (h i hi).1]
    simp
  · rw [World.cell?_setCell_other _ _ _ _ (by intro hh; cases hh; exact e rfl), (h i hi).1]
    simp [e]
set_option maxRecDepth 100000 in
theorem uAt_new (w : World) (s : ByteArray) : UAt (Lib.bytesWorld w 5 s) w.heap.size s.size fun i => (s.data.toList.getD i 0).toNat := by
  intro i hi
  refine ⟨Lib.bytesWorld_cell w 5 s i hi, ?_⟩
  have hsz : s.size ≤ (Lib.bytesCells w 5 s).size := by
    simp [Lib.bytesCells]
  simp [World.frozen?, Lib.bytesWorld_at_new]
  intro h1
  exfalso
  omega
set_option maxRecDepth 100000 in
theorem uturned_str (l : List UInt8) (p v : Nat) (h : l.length = 512) : strOfNums ((List.range 512).map fun i => ((if i = p then v else (l.getD i 0).toNat : Nat) : Int)) = strP (l.set p (UInt8.ofNat v)) := by
  unfold strOfNums strP
  congr 2
  rw [List.map_map]
  apply List.ext_getElem
  · rw [List.length_map, List.length_range, List.length_set, h]
  · intro i h1 h2
    rw [List.length_map, List.length_range] at h1
    rw [List.getElem_map, List.getElem_range, List.getElem_set]
    simp only [Function.comp, Int.toNat_natCast]
    by_cases e : i = p
    · rw [if_pos e, if_pos e.symm]
    · rw [if_neg e, if_neg (Ne.symm e), List.getD_eq_getElem?_getD, List.getElem?_eq_getElem (by omega)]
      exact UInt8.ofNat_toNat
theorem urange_get (F : Nat → Int) (n i : Nat) (h : i < n) : ((List.range n).map F).getD i 0 = F i := by
  rw [List.getD_eq_getElem?_getD, List.getElem?_map, List.getElem?_range h]
  rfl
set_option maxRecDepth 100000 in
theorem uxor_ne (x y : Nat) (h : y ≠ 0) : x ^^^ y ≠ x := by
  intro hh
  have := congrArg (x ^^^ ·) hh
  simp only [← Nat.xor_assoc, Nat.xor_self, Nat.zero_xor] at this
  exact h this
section
variable (R : UstarDone)
include R
set_option maxHeartbeats 6400000 in
set_option maxRecDepth 100000 in
theorem turned_law (w : World) (hT : Tabs w) (h : HeadP) (hb : HeadT h) (a : Int) (y : Nat) (ha1 : -9223372036854775808 ≤ a) (ha2 : a ≤ 9223372036854775807) (hy : y < 256) :
    Calls Tryd.prog 7 #[headV h, .int .i64 a, .int .u8 y] w fun e w' => e = .returned (.bool true) ∧ Below w.heap.size w w' := by
  have HTB : Hid (∀ wx : World, Below w.heap.size w wx → Tabs wx) := Lib.hid fun wx hb => hT.below hb
  have HAW := Lib.hid (awake_ustar R)
  have C1 := Lib.hid fun (wx : World) (ht : Tabs wx) => R.encode wx ht h hb
  have HET := Lib.hid fun s he a x ha ha2 hx => enc_turned h s he a x ha ha2 hx
  have HED := Lib.hid fun s he => enc_dec h s he
  have HDE := Lib.hid R.decode
  generalize encA h = ans at *
  obtain ⟨X, k⟩ := ans
  dsimp only at C1
  rw [headV_lit] at C1 ⊢
  have HB1 := Lib.hid (show Below w.heap.size w (w.alloc (.cells #[.string h.path, .int .i64 h.size, .int .u8 h.kind, .int .i64 h.mode, .int .i64 h.time, .string h.link, .string h.user, .string h.group, .int .i64 h.uid, .int .i64 h.gid] 25)) from (Below.refl _ _).alloc (Nat.le_refl _) _)
  have deep1 := str2_deep
  have deep2 := int2_deep
  have guardb := guardH
  clear hT R hb
  by_cases e1 : k = 0
  · have d1 : ((k : Int) != 0) = false := by rw [e1]; rfl
    by_cases e2 : a < 0
    · have d2 : decide (a < 0) = true := decide_eq_true e2
      clear HET HED HDE e1 e2
      go_enter Tryd.func7, Tryd.ntmps7
      go_wp2_with fail
      refine (C1.out _ (HTB.out _ (Hid.out (by first | assumption | exact Lib.hid (Below.refl _ _))))).mono ?_
      rintro e w2 ⟨rfl, hb2⟩
      have HB2 := Lib.hid (HB1.out.trans (hb2.mono HB1.out.size))
      clear hb2
      go_wp2_with fail
      refine (HAW.out _ (HTB.out _ (Hid.out (by first | assumption | exact Lib.hid (Below.refl _ _))))).mono ?_
      rintro e w4 ⟨rfl, hb4⟩
      have HB4 := Lib.hid (HB2.out.trans (hb4.mono HB2.out.size))
      clear hb4
      go_wp2_with fail
      go_ret
      exact ⟨rfl, HB4.out⟩
    have d2 : decide (a < 0) = false := decide_eq_false e2
    by_cases e3 : 512 ≤ a
    · have d3 : decide (512 ≤ a) = true := decide_eq_true e3
      clear HET HED HDE e1 e2 e3
      go_enter Tryd.func7, Tryd.ntmps7
      go_wp2_with fail
      refine (C1.out _ (HTB.out _ (Hid.out (by first | assumption | exact Lib.hid (Below.refl _ _))))).mono ?_
      rintro e w2 ⟨rfl, hb2⟩
      have HB2 := Lib.hid (HB1.out.trans (hb2.mono HB1.out.size))
      clear hb2
      go_wp2_with fail
      refine (HAW.out _ (HTB.out _ (Hid.out (by first | assumption | exact Lib.hid (Below.refl _ _))))).mono ?_
      rintro e w4 ⟨rfl, hb4⟩
      have HB4 := Lib.hid (HB2.out.trans (hb4.mono HB2.out.size))
      clear hb4
      go_wp2_with fail
      go_ret
      exact ⟨rfl, HB4.out⟩
    have d3 : decide (512 ≤ a) = false := decide_eq_false e3
    obtain ⟨p, rfl⟩ := Int.eq_ofNat_of_zero_le (show 0 ≤ a by omega)
    by_cases e4 : 148 ≤ p ∧ p < 156
    · have d4 : decide ((148 : Int) ≤ (p : Int)) = true := decide_eq_true (by omega)
      have d5 : decide ((p : Int) < 156) = true := decide_eq_true (by omega)
      clear HET HED HDE e1 e2 e3 e4
      go_enter Tryd.func7, Tryd.ntmps7
      go_wp2_with fail
      refine (C1.out _ (HTB.out _ (Hid.out (by first | assumption | exact Lib.hid (Below.refl _ _))))).mono ?_
      rintro e w2 ⟨rfl, hb2⟩
      have HB2 := Lib.hid (HB1.out.trans (hb2.mono HB1.out.size))
      clear hb2
      go_wp2_with fail
      refine (HAW.out _ (HTB.out _ (Hid.out (by first | assumption | exact Lib.hid (Below.refl _ _))))).mono ?_
      rintro e w4 ⟨rfl, hb4⟩
      have HB4 := Lib.hid (HB2.out.trans (hb4.mono HB2.out.size))
      clear hb4
      go_wp2_with fail
      go_ret
      exact ⟨rfl, HB4.out⟩
    have d45 : (decide ((148 : Int) ≤ (p : Int)) = false) ∨ (decide ((148 : Int) ≤ (p : Int)) = true ∧ decide ((p : Int) < 156) = false) := by
      by_cases e : 148 ≤ p
      · exact .inr ⟨decide_eq_true (by omega), decide_eq_false (by omega)⟩
      · exact .inl (decide_eq_false (by omega))
    by_cases e6 : y = 0
    · have d6 : ((y : Int) == 0) = true := by rw [e6]; rfl
      clear HET HED HDE e1 e2 e3 e4 e6
      rcases d45 with d4 | ⟨d4, d5⟩
      · skip
        go_enter Tryd.func7, Tryd.ntmps7
        go_wp2_with fail
        refine (C1.out _ (HTB.out _ (Hid.out (by first | assumption | exact Lib.hid (Below.refl _ _))))).mono ?_
        rintro e w2 ⟨rfl, hb2⟩
        have HB2 := Lib.hid (HB1.out.trans (hb2.mono HB1.out.size))
        clear hb2
        go_wp2_with fail
        refine (HAW.out _ (HTB.out _ (Hid.out (by first | assumption | exact Lib.hid (Below.refl _ _))))).mono ?_
        rintro e w4 ⟨rfl, hb4⟩
        have HB4 := Lib.hid (HB2.out.trans (hb4.mono HB2.out.size))
        clear hb4
        go_wp2_with fail
        go_ret
        exact ⟨rfl, HB4.out⟩
      · skip
        go_enter Tryd.func7, Tryd.ntmps7
        go_wp2_with fail
        refine (C1.out _ (HTB.out _ (Hid.out (by first | assumption | exact Lib.hid (Below.refl _ _))))).mono ?_
        rintro e w2 ⟨rfl, hb2⟩
        have HB2 := Lib.hid (HB1.out.trans (hb2.mono HB1.out.size))
        clear hb2
        go_wp2_with fail
        refine (HAW.out _ (HTB.out _ (Hid.out (by first | assumption | exact Lib.hid (Below.refl _ _))))).mono ?_
        rintro e w4 ⟨rfl, hb4⟩
        have HB4 := Lib.hid (HB2.out.trans (hb4.mono HB2.out.size))
        clear hb4
        go_wp2_with fail
        go_ret
        exact ⟨rfl, HB4.out⟩
    have d6 : ((y : Int) == 0) = false := beq_false_of_ne (by omega)
    subst e1
    have hl := (HED.out X rfl).2.1
    obtain ⟨x, hx⟩ : ∃ x, x = (X.getD p 0).toNat := ⟨_, rfl⟩
    have hxb : x < 256 := by rw [hx]; exact UInt8.toNat_lt _
    have hxy : x ^^^ y < 2 ^ 8 := Nat.xor_lt_two_pow (by omega) (by omega)
    have hne : UInt8.ofNat (x ^^^ y) ≠ X.getD p 0 := fun h => by
      have h2 := congrArg UInt8.toNat h
      rw [UInt8.toNat_ofNat', ← hx, Nat.mod_eq_of_lt hxy] at h2
      exact uxor_ne x y e6 h2
    have hdt := HET.out X rfl p _ (by omega) (by omega) hne
    have C2 := Lib.hid fun wx => HDE.out wx (strP (X.set p (UInt8.ofNat (x ^^^ y)))) (by show (X.set p (UInt8.ofNat (x ^^^ y))).length ≤ _; rw [List.length_set]; omega)
    rw [strP_list, hdt] at C2
    have hz : headV zeroHead = .agg #[.string ⟨#[]⟩, .int .i64 0, .int .u8 0, .int .i64 0, .int .i64 0, .string ⟨#[]⟩, .string ⟨#[]⟩, .string ⟨#[]⟩, .int .i64 0, .int .i64 0] := rfl
    dsimp only at C2
    rw [hz] at C2
    have hstr := uturned_str X p (x ^^^ y) hl
    generalize strP (X.set p (UInt8.ofNat (x ^^^ y))) = U at *
    have HST := Lib.hid hstr
    have dsz : (strP X).size = 512 := hl
    have hxz := u8_xor_nat x y hxb hy
    have hpn : (p : Int) < 512 := by omega
    have hp0 : (0 : Int) ≤ (p : Int) := by omega
    have HX := Lib.hid hx
    have HPL : Hid (p < 512) := Lib.hid (by omega)
    clear HET HED HDE hne hxb hxy hdt hz hstr hl hx e2 e3 e4 e6
    rcases d45 with d4 | ⟨d4, d5⟩
    · skip
      go_enter Tryd.func7, Tryd.ntmps7
      go_wp2_with fail
      refine (C1.out _ (HTB.out _ (Hid.out (by first | assumption | exact Lib.hid (Below.refl _ _))))).mono ?_
      rintro e w2 ⟨rfl, hb2⟩
      have HB2 := Lib.hid (HB1.out.trans (hb2.mono HB1.out.size))
      have hcv := Lib.run_convert_string_bytes (P := Tryd.prog) w2 9 38 5 (strP X) Tryd.underlying9 Tryd.underlying38 Tryd.underlying5
      have hat := uAt_new w2 (strP X)
      rw [dsz] at hat hcv
      rw [strP_list] at hat
      have hb4 : Below w2.heap.size w2 (Lib.bytesWorld w2 5 (strP X)) := Lib.bytesWorld_below w2 5 (strP X)
      generalize grownCap w2 512 0 5 = cap at *
      generalize Lib.bytesWorld w2 5 (strP X) = w4 at *
      obtain ⟨g2, hg2⟩ : ∃ g2, g2 = w2.heap.size := ⟨_, rfl⟩
      rw [← hg2] at hat hcv
      obtain ⟨g3x, g4⟩ := hat p HPL.out
      have g3 : w4.cell? ⟨g2, p, none⟩ = some (.int .u8 x) := by rw [HX.out]; exact g3x
      have hst := UAt.set hat p (x ^^^ y) HPL.out
      have hlt : g2 < w4.heap.size := World.block_lt_of_cell? w4 _ g3
      have hbw := hb4.setCell (p := ⟨g2, p, none⟩) (by rw [hg2]; exact Nat.le_refl _) (.int .u8 ((x ^^^ y : Nat) : Int))
      have HBW := Lib.hid (HB2.out.trans (hbw.mono HB2.out.size))
      have hcells : ∀ i, i < 512 → (w4.setCell ⟨g2, p, none⟩ (.int .u8 ((x ^^^ y : Nat) : Int))).cell? ⟨g2, 0 + i, none⟩ = some (.int .u8 ((if i = p then x ^^^ y else (X.getD i 0).toNat : Nat) : Int)) := fun i hi => by
        rw [Nat.zero_add]
        exact (hst i hi).1
      have hcv2 := run_convert_bytes_arg (P := Tryd.prog) (w4.setCell ⟨g2, p, none⟩ (.int .u8 ((x ^^^ y : Nat) : Int))) 38 5 Tryd.underlying38 Tryd.underlying5 g2 0 512 cap ((List.range 512).map fun i => ((if i = p then x ^^^ y else (X.getD i 0).toNat : Nat) : Int)) (by simp) (fun i hi => by
        rw [hcells i hi, urange_get _ _ _ hi]) 9 Tryd.underlying9
      rw [HST.out] at hcv2
      have HCV2 := Lib.hid hcv2
      clear g3x hat hb2 hb4 hg2 hst hlt hbw hcells hcv2
      go_upto_region 8 with fail
      have hcv2 := HCV2.out
      clear hcv g3 g4
      generalize w4.setCell ⟨g2, p, none⟩ (.int .u8 ((x ^^^ y : Nat) : Int)) = w5 at *
      go_wp2_with fail
      refine (C2.out _).mono ?_
      rintro e w6 ⟨rfl, hb6⟩
      have HB6 : Hid (Below w.heap.size w (w6.alloc (.cells #[.string ⟨#[]⟩, .int .i64 0, .int .u8 0, .int .i64 0, .int .i64 0, .string ⟨#[]⟩, .string ⟨#[]⟩, .string ⟨#[]⟩, .int .i64 0, .int .i64 0] 25))) := Lib.hid ((HBW.out.trans (hb6.mono HBW.out.size)).alloc (HBW.out.trans (hb6.mono HBW.out.size)).size _)
      clear hb6
      go_wp2_with fail
      refine (HAW.out _ (HTB.out _ (Hid.out (by first | assumption | exact Lib.hid (Below.refl _ _))))).mono ?_
      rintro e w8 ⟨rfl, hb8⟩
      have HB8 := Lib.hid (HB6.out.trans (hb8.mono HB6.out.size))
      clear hb8
      go_wp2_with fail
      go_ret
      exact ⟨rfl, HB8.out⟩
    · skip
      go_enter Tryd.func7, Tryd.ntmps7
      go_wp2_with fail
      refine (C1.out _ (HTB.out _ (Hid.out (by first | assumption | exact Lib.hid (Below.refl _ _))))).mono ?_
      rintro e w2 ⟨rfl, hb2⟩
      have HB2 := Lib.hid (HB1.out.trans (hb2.mono HB1.out.size))
      have hcv := Lib.run_convert_string_bytes (P := Tryd.prog) w2 9 38 5 (strP X) Tryd.underlying9 Tryd.underlying38 Tryd.underlying5
      have hat := uAt_new w2 (strP X)
      rw [dsz] at hat hcv
      rw [strP_list] at hat
      have hb4 : Below w2.heap.size w2 (Lib.bytesWorld w2 5 (strP X)) := Lib.bytesWorld_below w2 5 (strP X)
      generalize grownCap w2 512 0 5 = cap at *
      generalize Lib.bytesWorld w2 5 (strP X) = w4 at *
      obtain ⟨g2, hg2⟩ : ∃ g2, g2 = w2.heap.size := ⟨_, rfl⟩
      rw [← hg2] at hat hcv
      obtain ⟨g3x, g4⟩ := hat p HPL.out
      have g3 : w4.cell? ⟨g2, p, none⟩ = some (.int .u8 x) := by rw [HX.out]; exact g3x
      have hst := UAt.set hat p (x ^^^ y) HPL.out
      have hlt : g2 < w4.heap.size := World.block_lt_of_cell? w4 _ g3
      have hbw := hb4.setCell (p := ⟨g2, p, none⟩) (by rw [hg2]; exact Nat.le_refl _) (.int .u8 ((x ^^^ y : Nat) : Int))
      have HBW := Lib.hid (HB2.out.trans (hbw.mono HB2.out.size))
      have hcells : ∀ i, i < 512 → (w4.setCell ⟨g2, p, none⟩ (.int .u8 ((x ^^^ y : Nat) : Int))).cell? ⟨g2, 0 + i, none⟩ = some (.int .u8 ((if i = p then x ^^^ y else (X.getD i 0).toNat : Nat) : Int)) := fun i hi => by
        rw [Nat.zero_add]
        exact (hst i hi).1
      have hcv2 := run_convert_bytes_arg (P := Tryd.prog) (w4.setCell ⟨g2, p, none⟩ (.int .u8 ((x ^^^ y : Nat) : Int))) 38 5 Tryd.underlying38 Tryd.underlying5 g2 0 512 cap ((List.range 512).map fun i => ((if i = p then x ^^^ y else (X.getD i 0).toNat : Nat) : Int)) (by simp) (fun i hi => by
        rw [hcells i hi, urange_get _ _ _ hi]) 9 Tryd.underlying9
      rw [HST.out] at hcv2
      have HCV2 := Lib.hid hcv2
      clear g3x hat hb2 hb4 hg2 hst hlt hbw hcells hcv2
      go_upto_region 8 with fail
      have hcv2 := HCV2.out
      clear hcv g3 g4
      generalize w4.setCell ⟨g2, p, none⟩ (.int .u8 ((x ^^^ y : Nat) : Int)) = w5 at *
      go_wp2_with fail
      refine (C2.out _).mono ?_
      rintro e w6 ⟨rfl, hb6⟩
      have HB6 : Hid (Below w.heap.size w (w6.alloc (.cells #[.string ⟨#[]⟩, .int .i64 0, .int .u8 0, .int .i64 0, .int .i64 0, .string ⟨#[]⟩, .string ⟨#[]⟩, .string ⟨#[]⟩, .int .i64 0, .int .i64 0] 25))) := Lib.hid ((HBW.out.trans (hb6.mono HBW.out.size)).alloc (HBW.out.trans (hb6.mono HBW.out.size)).size _)
      clear hb6
      go_wp2_with fail
      refine (HAW.out _ (HTB.out _ (Hid.out (by first | assumption | exact Lib.hid (Below.refl _ _))))).mono ?_
      rintro e w8 ⟨rfl, hb8⟩
      have HB8 := Lib.hid (HB6.out.trans (hb8.mono HB6.out.size))
      clear hb8
      go_wp2_with fail
      go_ret
      exact ⟨rfl, HB8.out⟩
  · have d1 : ((k : Int) != 0) = true := bne_iff_ne.2 (by omega)
    clear HET HED HDE e1
    go_enter Tryd.func7, Tryd.ntmps7
    go_wp2_with fail
    refine (C1.out _ (HTB.out _ (Hid.out (by first | assumption | exact Lib.hid (Below.refl _ _))))).mono ?_
    rintro e w2 ⟨rfl, hb2⟩
    have HB2 := Lib.hid (HB1.out.trans (hb2.mono HB1.out.size))
    clear hb2
    go_wp2_with fail
    refine (HAW.out _ (HTB.out _ (Hid.out (by first | assumption | exact Lib.hid (Below.refl _ _))))).mono ?_
    rintro e w4 ⟨rfl, hb4⟩
    have HB4 := Lib.hid (HB2.out.trans (hb4.mono HB2.out.size))
    clear hb4
    go_wp2_with fail
    go_ret
    exact ⟨rfl, HB4.out⟩
end
end Go.Proofs.YtiihkjloenlfmaaDoor
