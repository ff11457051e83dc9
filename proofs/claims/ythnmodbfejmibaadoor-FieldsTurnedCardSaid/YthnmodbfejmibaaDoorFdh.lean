/- Fields: Turned walked. Written ahead of stage 15. -/
import Derived.Test.YthnmodbfejmibaaDoorFdg
import Derived.Lib.ConvBytes
import Derived.Lib.AtoiErrMem
import Derived.Laws.BytesArg
namespace Go.Proofs.YthnmodbfejmibaaDoor
open Go.RowKit

/-- A block of bytes whose first n cells may be read and written. -/
def FAt (w : World) (g n : Nat) (f : Nat → Nat) : Prop := ∀ i, i < n → w.cell? ⟨g, i, none⟩ = some (.int .u8 (f i)) ∧ w.frozen? ⟨g, i, none⟩ = false
set_option maxRecDepth 100000 in
theorem FAt.set {w : World} {g n : Nat} {f : Nat → Nat} (h : FAt w g n f) (j v : Nat) (hj : j < n) : FAt (w.setCell ⟨g, j, none⟩ (.int .u8 v)) g n (fun i => if i = j then v else f i) := by
  intro i hi
  refine ⟨?_, by rw [World.frozen?_setCell]; exact (h i hi).2⟩
  by_cases e : i = j
  · subst e
    rw [World.cell?_setCell_same _ _ _ (h i hi).1]
    simp
  · rw [World.cell?_setCell_other _ _ _ _ (by intro hh; cases hh; exact e rfl), (h i hi).1]
    simp [e]
set_option maxRecDepth 100000 in
theorem fAt_new (w : World) (s : ByteArray) : FAt (Lib.bytesWorld w 5 s) w.heap.size s.size fun i => (s.data.toList.getD i 0).toNat := by
  intro i hi
  refine ⟨Lib.bytesWorld_cell w 5 s i hi, ?_⟩
  have hsz : s.size ≤ (Lib.bytesCells w 5 s).size := by
    simp [Lib.bytesCells]
  simp [World.frozen?, Lib.bytesWorld_at_new]
  intro h1
  exfalso
  omega
set_option maxRecDepth 100000 in
theorem turned_str (l : List UInt8) (p v : Nat) (h : l.length = 512) : strOfNums ((List.range 512).map fun i => ((if i = p then v else (l.getD i 0).toNat : Nat) : Int)) = strF (l.set p (UInt8.ofNat v)) := by
  unfold strOfNums strF
  congr 2
  rw [List.map_map]
  apply List.ext_getElem
  · rw [List.length_map, List.length_range, List.length_set, h]
  · intro i h1 h2
    rw [List.length_map, List.length_range] at h1
    rw [List.getElem_map, List.getElem_range, List.getElem_set]
    simp only [Function.comp, Int.toNat_natCast]
    by_cases e : i = p
    · rw [if_pos e, if_pos e.symm]
    · rw [if_neg e, if_neg (Ne.symm e), List.getD_eq_getElem?_getD, List.getElem?_eq_getElem (by omega)]
      exact UInt8.ofNat_toNat
theorem range_get (F : Nat → Int) (n i : Nat) (h : i < n) : ((List.range n).map F).getD i 0 = F i := by
  rw [List.getD_eq_getElem?_getD, List.getElem?_map, List.getElem?_range h]
  rfl
set_option maxRecDepth 100000 in
theorem xor_ne (x y : Nat) (h : y ≠ 0) : x ^^^ y ≠ x := by
  intro hh
  have := congrArg (x ^^^ ·) hh
  simp only [← Nat.xor_assoc, Nat.xor_self, Nat.zero_xor] at this
  exact h this
section
variable (R : FieldsDone)
include R
set_option maxHeartbeats 3200000 in
set_option maxRecDepth 100000 in
theorem turned_other (w : World) (hT : Tabs w) (s : ByteArray) (a : Int) (y : Nat) (hs : s.size ≤ 140737488355328) (ha1 : -9223372036854775808 ≤ a) (ha2 : a ≤ 9223372036854775807) (hy : y < 256) (h : s.size ≠ 512 ∨ a < 0 ∨ 512 ≤ a ∨ y = 0) :
    Calls Tryd.prog 9 #[.string s, .int .i64 a, .int .u8 y] w fun e w' => e = .returned (.bool true) ∧ Below w.heap.size w w' := by
  have HTB : Hid (∀ wx : World, Below w.heap.size w wx → Tabs wx) := Lib.hid fun wx hb => hT.below hb
  have HB0 := Lib.hid (Below.refl w.heap.size w)
  have HAW := Lib.hid (awake_fields R)
  clear hT
  have HC := Lib.hid (R.sum w s hs)
  have hk : (sumA s.data.toList).2 = if s.size ≠ 512 then 2 else 0 := by
    show (if s.size ≠ 512 then ((0 : Nat), (2 : Nat)) else (256 + sumF s.data.toList 512, 0)).2 = _
    split <;> rfl
  generalize sumA s.data.toList = ans at *
  obtain ⟨m, k⟩ := ans
  dsimp only at HC hk
  clear R
  by_cases e1 : s.size ≠ 512
  · have d0 : ((s.size : Int) != 512) = true := bne_iff_ne.2 (by omega)
    have d9 : ((s.size : Int) == 512) = false := beq_false_of_ne (by omega)
    rw [if_pos e1] at hk
    subst hk
    clear h e1
    go_enter Tryd.func9, Tryd.ntmps9
    go_wp2_with fail
    refine HC.out.mono ?_
    rintro e w1 ⟨rfl, hb1⟩
    have HB1 := Lib.hid hb1
    clear hb1
    go_wp2_with fail
    refine (HAW.out w1 (HTB.out _ (Hid.out (by assumption)))).mono ?_
    rintro e w2 ⟨rfl, hb2⟩
    have HB2 := Lib.hid (HB1.out.trans (hb2.mono HB1.out.size))
    clear hb2
    go_wp2_with fail
    go_ret
    exact ⟨rfl, HB2.out⟩
  · have e1 := Decidable.not_not.1 e1
    have d0 : ((s.size : Int) != 512) = false := by rw [bne_eq_false_iff_eq]; omega
    have d9 : ((s.size : Int) == 512) = true := beq_iff_eq.2 (by omega)
    rw [if_neg (fun x => x e1)] at hk
    subst hk
    by_cases e2 : a < 0
    · have d1 : decide (a < 0) = true := decide_eq_true e2
      clear h e1 e2
      go_enter Tryd.func9, Tryd.ntmps9
      go_wp2_with fail
      refine HC.out.mono ?_
      rintro e w1 ⟨rfl, hb1⟩
      have HB1 := Lib.hid hb1
      clear hb1
      go_wp2_with fail
      refine (HAW.out w1 (HTB.out _ (Hid.out (by assumption)))).mono ?_
      rintro e w2 ⟨rfl, hb2⟩
      have HB2 := Lib.hid (HB1.out.trans (hb2.mono HB1.out.size))
      clear hb2
      go_wp2_with fail
      go_ret
      exact ⟨rfl, HB2.out⟩
    · have d1 : decide (a < 0) = false := decide_eq_false e2
      by_cases e3 : 512 ≤ a
      · have d2 : decide (512 ≤ a) = true := decide_eq_true e3
        clear h e1
        go_enter Tryd.func9, Tryd.ntmps9
        go_wp2_with fail
        refine HC.out.mono ?_
        rintro e w1 ⟨rfl, hb1⟩
        have HB1 := Lib.hid hb1
        clear hb1
        go_wp2_with fail
        refine (HAW.out w1 (HTB.out _ (Hid.out (by assumption)))).mono ?_
        rintro e w2 ⟨rfl, hb2⟩
        have HB2 := Lib.hid (HB1.out.trans (hb2.mono HB1.out.size))
        clear hb2
        go_wp2_with fail
        go_ret
        exact ⟨rfl, HB2.out⟩
      · have d2 : decide (512 ≤ a) = false := decide_eq_false e3
        have hy0 : y = 0 := by omega
        subst hy0
        have d3 : (((0 : Nat) : Int) == 0) = true := rfl
        clear h e1
        go_enter Tryd.func9, Tryd.ntmps9
        go_wp2_with fail
        refine HC.out.mono ?_
        rintro e w1 ⟨rfl, hb1⟩
        have HB1 := Lib.hid hb1
        clear hb1
        go_wp2_with fail
        refine (HAW.out w1 (HTB.out _ (Hid.out (by assumption)))).mono ?_
        rintro e w2 ⟨rfl, hb2⟩
        have HB2 := Lib.hid (HB1.out.trans (hb2.mono HB1.out.size))
        clear hb2
        go_wp2_with fail
        go_ret
        exact ⟨rfl, HB2.out⟩
set_option maxHeartbeats 3200000 in
set_option maxRecDepth 100000 in
theorem turned_law (w : World) (hT : Tabs w) (s : ByteArray) (p y : Nat) (hs : s.size = 512) (hp : p < 512) (hy : y < 256) (hy0 : y ≠ 0) :
    Calls Tryd.prog 9 #[.string s, .int .i64 p, .int .u8 y] w fun e w' => e = .returned (.bool true) ∧ Below w.heap.size w w' := by
  have HTB : Hid (∀ wx : World, Below w.heap.size w wx → Tabs wx) := Lib.hid fun wx hb => hT.below hb
  have HB0 := Lib.hid (Below.refl w.heap.size w)
  have HAW := Lib.hid (awake_fields R)
  clear hT
  obtain ⟨l, hl⟩ : ∃ l, l = s.data.toList := ⟨_, rfl⟩
  have hll : l.length = 512 := by rw [hl]; exact hs
  obtain ⟨x, hx⟩ : ∃ x, x = (l.getD p 0).toNat := ⟨_, rfl⟩
  have hxb : x < 256 := by rw [hx]; exact UInt8.toNat_lt _
  have hxy : x ^^^ y < 2 ^ 8 := Nat.xor_lt_two_pow (by omega) (by omega)
  have hne : UInt8.ofNat (x ^^^ y) ≠ l.getD p 0 := fun h => by
    have h2 := congrArg UInt8.toNat h
    rw [UInt8.toNat_ofNat', ← hx, Nat.mod_eq_of_lt hxy] at h2
    exact xor_ne x y hy0 h2
  obtain ⟨t1, t2, t3⟩ := sum_turned l p _ hll hp hne
  have HS : Hid (∀ wx : World, Calls Tryd.prog 23 #[.string s] wx fun e w' => e = .returned (.tuple #[.int .i64 ((256 + sumF l 512 : Nat) : Int), .int .i64 0]) ∧ Below wx.heap.size wx w') := Lib.hid fun wx => by
    have h := R.sum wx s (by omega)
    rw [← hl, t1] at h
    exact h
  have HU : Hid (∀ wx : World, Calls Tryd.prog 23 #[.string (strF (l.set p (UInt8.ofNat (x ^^^ y))))] wx fun e w' => e = .returned (.tuple #[.int .i64 ((256 + sumF (l.set p (UInt8.ofNat (x ^^^ y))) 512 : Nat) : Int), .int .i64 0]) ∧ Below wx.heap.size wx w') := Lib.hid fun wx => by
    have h := R.sum wx (strF (l.set p (UInt8.ofNat (x ^^^ y)))) (by rw [strF_size, List.length_set]; omega)
    rw [strF_list, t2] at h
    exact h
  have hstr := turned_str l p (x ^^^ y) hll
  generalize strF (l.set p (UInt8.ofNat (x ^^^ y))) = U at *
  generalize 256 + sumF (l.set p (UInt8.ofNat (x ^^^ y))) 512 = m at *
  generalize 256 + sumF l 512 = n at *
  have HST := Lib.hid hstr
  have HT3 := Lib.hid t3
  have hcv := Lib.run_convert_string_bytes (P := Tryd.prog) w 9 41 5 s Tryd.underlying9 Tryd.underlying41 Tryd.underlying5
  have hat := fAt_new w s
  rw [← hl, hs] at hat
  rw [hs] at hcv
  have hb4 : Below w.heap.size w (Lib.bytesWorld w 5 s) := Lib.bytesWorld_below w 5 s
  generalize grownCap w 512 0 5 = cap at *
  generalize Lib.bytesWorld w 5 s = w4 at *
  obtain ⟨g2, hg2⟩ : ∃ g2, g2 = w.heap.size := ⟨_, rfl⟩
  rw [← hg2] at hat hcv
  have HG := Lib.hid hg2
  have HB4 := Lib.hid hb4
  obtain ⟨g3x, g4⟩ := hat p hp
  have g3 : w4.cell? ⟨g2, p, none⟩ = some (.int .u8 x) := by rw [hx]; exact g3x
  clear g3x
  have hst := FAt.set hat p (x ^^^ y) hp
  have hlt : g2 < w4.heap.size := World.block_lt_of_cell? w4 _ g3
  have HLT := Lib.hid hlt
  have hbw := hb4.setCell (p := ⟨g2, p, none⟩) (by rw [hg2]; exact Nat.le_refl _) (.int .u8 ((x ^^^ y : Nat) : Int))
  have HBW := Lib.hid hbw
  have HAT := Lib.hid hst
  have hxz := u8_xor_nat x y hxb hy
  have d0 : ((s.size : Int) != 512) = false := by rw [bne_eq_false_iff_eq]; omega
  have d1 : decide ((p : Int) < 0) = false := decide_eq_false (by omega)
  have d2 : decide ((512 : Int) ≤ (p : Int)) = false := decide_eq_false (by omega)
  have d3 : ((y : Int) == 0) = false := beq_false_of_ne (by omega)
  have hpn : (p : Int) < 512 := by omega
  have hsz9 : (w4.setCell ⟨g2, p, none⟩ (.int .u8 ((x ^^^ y : Nat) : Int))).heap.size = w4.heap.size := by
    simp
  have HSZ := Lib.hid hsz9
  clear R hl hll hx hxy hne t1 t2 t3 hstr hat hb4 hg2 hst hlt hbw hy0 hsz9
  go_enter Tryd.func9, Tryd.ntmps9
  go_wp2_with fail
  generalize w4.setCell ⟨g2, p, none⟩ (.int .u8 ((x ^^^ y : Nat) : Int)) = w5 at *
  refine (HS.out w5).mono ?_
  rintro e w6 ⟨rfl, hb6⟩
  have hcells : ∀ i, i < 512 → w6.cell? ⟨g2, 0 + i, none⟩ = some (.int .u8 ((if i = p then x ^^^ y else (l.getD i 0).toNat : Nat) : Int)) := fun i hi => by
    rw [Nat.zero_add, hb6.cell (p := ⟨g2, i, none⟩) (by rw [HSZ.out]; exact HLT.out)]
    exact (HAT.out i hi).1
  have hcv := run_convert_bytes_arg (P := Tryd.prog) w6 41 5 Tryd.underlying41 Tryd.underlying5 g2 0 512 cap ((List.range 512).map fun i => ((if i = p then x ^^^ y else (l.getD i 0).toNat : Nat) : Int)) (by simp) (fun i hi => by
    rw [hcells i hi, range_get _ _ _ hi]) 9 Tryd.underlying9
  rw [HST.out] at hcv
  have HB6 := Lib.hid (HBW.out.trans (hb6.mono HBW.out.size))
  clear hcells hb6
  go_wp2_with fail
  refine (HU.out w6).mono ?_
  rintro e w7 ⟨rfl, hb7⟩
  have HB7 := Lib.hid (HB6.out.trans (hb7.mono HB6.out.size))
  clear hb7
  by_cases c1 : 148 ≤ p
  · have k1 : decide ((148 : Int) ≤ (p : Int)) = true := decide_eq_true (by omega)
    by_cases c2 : p < 156
    · have k2 : decide ((p : Int) < 156) = true := decide_eq_true (by omega)
      have hnm : n = m := HT3.out.2 ⟨c1, c2⟩
      subst hnm
      have k3 : ((n : Int) == (n : Int)) = true := beq_self_eq_true _
      go_wp2_with fail
      refine (HAW.out w7 (HTB.out _ (Hid.out (by assumption)))).mono ?_
      rintro e w8 ⟨rfl, hb8⟩
      have HB8 := Lib.hid (HB7.out.trans (hb8.mono HB7.out.size))
      clear hb8
      go_wp2_with fail
      go_ret
      exact ⟨rfl, HB8.out⟩
    · have k2 : decide ((p : Int) < 156) = false := decide_eq_false (by omega)
      have hnm : n ≠ m := fun h => c2 (HT3.out.1 h).2
      have k3 : ((n : Int) == (m : Int)) = false := beq_false_of_ne (by omega)
      have k4 : (n == m) = false := beq_false_of_ne hnm
      go_wp2_with fail
      refine (HAW.out w7 (HTB.out _ (Hid.out (by assumption)))).mono ?_
      rintro e w8 ⟨rfl, hb8⟩
      have HB8 := Lib.hid (HB7.out.trans (hb8.mono HB7.out.size))
      clear hb8
      go_wp2_with fail
      go_ret
      exact ⟨rfl, HB8.out⟩
  · have k1 : decide ((148 : Int) ≤ (p : Int)) = false := decide_eq_false (by omega)
    have hnm : n ≠ m := fun h => c1 (HT3.out.1 h).1
    have k3 : ((n : Int) == (m : Int)) = false := beq_false_of_ne (by omega)
    have k4 : (n == m) = false := beq_false_of_ne hnm
    go_wp2_with fail
    refine (HAW.out w7 (HTB.out _ (Hid.out (by assumption)))).mono ?_
    rintro e w8 ⟨rfl, hb8⟩
    have HB8 := Lib.hid (HB7.out.trans (hb8.mono HB7.out.size))
    clear hb8
    go_wp2_with fail
    go_ret
    exact ⟨rfl, HB8.out⟩
end
end Go.Proofs.YthnmodbfejmibaaDoor
