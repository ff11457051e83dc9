/- Yc: texts laid together, what is not used left out. -/
import Derived.Test.YtmgmgmbpldboiaaGreatZ03
import Derived.Lib.AppendZeros
import Derived.Deep.RegionLaw
namespace Go.Proofs.YtmgmgmbpldboiaaGreat
open Go.RowKit

theorem least_same {k : Nat} {ws ov ws2 ov2 : Nat → Nat} {a : Nat} (h : Least k ws ov a) (hw : ∀ j, j < k → ws2 j = ws j) (ho : ∀ j, j < k → ov2 j = ov j) : Least k ws2 ov2 a := by
  refine ⟨h.1, by rw [ho a h.1]; exact h.2.1, fun j hj h0 hne => ?_⟩
  rw [hw a h.1, hw j hj]
  exact h.2.2 j hj (by rw [← ho j hj]; exact h0) hne
theorem least_row (w : World) (B gW cW gO cO k : Nat) (ws ov : Nat → Nat) (hW : FRow w B gW cW k ws) (hO : FRow w B gO cO k ov) (hk : k ≤ 10000) (h0 : ∃ j, j < k ∧ ov j = 0) :
    Calls Tryz.prog 121 #[.slice (some ⟨gW, 0, none⟩) k cW, .slice (some ⟨gO, 0, none⟩) k cO] w fun e w' => ∃ a : Nat, e = .returned (.int .i64 a) ∧ Least k ws ov a ∧ ∃ m, w' = w.drewN m := by
  obtain ⟨j0, hj0, hz0⟩ := h0
  refine (least_any w _ _ k cW cO _ _ hW.ints hO.ints hk ⟨j0, hj0, by rw [range_getD k ov j0 hj0]; exact hz0⟩).mono ?_
  rintro e w' ⟨a, rfl, hl, hd⟩
  exact ⟨a, rfl, least_same hl (fun j hj => (range_getD k ws j hj).symm) (fun j hj => (range_getD k ov j hj).symm), hd⟩
theorem grown_top {n k : Nat} {w : List Nat} {ws ov : Nat → Nat} {act : List Tr} {len : Nat → Nat} (h : Grown n w k ws ov act len) : ∀ j, k ≤ j → ov j = 0 := by
  intro j hj
  by_cases e : ov j = 0
  · exact e
  · have := h.par j e
    omega

theorem up_le {ov : Nat → Nat} (hp : ∀ j, ov j ≠ 0 → j < ov j) {i j d : Nat} (h : Up ov i j d) : i + d ≤ j := by
  induction h with
  | here => exact Nat.le_refl _
  | next h h0 ih =>
    have := hp _ h0
    omega

/-- The first half of grown: every tree but one is in one. -/
def Half (w wx : World) (n : Nat) (W : List Nat) (s : Nat) (v3 v4 : Value) : Prop := ∃ (k gW cW gO cO : Nat) (ws ov : Nat → Nat) (act : List Tr) (len : Nat → Nat), k + 1 = n + s ∧ v3 = .slice (some ⟨gW, 0, none⟩) k cW ∧ v4 = .slice (some ⟨gO, 0, none⟩) k cO ∧ gW ≠ gO ∧
  FRow wx w.heap.size gW cW k ws ∧ FRow wx w.heap.size gO cO k ov ∧ Grown n W k ws ov act len ∧ Below w.heap.size w wx

/-- What grown makes of weights. -/
def GrownPost (w : World) (n : Nat) (W : List Nat) (e : Ending) (w' : World) : Prop := ∃ (g c : Nat) (len : Nat → Nat), HLen W len ∧ e = .returned (.slice (some ⟨g, 0, none⟩) n c) ∧ FRow w' w.heap.size g c n len ∧ Below w.heap.size w w'

set_option maxHeartbeats 3200000 in
set_option maxRecDepth 100000 in
theorem grown_any (w : World) (A : Option Addr) (n c : Nat) (W : List Nat) (hL : IntsIn w A n W) (h1 : 1 ≤ n) (hn : n ≤ 258) (hsum : W.sum ≤ 1099511627776) : Calls Tryz.prog 78 #[.slice A n c] w (GrownPost w n W) := by
  have hlen := hL.1
  have hown0 : (w.alloc (.cells #[] 3)).ownsRow w.heap.size 3 1 (.slice (some ⟨w.heap.size, 0, none⟩) 0 0) 0 [] := World.ownsRow_made w #[] 0 (Nat.le_refl _) (Nat.zero_le _) rfl
  have hb0 : Below w.heap.size w (w.alloc (.cells #[] 3)) := (Below.refl _ w).alloc (Nat.le_refl _) _
  obtain ⟨v3, w3, hr3, ho3, hg3⟩ := append_ints (w.alloc (.cells #[] 3)) w.heap.size _ 0 [] hown0 A n c W (ints_low hL hb0) (by omega) (by simp)
  have hb3 : Below w.heap.size w w3 := hb0.grown hg3 (by simp) (fun k hk => (hown0.lt k hk).1)
  obtain ⟨A3, c3, rfl, hc3, _, hA3⟩ := own_slice ho3
  obtain ⟨g3, rfl⟩ := hA3 (by omega)
  rw [Nat.zero_add] at ho3 hr3 hc3
  have hf3 : FRow w3 w.heap.size g3 c3 n fun j => W.getD j 0 := by
    have := ho3
    rw [List.nil_append, rowF_list, hlen] at this
    exact this
  have hmk := make_noughts w3 n (by omega)
  have hmo := made_noughts w3 w.heap.size n hb3.size (by omega)
  have hf4 := hf3.alloc (.cells (madeCells #[.int .i64 0] n) 3)
  have hb4 : Below w.heap.size w (w3.alloc (.cells (madeCells #[.int .i64 0] n) 3)) := hb3.alloc hb3.size _
  have hstart : Half w (w3.alloc (.cells (madeCells #[.int .i64 0] n) 3)) n W 1 (.slice (some ⟨g3, 0, none⟩) n c3) (.slice (some ⟨w3.heap.size, 0, none⟩) n n) := by
    have hgs := grown_start W (by omega)
    rw [hlen] at hgs
    exact ⟨n, g3, c3, w3.heap.size, n, _, _, _, _, rfl, rfl, rfl, by have := hf3.lt; omega, hf4, hmo, hgs, hb4⟩
  have HR3 := Lib.hid hr3
  have HST := Lib.hid hstart
  have HSUM := Lib.hid hsum
  clear hL hlen hown0 hb0 hr3 ho3 hg3 hb3 hf3 hmo hf4 hb4 hstart hsum hA3 hc3
  go_enter Tryz.func78, Tryz.ntmps78
  go_wp2_with (at_builtin; refine Lib.wpList_append_run _ rfl (.tmp 12) (.tmp 13) 22 22 rfl (.slice (some ⟨w.heap.size, 0, none⟩) 0 0) (.slice A n c) rfl rfl _ w3 HR3.out ?_)
  go_loopw [3, 4, 5] (fun a b x wx => ∃ s : Nat, 1 ≤ s ∧ s ≤ n ∧ x = .int .i64 s ∧ Half w wx n W s a b) (fun _ _ x _ => n - (intOf x).toNat)
  case atStart => exact ⟨1, Nat.le_refl _, h1, rfl, HST.out⟩
  case round =>
    obtain ⟨s, hs1, hsn, rfl, k, gW, cW, gO, cO, ws, ov, act, len, hks, rfl, rfl, hne, hfW, hfO, hgr, hb⟩ := hrel
    have hz9 := hb.size
    by_cases e : s < n
    · have ds : decide ((s : Int) < (n : Int)) = true := decide_eq_true (by omega)
      have htwo := grown_two hgr (by omega)
      obtain ⟨p, q, hp, hq, hpq, hp0, hq0⟩ := htwo
      have HL1 := Lib.hid (least_row wr w.heap.size gW cW gO cO k ws ov hfW hfO (by omega) ⟨p, hp, hp0⟩)
      have HFW := Lib.hid hfW
      have HFO := Lib.hid hfO
      have HG := Lib.hid hgr
      have HB := Lib.hid hb
      clear hfW hfO hgr hb
      go_wp2_with fail
      refine HL1.out.mono ?_
      rintro e w1 ⟨a, rfl, hla, m1, rfl⟩
      have HLA := Lib.hid hla
      have ha : a < k := hla.1
      have hfW1 := HFW.out.drew m1
      have hfO1 := HFO.out.drew m1
      have HB1 := Lib.hid (below_drewN HB.out m1)
      have hz1 : w.heap.size ≤ (wr.drewN m1).heap.size := hz9
      have hc1 := hfO1.cell a ha
      have hfr1 := hfO1.frozen a
      have haI : (0 : Int) ≤ (a : Int) := by omega
      have haJ : (a : Int) < (k : Int) := by omega
      have hO2 := hfO1.set a k
      have hW2 := hfW1.other (g2 := gO) (fun h => hne h.symm) a (.int .i64 k)
      have hgO := hfO1.lt
      have HO2 := Lib.hid hO2
      have HW2 := Lib.hid hW2
      have HB2 := Lib.hid (HB1.out.setCell (p := ⟨gO, a, none⟩) hgO.1 (.int .i64 k))
      obtain ⟨ov1, hov1⟩ : ∃ ov1 : Nat → Nat, ov1 = fun j => if j = a then k else ov j := ⟨_, rfl⟩
      have hroot : ∃ j, j < k ∧ ov1 j = 0 := by
        by_cases e1 : p = a
        · exact ⟨q, hq, by rw [hov1]; show (if q = a then k else ov q) = 0; rw [if_neg (fun h => hpq (e1.trans h.symm))]; exact hq0⟩
        · exact ⟨p, hp, by rw [hov1]; show (if p = a then k else ov p) = 0; rw [if_neg e1]; exact hp0⟩
      rw [← hov1] at HO2
      have HOV1 := Lib.hid hov1
      have HRT := Lib.hid hroot
      clear hfW1 hfO1 hO2 hW2 hla hov1 hroot hp0 hq0 HL1 HFW HFO HB
      go_wp2_with fail
      generalize (wr.drewN m1).setCell ⟨gO, a, none⟩ (.int .i64 k) = w2 at *
      have HL2 := Lib.hid (least_row w2 w.heap.size gW cW gO cO k ws ov1 HW2.out HO2.out (by omega) HRT.out)
      refine HL2.out.mono ?_
      rintro e w4 ⟨b, rfl, hlb, m2, rfl⟩
      have HLB := Lib.hid hlb
      have hb : b < k := hlb.1
      have hfW3 := HW2.out.drew m2
      have hfO3 := HO2.out.drew m2
      have HB3 := Lib.hid (below_drewN HB2.out m2)
      have hc3' := hfO3.cell b hb
      have hfr3 := hfO3.frozen b
      have hbI : (0 : Int) ≤ (b : Int) := by omega
      have hbJ : (b : Int) < (k : Int) := by omega
      have hO4 := hfO3.set b k
      have hW4 := hfW3.other (g2 := gO) (fun h => hne h.symm) b (.int .i64 k)
      obtain ⟨ov2, hov2⟩ : ∃ ov2 : Nat → Nat, ov2 = fun j => if j = b then k else if j = a then k else ov j := ⟨_, rfl⟩
      have hO4' : FRow ((w2.drewN m2).setCell ⟨gO, b, none⟩ (.int .i64 k)) w.heap.size gO cO k ov2 := by
        rw [HOV1.out] at hO4
        rw [hov2]
        exact hO4
      have hba : b ≠ a := by
        intro h
        have := hlb.2.1
        rw [HOV1.out, h] at this
        have h3 : (if a = a then k else ov a) = 0 := this
        rw [if_pos rfl] at h3
        omega
      have hob : ov b = 0 := by
        have := hlb.2.1
        rw [HOV1.out] at this
        have h3 : (if b = a then k else ov b) = 0 := this
        rwa [if_neg hba] at h3
      have hwg := grown_weigh HG.out ha hb (fun h => hba h.symm) HLA.out.2.1 hob
      obtain ⟨x, hx⟩ : ∃ x, x = ws a + ws b := ⟨_, rfl⟩
      have hxb : x ≤ 1099511627776 := Nat.le_trans (by rw [hx]; exact hwg) HSUM.out
      obtain ⟨xa, hxa⟩ : ∃ xa, xa = ws a := ⟨_, rfl⟩
      obtain ⟨xb, hxb2⟩ : ∃ xb, xb = ws b := ⟨_, rfl⟩
      have hxz : (xa : Int) + (xb : Int) = (x : Int) := by omega
      have hgn := grown_next HG.out HLA.out HOV1.out HLB.out hov2
      have HGN : Hid (∃ act2 len2, Grown n W (k + 1) (fun j => if j = k then x else ws j) (fun j => if j = k then 0 else ov2 j) act2 len2) := Lib.hid (by
        obtain ⟨act2, len2, h⟩ := hgn
        have e2 : (fun j => if j = k then 0 else ov2 j) = ov2 := by
          funext j
          by_cases ej : j = k
          · rw [if_pos ej, ej, hov2]
            show 0 = if k = b then k else if k = a then k else ov k
            rw [if_neg (by omega), if_neg (by omega), grown_top HG.out k (Nat.le_refl _)]
          · rw [if_neg ej]
        rw [e2, hx]
        exact ⟨act2, len2, h⟩)
      have hgO3 := hfO3.lt
      have HO4 := Lib.hid hO4'
      have HW4 := Lib.hid hW4
      have HB4 := Lib.hid (HB3.out.setCell (p := ⟨gO, b, none⟩) hgO3.1 (.int .i64 k))
      have hkb : k ≤ 600 := by omega
      have HXA := Lib.hid hxa
      have HXB := Lib.hid hxb2
      clear hO4 hO4' hW4 hlb hov2 hob hwg hx hgn hxa hxb2 hgO hgO3 HLA HLB HG HO2 HW2 HB2 HOV1 HRT HSUM HST HR3 hmk hz1 hz9 hc1 hfr1 HB1 HL2
      go_upto_region 11 with fail
      generalize (w2.drewN m2).setCell ⟨gO, b, none⟩ (.int .i64 k) = w5 at *
      have ca := HW4.out.cell a ha
      have cb := HW4.out.cell b hb
      rw [← HXA.out] at ca
      rw [← HXB.out] at cb
      have hz5 : w.heap.size ≤ w5.drew.heap.size := HB4.out.size
      have hW5 : FRow w5.drew w.heap.size gW cW k ws := HW4.out
      have hO5 : FRow w5.drew w.heap.size gO cO k ov2 := HO4.out
      have HB5 := Lib.hid HB4.out.drew
      have HO5 := Lib.hid hO5
      obtain ⟨g6, c6, w6, r6, hW6, hg6, hat6⟩ := append_one w5.drew w.heap.size gW cW k ws hW5 x (by omega) hz5
      have hO6 : FRow w6 w.heap.size gO cO k ov2 := (hO5.alloc _).grown hg6 (fun h => hne (by simpa using h.symm))
      have hne6 : g6 ≠ gO := by
        rcases hat6 with h | h
        · rw [h]
          exact hne
        · have := hO5.lt
          omega
      have hb6 : Below w.heap.size w w6 := (HB5.out.alloc hz5 _).grown hg6 (Nat.le_trans hz5 (by simp)) (fun k hk => by
        have : k = gW := by simpa using hk.symm
        rw [this]
        exact hW5.lt.1)
      have hz6 := hb6.size
      obtain ⟨g7, c7, w7, r7, hO7, hg7, hat7⟩ := append_one w6 w.heap.size gO cO k ov2 hO6 0 (by omega) hz6
      have hW7 : FRow w7 w.heap.size g6 c6 (k + 1) (fun j => if j = k then x else ws j) := (hW6.alloc _).grown hg7 (fun h => hne6 (by simpa using h))
      have hne7 : g6 ≠ g7 := by
        rcases hat7 with h | h
        · rw [h]
          exact hne6
        · have := hW6.lt
          omega
      have hb7 : Below w.heap.size w w7 := (hb6.alloc hz6 _).grown hg7 (by simp; omega) (fun k hk => by
        have : k = gO := by simpa using hk.symm
        rw [this]
        exact hO6.lt.1)
      have R6 := Lib.hid r6
      have R7 := Lib.hid r7
      have HHALF : Hid (Half w w7 n W (s + 1) (.slice (some ⟨g6, 0, none⟩) (k + 1) c6) (.slice (some ⟨g7, 0, none⟩) (k + 1) c7)) := Lib.hid (by
        obtain ⟨act2, len2, hg⟩ := HGN.out
        exact ⟨k + 1, g6, c6, g7, c7, _, _, act2, len2, by omega, rfl, rfl, hne7, hW7, hO7, hg, hb7⟩)
      have s6 : (Builtin.append_ #[22, 22] 22 #[.slice (some ⟨gW, 0, none⟩) k cW, .slice (some ⟨w5.heap.size, 0, none⟩) 1 1]).run Tryz.prog (w5.alloc (.cells #[.int .i64 x] 3)).drew = .ok (.slice (some ⟨g6, 0, none⟩) (k + 1) c6) w6 := r6
      have hww : IntKind.i64.wrap (x : Int) = (x : Int) := by rw [IntKind.wrap_i64]; omega
      have hsn' : s + 1 ≤ n := by omega
      clear hW5 hO5 r6 hW6 hg6 hat6 hO6 hne6 hb6 r7 hO7 hg7 hat7 hW7 hne7 hb7 HGN HW4 HO4 HB4 HB5 HO5 HB3 hfW3 hfO3 hc3' hfr3 R6 hks
      go_region_law (refine step_append_run (v' := .slice (some ⟨g6, 0, none⟩) (k + 1) c6) (w' := w6) rfl (.tmp 40) (.tmp 50) 22 rfl (.slice (some ⟨gW, 0, none⟩) k cW) (.slice (some ⟨w5.heap.size, 0, none⟩) 1 1) rfl rfl ?hr ?_; case hr => (dsimp only; with_reducible exact s6))
      go_wp2_with (at_builtin; refine Lib.wpList_append_run _ rfl (.tmp 52) (.tmp 53) 22 22 rfl (.slice (some ⟨gO, 0, none⟩) k cO) (.slice (some ⟨w6.heap.size, 0, none⟩) 1 1) rfl rfl _ w7 R7.out ?_)
      all_goals (
        go_roundw
        case rel => exact ⟨s + 1, by omega, hsn', by go_num, HHALF.out⟩
        case measure => simp [intOf]; omega)
    · obtain rfl : s = n := by omega
      have ds : decide ((s : Int) < (s : Int)) = false := decide_eq_false (by omega)
      clear HSUM HST HR3 hmk
      have hend := grown_end hgr (by omega)
      have hpar := hgr.par
      have hz9 := hb.size
      have hmk2 := make_noughts wr s (by omega)
      have hX := made_noughts wr w.heap.size s hb.size (by omega)
      have hO := hfO.alloc (.cells (madeCells #[.int .i64 0] s) 3)
      have hbX : Below w.heap.size w (wr.alloc (.cells (madeCells #[.int .i64 0] s) 3)) := hb.alloc hb.size _
      have hgne : gO ≠ wr.heap.size := by have := hfO.lt; omega
      have HEND := Lib.hid hend
      have HPAR := Lib.hid hpar
      have HX0 := Lib.hid hX
      have HO0 := Lib.hid hO
      have HBX := Lib.hid hbX
      obtain ⟨gX, hgX⟩ : ∃ gX, gX = wr.heap.size := ⟨_, rfl⟩
      rw [← hgX] at HX0 hmk2 hgne
      have HGX := Lib.hid hgX
      clear hend hpar hX hO hbX hfW hfO hgr hb hz9 hgX
      go_wp2_with fail
      clear hmk2
      have HEN : Hid (∀ i c j, i < s → Up ov i j c → ov j = 0 → c = len i) := Lib.hid fun i c j hi hu h0 => by
        obtain ⟨r, hr, hr0⟩ := HEND.out.2 i hi
        exact hu.ends h0 hr hr0
      have HUP : Hid (∀ i j c, Up ov i j c → i + c ≤ j) := Lib.hid fun i j c hu => up_le (fun j h0 => (HPAR.out j h0).1) hu
      have HP : Hid (∀ w', FRow w' w.heap.size gX s s len → Below w.heap.size w w' → GrownPost w s W (.returned (.slice (some ⟨gX, 0, none⟩) s s)) w') := Lib.hid fun w' h2 h3 => ⟨gX, s, len, HEND.out.1, rfl, h2, h3⟩
      have hks' : k ≤ 600 := by omega
      have hsk : s ≤ k := by omega
      generalize GrownPost w s W = PO at *
      clear HEND hks
      go_loopw [10, 11] (fun x z wx => ∃ i : Nat, i ≤ s ∧ x = .int .i64 i ∧ FRow wx w.heap.size gX s s (fun j => if j < i then len j else 0) ∧ FRow wx w.heap.size gO cO k ov ∧ Below w.heap.size w wx) (fun x _ _ => s - (intOf x).toNat)
      case atStart =>
        refine ⟨0, Nat.zero_le _, rfl, ?_, HO0.out, HBX.out⟩
        have e0 : (fun j => if j < 0 then len j else 0) = fun _ => 0 := by
          funext j
          rw [if_neg (by omega)]
        rw [e0]
        exact HX0.out
      case round =>
        clear HX0 HO0 HBX
        rename World => w2
        obtain ⟨i, hi, rfl, hfX, hfO, hb⟩ := hrel
        have HFX := Lib.hid hfX
        have HFO := Lib.hid hfO
        have HB := Lib.hid hb
        by_cases e : i < s
        · have di : decide ((i : Int) < (s : Int)) = true := decide_eq_true (by omega)
          have ci := hfO.cell i (by omega)
          have hik : (i : Int) < (k : Int) := by omega
          have hiI : (0 : Int) ≤ (i : Int) := by omega
          obtain ⟨y0, hy0⟩ : ∃ y0, y0 = ov i := ⟨_, rfl⟩
          rw [← hy0] at ci
          have HY0 := Lib.hid hy0
          clear hfX hfO hb hy0
          go_wp2_with fail
          go_loopw [11] (fun z wx => ∃ c j y : Nat, j < k ∧ Hid (Up ov i j c) ∧ Hid (y = ov j) ∧ z = .int .i64 y ∧ FRow wx w.heap.size gX s s (fun j => if j = i then c else if j < i then len j else 0) ∧ FRow wx w.heap.size gO cO k ov ∧ Below w.heap.size w wx) (fun z _ => if intOf z = 0 then 0 else k + 1 - (intOf z).toNat)
          case atStart =>
            refine ⟨0, i, y0, by omega, .here i, HY0.out, rfl, ?_, HFO.out, HB.out⟩
            have e0 : (fun j => if j = i then 0 else if j < i then len j else 0) = fun j => if j < i then len j else 0 := by
              funext j
              by_cases ej : j = i
              · rw [if_pos ej, if_neg (by omega)]
              · rw [if_neg ej]
            rw [e0]
            exact HFX.out
          case round =>
            rename World => w6
            obtain ⟨c, j, y, hjk, hu, hy, rfl, hfX, hfO, hb⟩ := hrel
            have HFX2 := Lib.hid hfX
            have HFO2 := Lib.hid hfO
            have HB2 := Lib.hid hb
            by_cases e3 : y = 0
            · subst e3
              have hc := HEN.out i c j e hu.out hy.out.symm
              have hfn : (fun j => if j = i then c else if j < i then len j else 0) = fun j => if j < i + 1 then len j else 0 := by
                funext j'
                by_cases ej : j' = i
                · rw [if_pos ej, if_pos (by omega), ej, hc]
                · rw [if_neg ej]
                  by_cases ej2 : j' < i
                  · rw [if_pos ej2, if_pos (by omega)]
                  · rw [if_neg ej2, if_neg (by omega)]
              rw [hfn] at HFX2
              clear hfX hfO hb hu hy hc hfn
              go_wp2_with fail
              go_roundw
              case rel => exact ⟨i + 1, by omega, by go_num, HFX2.out, HFO2.out, HB2.out⟩
              case measure => simp [intOf]; omega
            · have dy : ((y : Int) == 0) = false := by
                rw [beq_eq_false_iff_ne]
                omega
              have hpy := HPAR.out j (by rw [← hy.out]; exact e3)
              rw [← hy.out] at hpy
              have hyk : y < k := hpy.2
              have hcl := HUP.out i j c hu.out
              have cx := hfX.cell i e
              have fx := hfX.frozen i
              rw [if_pos rfl] at cx
              have hgX := hfX.lt
              have hu2 : Up ov i y (c + 1) := hu.out.of_eq hy.out.symm e3
              have HU2 := Lib.hid hu2
              have hfX2 := hfX.set i (c + 1)
              have hfn : (fun j' => if j' = i then c + 1 else if j' = i then c else if j' < i then len j' else 0) = fun j' => if j' = i then c + 1 else if j' < i then len j' else 0 := by
                funext j'
                by_cases ej : j' = i
                · rw [if_pos ej, if_pos ej]
                · rw [if_neg ej, if_neg ej, if_neg ej]
              rw [hfn] at hfX2
              have hfO2 := hfO.other (g2 := gX) (fun h => hgne h.symm) i (.int .i64 ((c + 1 : Nat) : Int))
              have cy := hfO2.cell y hyk
              obtain ⟨y2, hy2⟩ : ∃ y2, y2 = ov y := ⟨_, rfl⟩
              rw [← hy2] at cy
              have HY2 := Lib.hid hy2
              have hy2k : y2 = 0 ∨ (y < y2 ∧ y2 < k) := by
                by_cases e4 : y2 = 0
                · exact .inl e4
                · right
                  have := HPAR.out y (by rw [← hy2]; exact e4)
                  rw [← hy2] at this
                  exact this
              have hsI : (i : Int) < (s : Int) := by omega
              have hyI : (0 : Int) ≤ (y : Int) := by omega
              have hyJ : (y : Int) < (k : Int) := by omega
              have hc600 : c ≤ 600 := by omega
              have HFX3 := Lib.hid hfX2
              have HFO3 := Lib.hid hfO2
              have HB3 := Lib.hid (HB2.out.setCell (p := ⟨gX, i, none⟩) hgX.1 (.int .i64 ((c + 1 : Nat) : Int)))
              clear hfX hfO hb hu hy hpy hfX2 hfO2 hfn hu2 hy2 hgX hcl
              obtain ⟨c1, hc1⟩ : ∃ c1, c1 = c + 1 := ⟨_, rfl⟩
              rw [← hc1] at HFX3 HFO3 HB3 HU2 cy
              have hcz : (c : Int) + 1 = (c1 : Int) := by omega
              clear hc1
              go_wp2_with fail
              go_roundw
              case rel => exact ⟨c1, y, y2, hyk, HU2, HY2, rfl, HFX3.out, HFO3.out, HB3.out⟩
              case measure =>
                show (if ((y2 : Nat) : Int) = 0 then 0 else k + 1 - ((y2 : Nat) : Int).toNat) < (if ((y : Nat) : Int) = 0 then 0 else k + 1 - ((y : Nat) : Int).toNat)
                rw [Int.toNat_natCast, Int.toNat_natCast]
                split <;> split <;> omega
        · obtain rfl : i = s := by omega
          have di : decide ((i : Int) < (i : Int)) = false := decide_eq_false (by omega)
          have hfn : rowF i (fun j => if j < i then len j else 0) = rowF i len := rowF_same i _ _ fun j hj => if_pos hj
          have hfX2 : FRow w2 w.heap.size gX i i len := by
            have h3 : w2.ownsRow w.heap.size 3 1 (.slice (some ⟨gX, 0, none⟩) i i) i (rowF i fun j => if j < i then len j else 0) := hfX
            rw [hfn] at h3
            exact h3
          have HPE := Lib.hid (HP.out w2 hfX2 hb)
          clear hfX hfO hb hfn hfX2 HFX HFO HB HP HEN HUP HPAR
          go_wp2_with fail
          exact HPE.out

end Go.Proofs.YtmgmgmbpldboiaaGreat
