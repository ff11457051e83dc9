/- Grj An: texts laid together, what is not used left out. -/
import Derived.Test.YtmgmgmbpldboiaaGreatZ42
import Derived.Test.YtmgmgmbpldboiaaGreatZ49
import Derived.Test.YtmgmgmbpldboiaaGreatZ17
import Derived.Test.YtmgmgmbpldboiaaGreatZ45
import Derived.Test.YtmgmgmbpldboiaaGreatZ25
import Derived.Test.YtmgmgmbpldboiaaGreatZ48
import Derived.Test.YtmgmgmbpldboiaaGreatZ06
import Derived.Shelf.Small.Bits
import Derived.Lib.ItoaNum
namespace Go.Proofs.YtmgmgmbpldboiaaGreat
open Go.RowKit

set_option maxHeartbeats 3200000 in
set_option maxRecDepth 100000 in
theorem cchoose_out (w : World) (A : Option Addr) (n c : Nat) (L : List Int) (m : Int) (hL : ZIn w A n L) (hn : n ≤ maxLen) (h : ¬ MayG L m) :
    Calls Tryz.prog 10 #[.slice A n c, .int .i64 m] w (PlanPost w (chooseAns L m)) := by
  have hans : chooseAns L m = ([], [], 2) := if_neg h
  rw [hans]
  have HM := Lib.hid fun (w1 : World) (hb : ZIn w1 A n L) => clist_any w1 A n c L m hb hn
  rw [show decide (MayG L m) = false from decide_eq_false h] at HM
  have hb0 : Below w.heap.size w (w.alloc (.cells #[.slice none 0 0, .slice none 0 0] 26)) := (Below.refl _ _).alloc (Nat.le_refl _) _
  have HL := Lib.hid (hL.below hb0)
  have hk0 := blk_new w 26 #[.slice none 0 0, .slice none 0 0]
  have HK0 := Lib.hid hk0
  have HB0 := Lib.hid hb0
  clear hL h hans hk0 hb0
  go_enter Tryz.func10, Tryz.ntmps10
  go_wp2_with fail
  refine (HM.out _ HL.out).mono ?_
  rintro e w' ⟨rfl, rfl⟩
  have q0 := (blk_cell HK0.out 0).trans rfl
  have q1 := (blk_cell HK0.out 1).trans rfl
  have f0 := blk_frozen HK0.out 0
  have f1 := blk_frozen HK0.out 1
  generalize w.alloc (.cells #[.slice none 0 0, .slice none 0 0] 26) = w1 at *
  go_wp2_with fail
  refine bodyPost_ret (v := .tuple #[.agg #[.slice none 0 0, .slice none 0 0], .int .i64 2]) ?_ rfl ⟨_, rfl, plan_none _, (HB0.out.setCell (p := ⟨w.heap.size, 0, none⟩) (Nat.le_refl _) _).setCell (p := ⟨w.heap.size, 1, none⟩) (Nat.le_refl _) _⟩
  simp [results, Tryz.results10, go_sem, q0, q1]

theorem TabW.apart {w w' : World} {B B' g n pb : Nat} {C : Nat → List Nat} {cs : Array Value} (h : TabW w B g n C) (hk : Blk w pb 26 cs) (hs : Step B' [pb] [] w w') : TabW w' B g n C := by
  obtain ⟨F, h1, h2⟩ := h
  refine ⟨F, hs.row h1 (fun k hk2 => ?_) List.not_mem_nil, fun j hj => ?_⟩
  · rw [List.mem_singleton]
    exact row_ne h1 hk (by decide) k hk2
  · obtain ⟨A, k, x, y, z⟩ := h2 j hj
    refine ⟨A, k, x, y, hs.row z (fun k2 hk2 => ?_) List.not_mem_nil⟩
    rw [List.mem_singleton]
    exact row_ne z hk (by decide) k2 hk2
theorem FRow.apart {w w' : World} {B B' g c n pb : Nat} {f : Nat → Nat} {cs : Array Value} (h : FRow w B g c n f) (hk : Blk w pb 26 cs) (hs : Step B' [pb] [] w w') : FRow w' B g c n f := by
  refine hs.row h (fun k hk2 => ?_) List.not_mem_nil
  rw [List.mem_singleton]
  exact row_ne h hk (by decide) k hk2
theorem TabW.steps {w w' : World} {B B' g n : Nat} {C : Nat → List Nat} (h : TabW w B g n C) (hs : Step B' [] [] w w') : TabW w' B g n C := by
  obtain ⟨F, h1, h2⟩ := h
  refine ⟨F, hs.row h1 (fun _ _ => List.not_mem_nil) List.not_mem_nil, fun j hj => ?_⟩
  obtain ⟨A, k, x, y, z⟩ := h2 j hj
  exact ⟨A, k, x, y, hs.row z (fun _ _ => List.not_mem_nil) List.not_mem_nil⟩

/-- What the loop of rounds keeps: the plan's tables and picks behind r rounds. -/
structure Rounds (w wx : World) (rb pb T G : Nat) (l : List Nat) (m r : Nat) (gT : Nat) (vP : Value) (C : Nat → List Nat) : Prop where
  box : Blk wx pb 26 #[.slice (some ⟨gT, 0, none⟩) T T, vP]
  res : Blk wx rb 26 #[.slice none 0 0, .slice none 0 0]
  tab : TabW wx w.heap.size gT T C
  pick : r = 0 ∧ vP = .slice none 0 0 ∨ ∃ gP P, vP = .slice (some ⟨gP, 0, none⟩) G G ∧ FRow wx w.heap.size gP G G P ∧ (List.range G).map P = (roundsG l m T r).2
  tabs : (List.range T).map C = (roundsG l m T r).1
  size : ∀ j, j < T → (C j).length = m ∧ ∀ x ∈ C j, x ≤ 1000
  below : Below w.heap.size w wx

theorem makeG_small (w : World) (W : List Nat) (h2 : 2 ≤ W.length) (hn : W.length ≤ 258) (hx : ∀ x ∈ W, x ≤ 1073741824) : (makeG W).length = W.length ∧ ∀ x ∈ makeG W, x ≤ 1000 := by
  have h := make_full w W h2 hn hx
  refine ⟨h.1, fun x hx => ?_⟩
  have h3 := h.2.1.2.2.1 (x : Int) (by unfold zL; exact List.mem_map.2 ⟨x, hx, rfl⟩)
  omega

set_option maxHeartbeats 6400000 in
set_option maxRecDepth 100000 in
theorem cchoose_any (w : World) (A : Option Addr) (n c : Nat) (L : List Int) (m : Nat) (hL : ZIn w A n L) (hnc : n ≤ c) (hM : MayG L m) :
    Calls Tryz.prog 10 #[.slice A n c, .int .i64 m] w (PlanPost w (chooseAns L m)) := by
  have hln := hL.1
  have h1n : 1 ≤ n := by have := hM.2.2.1; omega
  have hn : n ≤ 1638350 := by have := hM.2.2.2.1; omega
  have hm3 : 3 ≤ m := by have := hM.1; omega
  have hm258 : m ≤ 258 := by have := hM.2.1; omega
  obtain ⟨l, hl⟩ : ∃ l, l = natL L := ⟨_, rfl⟩
  have hll : l.length = n := by rw [hl]; unfold natL; rw [List.length_map, hln]
  have hlm : ∀ x ∈ l, x < m := by
    intro x hx
    rw [hl] at hx
    obtain ⟨y, hy, rfl⟩ := List.mem_map.1 hx
    have := hM.2.2.2.2 y hy
    omega
  have hin : IntsIn w A n l := by rw [hl]; exact ints_of_zin hL fun x hx => (hM.2.2.2.2 x hx).1
  obtain ⟨T, hT⟩ : ∃ T, T = tablesN n := ⟨_, rfl⟩
  have hT6 : 2 ≤ T ∧ T ≤ 6 := by rw [hT]; exact tablesN_six _
  have htab : tablesAns n = (T, 0) := by
    unfold tablesAns
    rw [if_neg (by omega), hT]
  have hans : chooseAns L m = ((roundsG l m T 4).1.map zL, zL (roundsG l m T 4).2, 0) := by
    unfold chooseAns
    rw [if_pos hM, ← hl, Int.toNat_natCast, hln, ← hT]
  obtain ⟨R, hR⟩ : ∃ R, R = roundsG l m T 4 := ⟨_, rfl⟩
  rw [← hR] at hans
  rw [hans]
  obtain ⟨G, hG⟩ : ∃ G, G = groupsN n := ⟨_, rfl⟩
  have hGn : G ≤ 40000 ∧ n ≤ 50 * G ∧ 50 * G < n + 50 := by rw [hG]; unfold groupsN; omega
  have HML := Lib.hid fun (w1 : World) (hb : ZIn w1 A n L) => clist_any w1 A n c L m hb (by unfold maxLen; omega)
  rw [show decide (MayG L m) = true from decide_eq_true hM] at HML
  have HTB := Lib.hid fun (w1 : World) => ctables_any w1 (n : Int)
  rw [htab] at HTB
  have hb0 : Below w.heap.size w (w.alloc (.cells #[.slice none 0 0, .slice none 0 0] 26)) := (Below.refl _ _).alloc (Nat.le_refl _) _
  have hr0 : Blk (w.alloc (.cells #[.slice none 0 0, .slice none 0 0] 26)) w.heap.size 26 #[.slice none 0 0, .slice none 0 0] := blk_new w _ _
  have HL := Lib.hid (hL.below hb0)
  have HIN := Lib.hid fun (w1 : World) (hb : Below w.heap.size w w1) => ints_low hin hb
  have HLL := Lib.hid hll
  have HLMM := Lib.hid hlm
  have HG := Lib.hid hG
  have HPO : Hid (∀ (gT gP : Nat) (C : Nat → List Nat) (P : Nat → Nat) (w' w'' : World), TabW w' w.heap.size gT T C → (List.range T).map C = (roundsG l m T 4).1 → (∀ t, t < T → (C t).length = m) → FRow w' w.heap.size gP G G P → (List.range G).map P = (roundsG l m T 4).2 → Below w.heap.size w w' →
      PlanPost w (R.1.map zL, zL R.2, 0) (.returned (.tuple #[.agg #[.slice (some ⟨gT, 0, none⟩) T T, .slice (some ⟨gP, 0, none⟩) G G], .int .i64 0])) w') := Lib.hid fun gT gP C P w' _ h1 h2 h3 h4 h5 h6 => by
    rw [hR, ← h2, ← h5]
    refine ⟨_, rfl, ⟨_, T, T, _, G, G, rfl, ⟨by simp, fun _ => ⟨gT, 0, rfl, fun i hi => ?_⟩⟩, Nat.le_refl _, by unfold maxLen; omega, zin_of h4.ints, Nat.le_refl _, by unfold maxLen; omega⟩, h6⟩
    have e : (((List.range T).map C).map zL).getD i [] = zL (C i) := by
      rw [List.getD_eq_getElem?_getD, List.getElem?_map, List.getElem?_map, List.getElem?_range hi]
      rfl
    obtain ⟨A2, k2, a, b, d⟩ := h1.read i hi
    have e2 : (zL (C i)).length = (C i).length := by unfold zL; simp
    rw [e, e2]
    refine ⟨A2, k2, by rw [Nat.zero_add]; exact a, ?_, d, by have := h3 i hi; unfold maxLen; omega⟩
    exact zin_of b
  generalize PlanPost w (R.1.map zL, zL R.2, 0) = PO at *
  have HK0 := Lib.hid hr0
  have HB0 := Lib.hid hb0
  clear hR hL hin hM hln hl hll hlm hT htab hans hG hr0 hb0
  go_enter Tryz.func10, Tryz.ntmps10
  go_wp2_with fail
  refine (HML.out _ HL.out).mono ?_
  rintro e w1 ⟨rfl, rfl⟩
  generalize w.alloc (.cells #[.slice none 0 0, .slice none 0 0] 26) = w1 at *
  have hz1 : w.heap.size < w1.heap.size := blk_lt HK0.out
  clear HL HML
  go_wp2_with fail
  refine (HTB.out _).mono ?_
  rintro e w2 ⟨rfl, rfl⟩
  clear HTB
  have HF := Lib.hid (cfirst_any w2 T m (by omega) hT6.2 hm3 hm258)
  go_wp2_with fail
  refine HF.out.mono ?_
  rintro e w3 ⟨rfl, htw, hb3⟩
  obtain ⟨v9, hv9⟩ : ∃ v9, v9 = w3.alloc (.cells #[.slice (some ⟨w2.heap.size, 0, none⟩) T T, .slice none 0 0] 26) := ⟨_, rfl⟩
  have hb4 : Below w3.heap.size w3 v9 := by rw [hv9]; exact (Below.refl _ _).alloc (Nat.le_refl _) _
  have hbox : Blk v9 w3.heap.size 26 #[.slice (some ⟨w2.heap.size, 0, none⟩) T T, .slice none 0 0] := by rw [hv9]; exact blk_new w3 _ _
  have HST := Lib.hid (show Rounds w v9 w.heap.size w3.heap.size T G l m 0 w2.heap.size (.slice none 0 0) (fun t => (List.range m).map (startR m T t)) from
    ⟨hbox, (step_of_below hb4).blk ((step_of_below hb3).blk HK0.out List.not_mem_nil List.not_mem_nil) List.not_mem_nil List.not_mem_nil, (htw.mono (Nat.le_of_lt hz1)).steps (step_of_below hb4), .inl ⟨rfl, rfl⟩, rfl, fun j _ => ⟨by simp, fun x hx => by
      obtain ⟨s, _, rfl⟩ := List.mem_map.1 hx
      unfold startR
      split <;> omega⟩, (HB0.out.trans (hb3.mono HB0.out.size)).trans (hb4.mono (Nat.le_trans HB0.out.size hb3.size))⟩)
  have hz3 : w.heap.size < w3.heap.size := Nat.lt_of_lt_of_le hz1 hb3.size
  have HV9H := Lib.hid hv9.symm
  clear htw hb3 hb4 hbox HF HK0 HB0 hv9
  go_upto_region 5 with fail
  rw [HV9H.out]
  clear HV9H
  generalize w3.heap.size = pb at *
  generalize w2.heap.size = gT0 at *
  go_wp2_with fail
  go_loopw [24] (fun rv wx => ∃ (r gT : Nat) (vP : Value) (C : Nat → List Nat), r ≤ 4 ∧ rv = .int .i64 r ∧ Rounds w wx w.heap.size pb T G l m r gT vP C) (fun rv _ => 4 - (intOf rv).toNat)
  case atStart => exact ⟨0, _, _, _, Nat.zero_le _, rfl, HST.out⟩
  case round =>
    clear HST
    rename World => w5
    obtain ⟨r, gT, vP, C, hr, rfl, hR⟩ := hrel
    have hp0 : w5.cell? ⟨pb, 0, none⟩ = some (.slice (some ⟨gT, 0, none⟩) T T) := (blk_cell hR.box 0).trans rfl
    have hp1 : w5.cell? ⟨pb, 1, none⟩ = some vP := (blk_cell hR.box 1).trans rfl
    by_cases e3 : r < 4
    · have dr : decide ((r : Int) < 4) = true := decide_eq_true (by omega)
      have HPA := Lib.hid (cpickall_any w5 A n c l (HIN.out w5 hR.below) hnc (by omega) gT T m C hR.tab.read (by omega) hT6.2 hm258 hR.size HLMM.out G HG.out)
      have HR := Lib.hid hR
      clear hR hp1
      go_wp2_with fail
      refine HPA.out.mono ?_
      rintro e w6 ⟨rfl, hf6, hb6⟩
      have hst6 := step_of_below hb6
      have hbox6 := hst6.blk HR.out.box List.not_mem_nil List.not_mem_nil
      have hp1 : w6.cell? ⟨pb, 1, none⟩ = some vP := (blk_cell hbox6 1).trans rfl
      have hf1 := blk_frozen hbox6 1
      obtain ⟨w7, hw7⟩ : ∃ w7, w7 = w6.setCell ⟨pb, 1, none⟩ (.slice (some ⟨w5.heap.size, 0, none⟩) G G) := ⟨_, rfl⟩
      have hst7 : Step w.heap.size [pb] [] w6 w7 := by
        rw [hw7]
        exact (Step.refl w.heap.size [pb] [] w6).set (p := ⟨pb, 1, none⟩) (Nat.le_of_lt hz3) (List.mem_singleton.2 rfl) _
      have hz56 : w5.heap.size ≤ w6.heap.size := hb6.size
      have hb67 : Below w.heap.size w6 w7 := hst7.below
      have hbw6 : Below w.heap.size w w6 := HR.out.below.trans (hb6.mono HR.out.below.size)
      have hbw7 := hbw6.trans hb67
      have hbox7 : Blk w7 pb 26 #[.slice (some ⟨gT, 0, none⟩) T T, .slice (some ⟨w5.heap.size, 0, none⟩) G G] := by rw [hw7]; exact blk_set hbox6 1 _
      have hres7 : Blk w7 w.heap.size 26 #[.slice none 0 0, .slice none 0 0] := hst7.blk (hst6.blk HR.out.res List.not_mem_nil List.not_mem_nil) (by simp; omega) List.not_mem_nil
      have hf7 : FRow w7 w.heap.size w5.heap.size G G (fun k => pickG ((List.range T).map C) (partG l k)) := FRow.apart (World.ownsRow.mono hf6 HR.out.below.size) hbox6 hst7
      have HPL : Hid ((List.range G).map (fun k => pickG ((List.range T).map C) (partG l k)) = picksG l (roundsG l m T r).1) := Lib.hid (by
        rw [HR.out.tabs]
        unfold picksG
        rw [HLL.out, ← HG.out])
      have hpt : ∀ x ∈ (List.range G).map (fun k => pickG ((List.range T).map C) (partG l k)), x < T := by
        intro x hx
        obtain ⟨k, _, rfl⟩ := List.mem_map.1 hx
        have := (pickG_is ((List.range T).map C) (partG l k) (by simp; omega)).1
        simpa using this
      have HFA := Lib.hid (cfitall_any w7 A n c l (HIN.out w7 hbw7) hnc (by omega) h1n (some ⟨w5.heap.size, 0, none⟩) G G _ hf7.ints HG.out T m (by omega) hT6.2 hm3 hm258 HLMM.out hpt)
      have hq1 : w7.cell? ⟨pb, 1, none⟩ = some (.slice (some ⟨w5.heap.size, 0, none⟩) G G) := (blk_cell hbox7 1).trans rfl
      have HBOX7 := Lib.hid hbox7
      have HRES7 := Lib.hid hres7
      have HF7 := Lib.hid hf7
      have HBW7 := Lib.hid hbw7
      have HW7H := Lib.hid hw7.symm
      obtain ⟨pl, hpl⟩ : ∃ pl, pl = (List.range G).map (fun k => pickG ((List.range T).map C) (partG l k)) := ⟨_, rfl⟩
      have HPLE := Lib.hid hpl
      rw [← hpl] at HPL HFA
      clear hf6 hb6 hst6 hbox6 hst7 hb67 hbw6 hbw7 hbox7 hres7 hf7 hpt HPA hw7 hpl
      go_upto_region 8 with fail
      rw [HW7H.out]
      clear HW7H hp0 hp1 hf1
      go_wp2_with fail
      refine HFA.out.mono ?_
      rintro e w8 ⟨g2, rfl, ht8, hb8⟩
      have hst8 := step_of_below hb8
      have hbox8 := hst8.blk HBOX7.out List.not_mem_nil List.not_mem_nil
      have hc0 : w8.cell? ⟨pb, 0, none⟩ = some (.slice (some ⟨gT, 0, none⟩) T T) := (blk_cell hbox8 0).trans rfl
      have hf0 := blk_frozen hbox8 0
      obtain ⟨w9, hw9⟩ : ∃ w9, w9 = w8.setCell ⟨pb, 0, none⟩ (.slice (some ⟨g2, 0, none⟩) T T) := ⟨_, rfl⟩
      have hst9 : Step w.heap.size [pb] [] w8 w9 := by
        rw [hw9]
        exact (Step.refl w.heap.size [pb] [] w8).set (p := ⟨pb, 0, none⟩) (Nat.le_of_lt hz3) (List.mem_singleton.2 rfl) _
      have hbox9 : Blk w9 pb 26 #[.slice (some ⟨g2, 0, none⟩) T T, .slice (some ⟨w5.heap.size, 0, none⟩) G G] := by rw [hw9]; exact blk_set hbox8 0 _
      have HNEXT : Hid (Rounds w w9 w.heap.size pb T G l m (r + 1) g2 (.slice (some ⟨w5.heap.size, 0, none⟩) G G) (fun t => makeG (countsG l pl t m))) := Lib.hid
        ⟨hbox9, hst9.blk (hst8.blk HRES7.out List.not_mem_nil List.not_mem_nil) (by simp; omega) List.not_mem_nil, (ht8.mono HBW7.out.size).apart hbox8 hst9,
          .inr ⟨_, _, rfl, FRow.apart (hst8.row HF7.out (fun _ _ => List.not_mem_nil) List.not_mem_nil) hbox8 hst9, by rw [roundsG, ← HPLE.out]; exact HPL.out⟩,
          by rw [roundsG, ← HPL.out]; rfl, fun j _ => by
            have h9 := makeG_small w (countsG l pl j m) (by unfold countsG; simp; omega) (by unfold countsG; simp; omega) (fun x hx => by
              unfold countsG at hx
              obtain ⟨s, _, rfl⟩ := List.mem_map.1 hx
              have := countQ_le l pl j s l.length
              unfold countF
              have := HLL.out
              omega)
            refine ⟨h9.1.trans (by unfold countsG; simp), h9.2⟩, (HBW7.out.trans (hb8.mono HBW7.out.size)).trans hst9.below⟩
      have HW9H := Lib.hid hw9.symm
      clear ht8 hb8 hst8 hbox8 hst9 hbox9 hw9 HBOX7 HRES7 HF7 HBW7 HPL HPLE HFA HR
      go_upto_region 9 with fail
      rw [HW9H.out]
      clear HW9H hc0 hf0 hq1
      go_wp2_with fail
      go_roundw
      case rel => exact ⟨r + 1, _, _, _, by omega, by go_num, HNEXT.out⟩
      case measure => simp [intOf]; omega
    · obtain rfl : r = 4 := by omega
      have dr : decide (((4 : Nat) : Int) < 4) = false := by decide
      obtain ⟨gP, P, rfl, hfP, hPe⟩ := hR.pick.resolve_left (fun h => absurd h.1 (by omega))
      have hres := hR.res
      have c0 : w5.cell? ⟨w.heap.size, 0, none⟩ = some (.slice none 0 0) := (blk_cell hres 0).trans rfl
      have c1 : w5.cell? ⟨w.heap.size, 1, none⟩ = some (.slice none 0 0) := (blk_cell hres 1).trans rfl
      have f0 := blk_frozen hres 0
      have f1 := blk_frozen hres 1
      have hst : Step w.heap.size [w.heap.size] [] w5 ((w5.setCell ⟨w.heap.size, 0, none⟩ (.slice (some ⟨gT, 0, none⟩) T T)).setCell ⟨w.heap.size, 1, none⟩ (.slice (some ⟨gP, 0, none⟩) G G)) :=
        ((Step.refl w.heap.size [w.heap.size] [] w5).set (p := ⟨w.heap.size, 0, none⟩) (Nat.le_refl _) (List.mem_singleton.2 rfl) _).set (p := ⟨w.heap.size, 1, none⟩) (Nat.le_refl _) (List.mem_singleton.2 rfl) _
      have HEND := Lib.hid (HPO.out gT gP C P _ w (hR.tab.apart hres hst) hR.tabs (fun t ht => (hR.size t ht).1) (FRow.apart hfP hres hst) hPe (hR.below.trans hst.below))
      clear hR hfP hPe hres hst HPO
      go_wp2_with fail
      refine bodyPost_ret (v := .tuple #[.agg #[.slice (some ⟨gT, 0, none⟩) T T, .slice (some ⟨gP, 0, none⟩) G G], .int .i64 0]) ?_ rfl HEND.out
      simp [results, Tryz.results10, go_sem, c0, c1]

end Go.Proofs.YtmgmgmbpldboiaaGreat
namespace Go.Proofs.YtmgmgmbpldboiaaGreat
open Go.RowKit

theorem TRow.low {w w' : World} {C g : Nat} {T : List (Nat × Nat)} (h : TRow w g T) (hb : Below C w w') (hg : g < C) : TRow w' g T := by
  obtain ⟨cs, h1, h2⟩ := h
  exact ⟨cs, (hb.block g hg).trans h1, h2⟩
set_option maxRecDepth 100000 in
theorem front_ne (W : List Nat) (i j : Nat) (hi : i < W.length) (hj : j < W.length) (h : i ≠ j) : front W i ≠ front W j := by
  rcases Nat.lt_trichotomy (W.getD i 0) (W.getD j 0) with h1 | h1 | h1
  · have := front_lt W hj (.inl h1)
    omega
  · rcases Nat.lt_or_ge i j with h2 | h2
    · have := front_lt W hi (.inr ⟨h1, h2⟩)
      omega
    · have := front_lt W hj (.inr ⟨h1.symm, by omega⟩)
      omega
  · have := front_lt W hi (.inl h1)
    omega

set_option maxHeartbeats 3200000 in
set_option maxRecDepth 100000 in
theorem cflat_any (w : World) (A : Option Addr) (n c : Nat) (L : List Int) (hL : ZIn w A n L) (hM : MayW L) : Calls Tryz.prog 44 #[.slice A n c] w (FlatPost w L) := by
  have hln := hL.1
  have h2n : 2 ≤ n := by have := hM.1; omega
  have hn : n ≤ 258 := by have := hM.2.1; omega
  have HM := Lib.hid (mayBe_any w A n c L hL (by unfold maxLen; omega))
  rw [show decide (MayW L) = true from decide_eq_true hM] at HM
  have HC := Lib.hid (counted_any w A n c L hL (fun x hx => (hM.2.2 x hx).1) (by omega) (by omega))
  obtain ⟨f, hf⟩ : ∃ f, f = oneF L := ⟨_, rfl⟩
  rw [← hf] at HC
  have hW0 : oneL L = (List.range n).map f := by
    unfold oneL
    rw [hln, hf]
  have hP : Hid (∀ (v : Value) (k : Nat) w', 2 ^ k ≤ n → n < 2 ^ (k + 1) → w'.ownsRow w.heap.size 3 1 v n (rowF n (flatLen k (2 ^ (k + 1) - n) (oneL L))) → Below w.heap.size w w' → FlatPost w L (.returned (.tuple #[v, .int .i64 0])) w') := Lib.hid fun v k w' h1 h2 h3 h4 =>
    .inr ⟨hM, v, k, by rw [hln]; exact h1, by rw [hln]; exact h2, rfl, by rw [hln]; exact h3, h4⟩
  generalize FlatPost w L = PO at *
  generalize oneL L = W at *
  have HA := Lib.hid fun (w1 : World) (B g c1 : Nat) (h : FRow w1 B g c1 n f) => alone_any w1 (some ⟨g, 0, none⟩) n c1 f h.ints (by omega) (by omega)
  obtain ⟨k, hk⟩ : ∃ k, k = Lib.bitLen n - 1 := ⟨_, rfl⟩
  have hbl := Lib.bitLenAux_bounds 64 n (by omega) (by omega)
  have hbl1 : 1 ≤ Lib.bitLen n := hbl.1
  have hk1 : 2 ^ k ≤ n := by rw [hk]; exact hbl.2.1
  have hk2 : n < 2 ^ (k + 1) := by rw [hk, Nat.sub_add_cancel hbl1]; exact hbl.2.2
  obtain ⟨P, hP2⟩ : ∃ P : Nat, P = 2 ^ (k + 1) := ⟨_, rfl⟩
  have hPz : (2 : Int) * (2 : Int) ^ k = (P : Int) := by rw [hP2, Nat.pow_succ]; push_cast; omega
  have hk9 : k ≤ 8 := by
    rcases Nat.lt_or_ge k 9 with h | h
    · omega
    · have := Nat.pow_le_pow_right (show 0 < 2 by decide) h
      omega
  have hPb : P ≤ 512 := by
    rw [hP2]
    have : 2 ^ (k + 1) ≤ 2 ^ 9 := Nat.pow_le_pow_right (by decide) (by omega)
    exact this
  obtain ⟨C, hC⟩ : ∃ C, C = P - n := ⟨_, rfl⟩
  have hCz : (P : Int) - (n : Int) = (C : Int) := by omega
  have HLN := Lib.hid fun w1 : World => Any.bits_Len Tryz.laysBits (n : Int) w1 (by omega) (by omega)
  rw [Int.toNat_natCast] at HLN
  obtain ⟨b, hb⟩ : ∃ b, b = Lib.bitLen n := ⟨_, rfl⟩
  rw [← hb] at HLN hk hbl1
  have hkz : (b : Int) - 1 = (k : Int) := by omega
  have HK := Lib.hid (show 2 ^ k ≤ n ∧ n < 2 ^ (k + 1) ∧ C = 2 ^ (k + 1) - n from ⟨hk1, hk2, by omega⟩)
  have HW := Lib.hid hW0
  clear hL hln hM hf hW0 hk hbl hbl1 hk1 hk2 hP2 hC hb
  go_enter Tryz.func44, Tryz.ntmps44
  go_wp2_with fail
  refine HM.out.mono ?_
  rintro e w ⟨rfl, rfl⟩
  clear HM
  go_wp2_with fail
  refine HC.out.mono ?_
  rintro e w1 ⟨gA, cA, rfl, hfA, hb1⟩
  have HA1 := Lib.hid (HA.out w1 w.heap.size gA cA hfA)
  have HB1 := Lib.hid hb1
  clear hfA hb1 HC HA
  go_wp2_with fail
  refine HA1.out.mono ?_
  rintro e w2 ⟨rfl, ht2, hb2⟩
  obtain ⟨T, hT⟩ : ∃ T, T = (List.range n).map fun i => (f i, i) := ⟨_, rfl⟩
  rw [← hT] at ht2
  have hTl : T.length = n := by rw [hT]; simp
  have hTn : (T.map Prod.snd).Nodup := by
    rw [hT, List.map_map]
    have : (Prod.snd ∘ fun i => (f i, i)) = id := rfl
    rw [this, List.map_id]
    exact List.nodup_range
  have HT := Lib.hid hT
  have zg : w.heap.size ≤ w1.heap.size := HB1.out.size
  have hsrt := sort_falling w2 w.heap.size w1.heap.size n T ht2.row zg (by omega) hTn
  rw [hTl] at hsrt
  have HSRT := Lib.hid hsrt
  have HB2 := Lib.hid (HB1.out.trans (hb2.mono zg))
  clear ht2 hb2 hT hTl hTn hsrt HA1 HB1
  go_wp2_with fail
  refine HSRT.out.mono ?_
  rintro e w3 ⟨rfl, LS, hperm, hsort, hrow, hst⟩
  have HPERM := Lib.hid hperm
  have HSORT := Lib.hid hsort
  have HROW := Lib.hid hrow
  have HB3 := Lib.hid (HB2.out.trans hst.below)
  have zg3 : w1.heap.size < w3.heap.size := hrow.lt
  have HLN3 := Lib.hid (HLN.out w3)
  clear hperm hsort hrow hst HSRT HLN HB2
  go_wp2_with fail
  refine HLN3.out.mono ?_
  rintro e w4 ⟨rfl, rfl⟩
  have hmk := make_noughts w4 n (by omega)
  have HMO := Lib.hid (made_noughts w4 w.heap.size n HB3.out.size (by omega))
  have HB0 : Hid (Below w4.heap.size w4 (w4.alloc (.cells (madeCells #[.int .i64 0] n) 3))) := Lib.hid ((Below.refl w4.heap.size w4).alloc (Nat.le_refl _) (.cells (madeCells #[.int .i64 0] n) 3))
  go_wp2_with fail
  clear hmk hPz hCz hkz HLN3
  have HWL : Hid (W.length = n) := Lib.hid (by rw [HW.out]; simp)
  have HLS : Hid (LS.length = n ∧ ∀ i x, LS[i]? = some x → x.2 < n ∧ front W x.2 = i) := Lib.hid (by
    have hp2 : LS.Perm ((List.range W.length).map fun i => (W.getD i 0, i)) := by
      rw [HWL.out]
      refine HPERM.out.trans ?_
      rw [HT.out]
      have : ((List.range n).map fun i => (f i, i)) = (List.range n).map fun i => (W.getD i 0, i) := List.map_congr_left fun i hi => by rw [HW.out, range_getD n f i (List.mem_range.1 hi)]
      rw [this]
    refine ⟨by rw [hp2.length_eq]; simp [HWL.out], fun i x hx => ?_⟩
    have h3 := place_front W LS hp2 HSORT.out i x hx
    rw [HWL.out] at h3
    exact h3)
  clear HPERM HSORT HT
  go_loopw [8, 9, 33] (fun s8 s9 x wx => ∃ i : Nat, i ≤ n ∧ x = .int .i64 i ∧ FRow wx w.heap.size w4.heap.size n n (fun j => if front W j < i then flatLen k C W j else 0) ∧ Below w4.heap.size w4 wx) (fun _ _ x _ => n - (intOf x).toNat)
  case atStart =>
    refine ⟨0, Nat.zero_le _, rfl, ?_, HB0.out⟩
    have e0 : (fun j => if front W j < 0 then flatLen k C W j else 0) = fun _ => 0 := by
      funext j
      rw [if_neg (by omega)]
    rw [e0]
    exact HMO.out
  case round =>
    clear HMO HB0
    obtain ⟨i, hi, rfl, hf, hbx⟩ := hrel
    by_cases e : i < n
    · have di : decide ((i : Int) < (n : Int)) = true := decide_eq_true (by omega)
      have hiI : (0 : Int) ≤ (i : Int) := by omega
      have hiL : i < LS.length := by rw [HLS.out.1]; exact e
      have hx := HLS.out.2 i (LS.getD i (0, 0)) (by rw [List.getD_eq_getElem?_getD, List.getElem?_eq_getElem hiL]; rfl)
      have hrow := HROW.out.low hbx zg3
      have l0 := hrow.cell0 hiL
      have l1 := hrow.cell1 hiL
      generalize LS.getD i (0, 0) = t at *
      obtain ⟨t0, j⟩ := t
      dsimp only at l0 l1 hx
      have hjn := hx.1
      have hfj := hx.2
      have hjI : (0 : Int) ≤ (j : Int) := by omega
      have hjnI : (j : Int) < (n : Int) := by omega
      have hz4 : w4.heap.size ≤ wr.heap.size := hbx.size
      have hzw : w.heap.size ≤ w4.heap.size := HB3.out.size
      have hf1 : FRow (wr.alloc (.cells #[.int .i64 t0, .int .i64 j] 111)) w.heap.size w4.heap.size n n _ := hf.alloc _
      have b1 := (blk_cell (blk_new wr 111 #[.int .i64 t0, .int .i64 j]) 1).trans (rfl : _ = some (Value.int .i64 j))
      have c1 := hf1.cell j hjn
      have g1 := hf1.frozen j
      have hs1 := hf1.set j k
      have c2 := hs1.cell j hjn
      rw [if_pos rfl] at c2
      have g2 := hs1.frozen j
      have hne : wr.heap.size ≠ w4.heap.size := by have := hf.lt.2; omega
      have b2 := (blk_cell (blkO (b := w4.heap.size) (o := j) (blk_new wr 111 #[.int .i64 t0, .int .i64 j]) hne (.int .i64 (k : Nat))) 1).trans (rfl : _ = some (Value.int .i64 j))
      obtain ⟨k1, hk1⟩ : ∃ k1, k1 = k + 1 := ⟨_, rfl⟩
      have hkz : (k : Int) + 1 = (k1 : Int) := by omega
      have hs2 := hs1.set j k1
      have hbe1 := ((hbx.alloc hz4 (.cells #[.int .i64 t0, .int .i64 j] 111)).setCell (p := ⟨w4.heap.size, j, none⟩) (Nat.le_refl _) (.int .i64 (k : Nat)))
      have hsame : ∀ v : Nat, v = flatLen k C W j → ∀ w' : World, FRow w' w.heap.size w4.heap.size n n (fun a => if a = j then v else if front W a < i then flatLen k C W a else 0) → FRow w' w.heap.size w4.heap.size n n (fun a => if front W a < i + 1 then flatLen k C W a else 0) := by
        intro v hv w' h
        have h3 : w'.ownsRow w.heap.size 3 1 (.slice (some ⟨w4.heap.size, 0, none⟩) n n) n (rowF n (fun a => if a = j then v else if front W a < i then flatLen k C W a else 0)) := h
        rw [rowF_same n _ (fun a => if front W a < i + 1 then flatLen k C W a else 0) fun a ha => by
          by_cases ea : a = j
          · rw [if_pos ea, if_pos (by rw [ea]; omega), hv, ea]
          · rw [if_neg ea]
            have := front_ne W a j (by rw [HWL.out]; exact ha) (by rw [HWL.out]; exact hjn) ea
            by_cases e2 : front W a < i
            · rw [if_pos e2, if_pos (by omega)]
            · rw [if_neg e2, if_neg (by omega)]] at h3
        exact h3
      by_cases c : C ≤ i
      · have d1 : decide ((C : Int) ≤ (i : Int)) = true := decide_eq_true (by omega)
        have hv : k1 = flatLen k C W j := by unfold flatLen; rw [hfj, if_pos c]; exact hk1
        have e2 : (fun a => if a = j then k1 else if a = j then k else if front W a < i then flatLen k C W a else 0) = fun a => if a = j then k1 else if front W a < i then flatLen k C W a else 0 := by
          funext a
          by_cases ea : a = j
          · rw [if_pos ea, if_pos ea]
          · rw [if_neg ea, if_neg ea, if_neg ea]
        rw [e2] at hs2
        have HS := Lib.hid (hsame k1 hv _ hs2)
        have HBE := Lib.hid (hbe1.setCell (p := ⟨w4.heap.size, j, none⟩) (Nat.le_refl _) (.int .i64 (k1 : Nat)))
        clear hf hbx hx hrow hf1 hs1 hs2 hbe1 hsame hv e2 hk1 hfj
        go_wp2_with fail
        go_roundw
        case rel => exact ⟨i + 1, by omega, by go_num, HS.out, HBE.out⟩
        case measure => simp [intOf]; omega
      · have d1 : decide ((C : Int) ≤ (i : Int)) = false := decide_eq_false (by omega)
        have hv : k = flatLen k C W j := by unfold flatLen; rw [hfj, if_neg c]
        have HS := Lib.hid (hsame k hv _ hs1)
        have HBE := Lib.hid hbe1
        clear hf hbx hx hrow hf1 hs1 hs2 hbe1 hsame hv hk1 hfj
        go_wp2_with fail
        go_roundw
        case rel => exact ⟨i + 1, by omega, by go_num, HS.out, HBE.out⟩
        case measure => simp [intOf]; omega
    · obtain rfl : i = n := by omega
      have di : decide ((i : Int) < (i : Int)) = false := decide_eq_false (by omega)
      have h3 : wr.ownsRow w.heap.size 3 1 (.slice (some ⟨w4.heap.size, 0, none⟩) i i) i (rowF i fun a => if front W a < i then flatLen k C W a else 0) := hf
      rw [rowF_same i _ (flatLen k C W) fun a ha => by
        have : front W a < i := by
          have h5 := (front_perm W).mem_iff.1 (List.mem_map.2 ⟨a, List.mem_range.2 (by rw [HWL.out]; exact ha), rfl⟩)
          rw [HWL.out] at h5
          exact List.mem_range.1 h5
        rw [if_pos this]] at h3
      rw [HK.out.2.2] at h3
      have HPE := Lib.hid (hP.out _ k wr HK.out.1 HK.out.2.1 h3 (HB3.out.trans (hbx.mono HB3.out.size)))
      clear hf hbx h3 hP HLS HROW
      go_wp2_with fail
      exact HPE.out

end Go.Proofs.YtmgmgmbpldboiaaGreat
