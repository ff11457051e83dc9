/- Yd Ye Od: texts laid together, what is not used left out. -/
import Derived.Test.YtmgmgmbpldboiaaGreatZ04
import Derived.Test.YtmgmgmbpldboiaaGreatZ02
namespace Go.Proofs.YtmgmgmbpldboiaaGreat
open Go.RowKit

theorem ints_of_zin {w : World} {A : Option Addr} {m : Nat} {L : List Int} (h : ZIn w A m L) (hv : ∀ x ∈ L, 0 ≤ x) : IntsIn w A m (L.map Int.toNat) := by
  refine ⟨by rw [List.length_map]; exact h.1, fun hm => ?_⟩
  obtain ⟨b, off, rfl, hc⟩ := h.2 hm
  refine ⟨b, off, rfl, fun i hi => ?_⟩
  have hiL : i < L.length := by rw [h.1]; exact hi
  rw [hc i hi, List.getD_eq_getElem?_getD, List.getD_eq_getElem?_getD, List.getElem?_map, List.getElem?_eq_getElem (by rw [h.1]; exact hi)]
  have h0 := hv (L[i]'hiL) (List.getElem_mem _)
  show some (Value.int .i64 (L[i]'hiL)) = some (.int .i64 (((L[i]'hiL).toNat : Nat) : Int))
  rw [Int.toNat_of_nonneg h0]
/-- Weights, 0 as 1. -/
def oneF (L : List Int) (j : Nat) : Nat := max (L.getD j 0).toNat 1
def oneL (L : List Int) : List Nat := (List.range L.length).map (oneF L)
/-- What Make answers: refused, or the lengths. -/
def MakePost (w : World) (L : List Int) (most : Int) (e : Ending) (w' : World) : Prop :=
  ((¬ MayW L ∨ most < 12 ∨ 20 < most) ∧ ∃ v, e = .returned (.tuple #[v, .int .i64 2]) ∧ w'.ownsRow w.heap.size 3 1 v 0 [] ∧ Below w.heap.size w w') ∨
  (MayW L ∧ 12 ≤ most ∧ most ≤ 20 ∧ ∃ v len, MakeR (oneL L) most.toNat len ∧ e = .returned (.tuple #[v, .int .i64 0]) ∧ w'.ownsRow w.heap.size 3 1 v L.length (rowF L.length len) ∧ Below w.heap.size w w')

theorem FRow.lower {w : World} {B B' g c n : Nat} {f : Nat → Nat} (h : FRow w B g c n f) (hB : B' ≤ B) : FRow w B' g c n f := World.ownsRow.mono h hB
theorem sum_small (n : Nat) (f : Nat → Nat) (hn : n ≤ 258) (h : ∀ j, j < n → f j ≤ 1073741824) : ((List.range n).map f).sum ≤ 1099511627776 := by
  have h1 := sum_le 1073741824 ((List.range n).map f) (fun x hx => by
    obtain ⟨j, hj, rfl⟩ := List.mem_map.1 hx
    exact h j (List.mem_range.1 hj))
  rw [List.length_map, List.length_range] at h1
  have h2 : 1073741824 * n ≤ 1073741824 * 258 := Nat.mul_le_mul_left _ hn
  omega

/-- Try number t of Make. -/
def TryN (w wx : World) (W0 : List Nat) (n most gA cA t : Nat) (v : Value) : Prop := ∃ (gX cX : Nat) (len f : Nat → Nat), t ≤ 40 ∧ v = .slice (some ⟨gX, 0, none⟩) n cX ∧ FRow wx w.heap.size gA cA n f ∧ FRow wx w.heap.size gX cX n len ∧
  halves W0 t = (List.range n).map f ∧ HLen (halves W0 t) len ∧ (∀ j, j < n → f j ≤ 1073741824) ∧ (∀ q, q < t → ∃ L1, HLen (halves W0 q) L1 ∧ ∃ i, i < n ∧ most < L1 i) ∧ Below w.heap.size w wx
theorem half_range (n : Nat) (f : Nat → Nat) : half ((List.range n).map f) = (List.range n).map fun j => f j / 2 + 1 := by
  unfold half
  rw [List.map_map]
  rfl

set_option maxHeartbeats 3200000 in
set_option maxRecDepth 100000 in
theorem make_any (w : World) (A : Option Addr) (n c : Nat) (L : List Int) (most : Nat) (hL : ZIn w A n L) (hM : MayW L) (h12 : 12 ≤ most) (h20 : most ≤ 20) : Calls Tryz.prog 40 #[.slice A n c, .int .i64 most] w (MakePost w L most) := by
  have hln := hL.1
  have h2n : 2 ≤ n := by have := hM.1; omega
  have hn : n ≤ 258 := by have := hM.2.1; omega
  have HM := Lib.hid (may_any w A n c L hL (by unfold maxLen; omega))
  rw [show decide (MayW L) = true from decide_eq_true hM] at HM
  have hin := ints_of_zin hL fun x hx => (hM.2.2 x hx).1
  have hown0 : (w.alloc (.cells #[] 3)).ownsRow w.heap.size 3 1 (.slice (some ⟨w.heap.size, 0, none⟩) 0 0) 0 [] := World.ownsRow_made w #[] 0 (Nat.le_refl _) (Nat.zero_le _) rfl
  have hb0 : Below w.heap.size w (w.alloc (.cells #[] 3)) := (Below.refl _ w).alloc (Nat.le_refl _) _
  obtain ⟨v3, w3, hr3, ho3, hg3⟩ := append_ints (w.alloc (.cells #[] 3)) w.heap.size _ 0 [] hown0 A n c _ (ints_low hin hb0) (by omega) (by simp)
  have hb3 : Below w.heap.size w w3 := hb0.grown hg3 (by simp) (fun k hk => (hown0.lt k hk).1)
  obtain ⟨A3, cA, rfl, hc3, _, hA3⟩ := own_slice ho3
  obtain ⟨gA, rfl⟩ := hA3 (by omega)
  rw [Nat.zero_add] at ho3 hr3 hc3
  obtain ⟨f0, hf0⟩ : ∃ f0 : Nat → Nat, f0 = fun j => (L.getD j 0).toNat := ⟨_, rfl⟩
  have hf3 : FRow w3 w.heap.size gA cA n f0 := by
    have := ho3
    rw [List.nil_append, rowF_list, List.length_map, hln] at this
    have e : rowF n (fun j => (L.map Int.toNat).getD j 0) = rowF n f0 := rowF_same n _ _ fun j hj => by
      rw [hf0]
      show (L.map Int.toNat).getD j 0 = (L.getD j 0).toNat
      rw [List.getD_eq_getElem?_getD, List.getD_eq_getElem?_getD, List.getElem?_map, List.getElem?_eq_getElem (by omega)]
      rfl
    rw [e] at this
    exact this
  have hfb : ∀ j, j < n → f0 j ≤ 1073741824 := by
    intro j hj
    rw [hf0]
    have := (hM.2.2 _ (getD_mem_int L j (by omega))).2
    show (L.getD j 0).toNat ≤ _
    omega
  have hW0 : oneL L = (List.range n).map fun j => max (f0 j) 1 := by
    unfold oneL
    rw [hln, hf0]
    rfl
  have hP : Hid (∀ (v : Value) (len : Nat → Nat) w', MakeR (oneL L) most len → w'.ownsRow w.heap.size 3 1 v n (rowF n len) → Below w.heap.size w w' → MakePost w L most (.returned (.tuple #[v, .int .i64 0])) w') := Lib.hid fun v len w' h1 h2 h3 =>
    .inr ⟨hM, by omega, by omega, v, len, by rw [Int.toNat_natCast]; exact h1, rfl, by rw [hln]; exact h2, h3⟩
  have m1 : decide ((most : Int) < 12) = false := decide_eq_false (by omega)
  have m2 : decide ((20 : Int) < (most : Int)) = false := decide_eq_false (by omega)
  have HR3 := Lib.hid hr3
  have HF3 := Lib.hid hf3
  have HB3 := Lib.hid hb3
  have HFB := Lib.hid hfb
  have HW0 := Lib.hid hW0
  have HGR := Lib.hid grown_any
  have HGT := Lib.hid greatest_any
  generalize MakePost w L most = PO at *
  clear hL hln hM hin hown0 hb0 hr3 ho3 hg3 hb3 hA3 hc3 hf0 hf3 hfb hW0
  go_enter Tryz.func40, Tryz.ntmps40
  go_wp2_with fail
  refine HM.out.mono ?_
  rintro e w' ⟨rfl, rfl⟩
  clear HM
  go_wp2_with (at_builtin; refine Lib.wpList_append_run _ rfl (.tmp 22) (.tmp 23) 22 22 rfl (.slice (some ⟨w'.heap.size, 0, none⟩) 0 0) (.slice A n c) rfl rfl _ w3 HR3.out ?_)
  go_loopw [7] (fun x wx => ∃ i : Nat, i ≤ n ∧ x = .int .i64 i ∧ FRow wx w'.heap.size gA cA n (fun j => if j < i then max (f0 j) 1 else f0 j) ∧ Below w'.heap.size w' wx) (fun x _ => n - (intOf x).toNat)
  case atStart =>
    refine ⟨0, Nat.zero_le _, rfl, ?_, HB3.out⟩
    have e0 : (fun j => if j < 0 then max (f0 j) 1 else f0 j) = f0 := by
      funext j
      rw [if_neg (by omega)]
    rw [e0]
    exact HF3.out
  case round =>
    obtain ⟨i, hi, rfl, hf, hb⟩ := hrel
    by_cases e : i < n
    · have di : decide ((i : Int) < (n : Int)) = true := decide_eq_true (by omega)
      have hiI : (0 : Int) ≤ (i : Int) := by omega
      have ci := hf.cell i e
      have fi := hf.frozen i
      rw [if_neg (by omega)] at ci
      have hg := hf.lt
      obtain ⟨x, hx⟩ : ∃ x, x = f0 i := ⟨_, rfl⟩
      rw [← hx] at ci
      have hfn : ∀ m : Nat, m = max x 1 → (fun j => if j = i then m else if j < i then max (f0 j) 1 else f0 j) = fun j => if j < i + 1 then max (f0 j) 1 else f0 j := by
        intro m hm
        funext j
        by_cases ej : j = i
        · rw [if_pos ej, if_pos (by omega), ej, hm, hx]
        · rw [if_neg ej]
          by_cases ej2 : j < i
          · rw [if_pos ej2, if_pos (by omega)]
          · rw [if_neg ej2, if_neg (by omega)]
      have HFN := Lib.hid hfn
      have HF := Lib.hid hf
      have HB := Lib.hid hb
      have hgb : w'.heap.size ≤ gA := hg.1
      have hxb : x ≤ 1073741824 := by rw [hx]; exact HFB.out i e
      clear hf hb hfn hx hg
      by_cases h0 : x = 0
      · subst h0
        have hs := HF.out.set i 1
        rw [HFN.out 1 rfl] at hs
        have HS := Lib.hid hs
        have HBS := Lib.hid (HB.out.setCell (p := ⟨gA, i, none⟩) hgb (.int .i64 ((1 : Nat) : Int)))
        clear hs
        go_wp2_with fail
        go_roundw
        case rel => exact ⟨i + 1, by omega, by go_num, HS.out, HBS.out⟩
        case measure => simp [intOf]; omega
      · have hs := HF.out.set i x
        rw [HFN.out x (by omega)] at hs
        have HS := Lib.hid hs
        have HBS := Lib.hid (HB.out.setCell (p := ⟨gA, i, none⟩) hgb (.int .i64 (x : Int)))
        have dx : decide ((x : Int) < 1) = false := decide_eq_false (by omega)
        have hx1 : ¬ ((x : Int) < 1) := by omega
        clear hs
        go_wp2_with fail
        go_roundw
        case rel => exact ⟨i + 1, by omega, by go_num, HS.out, HBS.out⟩
        case measure => simp [intOf]; omega
    · obtain rfl : i = n := by omega
      have di : decide ((i : Int) < (i : Int)) = false := decide_eq_false (by omega)
      have hf1 : FRow wr w'.heap.size gA cA i (fun j => max (f0 j) 1) := by
        have h3 : wr.ownsRow w'.heap.size 3 1 (.slice (some ⟨gA, 0, none⟩) i cA) i (rowF i fun j => if j < i then max (f0 j) 1 else f0 j) := hf
        rw [rowF_same i _ (fun j => max (f0 j) 1) fun j hj => if_pos hj] at h3
        exact h3
      have hfb1 : ∀ j, j < i → (fun j => max (f0 j) 1) j ≤ 1073741824 := fun j hj => by
        have := HFB.out j hj
        show max (f0 j) 1 ≤ _
        omega
      have hgr := HGR.out wr (some ⟨gA, 0, none⟩) i cA _ hf1.ints (by omega) (by omega) (sum_small i _ (by omega) hfb1)
      rw [← HW0.out] at hgr
      have HGR1 := Lib.hid hgr
      have HF1 := Lib.hid hf1
      have HB1 := Lib.hid hb
      have hgA := hf1.lt
      clear hf hb hf1 hgr hfb1
      go_wp2_with fail
      refine HGR1.out.mono ?_
      rintro e w5 ⟨gX, cX, len, hlen, rfl, hfX, hb5⟩
      have hz1 := HB1.out.size
      have htry : TryN w' w5 (oneL L) i most gA cA 0 (.slice (some ⟨gX, 0, none⟩) i cX) :=
        ⟨gX, cX, len, _, by omega, rfl, HF1.out.below hb5 hgA.2, hfX.lower hz1, HW0.out, hlen, (fun j hj => by
          have := HFB.out j hj
          show max (f0 j) 1 ≤ _
          omega), (fun q hq => by omega), HB1.out.trans (hb5.mono hz1)⟩
      have HTRY := Lib.hid htry
      have HWL : Hid ((oneL L).length = i ∧ ∀ x ∈ oneL L, x ≤ 2 ^ 30) := Lib.hid (by
        rw [HW0.out]
        refine ⟨by simp, fun x hx => ?_⟩
        obtain ⟨j, hj, rfl⟩ := List.mem_map.1 hx
        have := HFB.out j (List.mem_range.1 hj)
        show max (f0 j) 1 ≤ 2 ^ 30
        have e30 : (2 : Nat) ^ 30 = 1073741824 := by decide
        omega)
      clear hlen hfX hb5 htry hz1 HW0 HFB HF1 HB1 HF3 HB3 HR3 HGR1
      generalize oneL L = W0 at *
      go_wp2_with fail
      go_loopw [8, 9, 10] (fun v x z wx => ∃ t : Nat, x = .int .i64 t ∧ TryN w' wx W0 i most gA cA t v) (fun _ x _ _ => 41 - (intOf x).toNat)
      case atStart => exact ⟨0, rfl, HTRY.out⟩
      case round =>
        clear HTRY
        rename World => w6
        obtain ⟨t, rfl, gY, cY, len, f, ht, rfl, hfA, hfY, hhal, hlen, hfb, hq, hb⟩ := hrel
        have HFA := Lib.hid hfA
        have HFY := Lib.hid hfY
        have HHAL := Lib.hid hhal
        have HLEN := Lib.hid hlen
        have HFBB := Lib.hid hfb
        have HQ := Lib.hid hq
        have HB := Lib.hid hb
        have hz6 := hb.size
        have hdone : (∀ j, j < i → len j ≤ most) → PO (.returned (.tuple #[.slice (some ⟨gY, 0, none⟩) i cY, .int .i64 0])) w6 := fun hall => by
          have hm : MakeR (halves W0 t) most len := .done hlen (by rw [halves_length, HWL.out.1]; exact hall)
          have hm2 := makeR_back (w := W0) t (fun q hq2 => by rw [HWL.out.1]; exact hq q hq2) hm
          exact hP.out _ len w6 hm2 hfY hb
        have HDONE := Lib.hid hdone
        by_cases e : t < 40
        · have dt : decide ((t : Int) < 40) = true := decide_eq_true (by omega)
          have HG := Lib.hid (HGT.out w6 (some ⟨gY, 0, none⟩) i cY _ hfY.ints (by omega) (by omega))
          clear hfA hfY hhal hlen hfb hq hb hdone
          go_wp2_with fail
          refine HG.out.mono ?_
          rintro e w7 ⟨g, rfl, hmax, rfl⟩
          have HMAX : Hid ((∀ j, j < i → len j ≤ g) ∧ ∃ j, j < i ∧ len j = g) := Lib.hid (by
            refine ⟨fun j hj => ?_, ?_⟩
            · have h3 : ((List.range i).map len).getD j 0 ≤ g := hmax.1 j hj
              rw [range_getD i len j hj] at h3
              exact h3
            · obtain ⟨j, hj, h⟩ := hmax.2
              have h3 : ((List.range i).map len).getD j 0 = g := h
              rw [range_getD i len j hj] at h3
              exact ⟨j, hj, h3⟩)
          clear hmax HG
          by_cases e2 : most < g
          · have dg : decide ((most : Int) < (g : Int)) = true := decide_eq_true (by omega)
            have HQ2 : Hid (∀ q, q < t + 1 → ∃ L1, HLen (halves W0 q) L1 ∧ ∃ j, j < i ∧ most < L1 j) := Lib.hid (by
              intro q hq
              by_cases eq : q = t
              · subst eq
                obtain ⟨j, hj, h⟩ := HMAX.out.2
                exact ⟨len, HLEN.out, j, hj, by rw [h]; exact e2⟩
              · exact HQ.out q (by omega))
            clear HDONE HMAX HQ HLEN HFY
            go_wp2_with fail
            go_loopw [10] (fun z wx => ∃ j : Nat, j ≤ i ∧ z = .int .i64 j ∧ FRow wx w'.heap.size gA cA i (fun a => if a < j then f a / 2 + 1 else f a) ∧ Below w'.heap.size w' wx) (fun z _ => i - (intOf z).toNat)
            case atStart =>
              refine ⟨0, Nat.zero_le _, rfl, ?_, HB.out⟩
              have e0 : (fun a => if a < 0 then f a / 2 + 1 else f a) = f := by
                funext a
                rw [if_neg (by omega)]
              rw [e0]
              exact HFA.out
            case round =>
              clear HFA HB hz6
              rename World => w8
              obtain ⟨j, hj, rfl, hfj, hbj⟩ := hrel
              by_cases e3 : j < i
              · have dj : decide ((j : Int) < (i : Int)) = true := decide_eq_true (by omega)
                have hjI : (0 : Int) ≤ (j : Int) := by omega
                have cj := hfj.cell j e3
                have fj := hfj.frozen j
                rw [if_neg (by omega)] at cj
                have hg := hfj.lt
                obtain ⟨x, hx⟩ : ∃ x, x = f j := ⟨_, rfl⟩
                rw [← hx] at cj
                obtain ⟨y, hy⟩ : ∃ y, y = x / 2 := ⟨_, rfl⟩
                obtain ⟨y1, hy1⟩ : ∃ y1, y1 = y + 1 := ⟨_, rfl⟩
                have hyz : (x : Int) / 2 = (y : Int) := by omega
                have hxb : x ≤ 1073741824 := by rw [hx]; exact HFBB.out j e3
                have hyb : y ≤ 1073741824 := by omega
                have hy1z : (y : Int) + 1 = (y1 : Int) := by omega
                have hs := hfj.set j y1
                have hfn : (fun a => if a = j then y1 else if a < j then f a / 2 + 1 else f a) = fun a => if a < j + 1 then f a / 2 + 1 else f a := by
                  funext a
                  by_cases ea : a = j
                  · rw [if_pos ea, if_pos (by omega), ea, hy1, hy, hx]
                  · rw [if_neg ea]
                    by_cases ea2 : a < j
                    · rw [if_pos ea2, if_pos (by omega)]
                    · rw [if_neg ea2, if_neg (by omega)]
                rw [hfn] at hs
                have HS := Lib.hid hs
                have HBS := Lib.hid (hbj.setCell (p := ⟨gA, j, none⟩) hg.1 (.int .i64 (y1 : Nat)))
                clear hfj hbj hs hfn hx hy hy1 hg
                go_wp2_with fail
                go_roundw
                case rel => exact ⟨j + 1, by omega, by go_num, HS.out, HBS.out⟩
                case measure => simp [intOf]; omega
              · obtain rfl : j = i := by omega
                have dj : decide ((j : Int) < (j : Int)) = false := decide_eq_false (by omega)
                have hf1 : FRow w8 w'.heap.size gA cA j (fun a => f a / 2 + 1) := by
                  have h3 : w8.ownsRow w'.heap.size 3 1 (.slice (some ⟨gA, 0, none⟩) j cA) j (rowF j fun a => if a < j then f a / 2 + 1 else f a) := hfj
                  rw [rowF_same j _ (fun a => f a / 2 + 1) fun a ha => if_pos ha] at h3
                  exact h3
                have hfb1 : ∀ a, a < j → (fun a => f a / 2 + 1) a ≤ 1073741824 := fun a ha => by
                  have := HFBB.out a ha
                  show f a / 2 + 1 ≤ _
                  omega
                have hhal1 : halves W0 (t + 1) = (List.range j).map fun a => f a / 2 + 1 := by
                  rw [halves, HHAL.out, half_range]
                have hgr := HGR.out w8 (some ⟨gA, 0, none⟩) j cA _ hf1.ints (by omega) (by omega) (sum_small j _ (by omega) hfb1)
                rw [← hhal1] at hgr
                have HGR2 := Lib.hid hgr
                have HF1 := Lib.hid hf1
                have HB1 := Lib.hid hbj
                have HFB1 := Lib.hid hfb1
                have HHAL1 := Lib.hid hhal1
                have hgA := hf1.lt
                have hz8 := hbj.size
                clear hfj hbj hf1 hgr hfb1 hhal1
                go_wp2_with fail
                refine HGR2.out.mono ?_
                rintro e w9 ⟨gZ, cZ, len2, hlen2, rfl, hfZ, hb9⟩
                have htry : TryN w' w9 W0 j most gA cA (t + 1) (.slice (some ⟨gZ, 0, none⟩) j cZ) :=
                  ⟨gZ, cZ, len2, _, by omega, rfl, HF1.out.below hb9 hgA.2, hfZ.lower hz8, HHAL1.out, hlen2, HFB1.out, HQ2.out, HB1.out.trans (hb9.mono hz8)⟩
                have HTRY := Lib.hid htry
                clear hlen2 hfZ hb9 htry HGR2 HF1 HB1 HFB1 HHAL1 HQ2
                go_wp2_with fail
                go_roundw
                case rel => exact ⟨t + 1, by go_num, HTRY.out⟩
                case measure => simp [intOf]; omega
          · have dg : decide ((most : Int) < (g : Int)) = false := decide_eq_false (by omega)
            have HPE := Lib.hid (HDONE.out fun j hj => by
              have := HMAX.out.1 j hj
              omega)
            clear HDONE HMAX HQ HLEN HFY HFA HB
            go_wp2_with fail
            exact HPE.out
        · have dt : decide ((t : Int) < 40) = false := decide_eq_false (by omega)
          have HPE := Lib.hid (HDONE.out fun j hj => by
            have := halves_done (w := W0) HWL.out.2 (by rw [HWL.out.1]; exact hn) t (by omega) HLEN.out j (by rw [HWL.out.1]; exact hj)
            omega)
          clear HDONE HQ HLEN HFY HFA HB hfA hfY hhal hlen hfb hq hb hdone
          go_wp2_with fail
          exact HPE.out

end Go.Proofs.YtmgmgmbpldboiaaGreat
namespace Go.Proofs.YtmgmgmbpldboiaaGreat
open Go.RowKit

/-- What lengths take. -/
def kraftL (L : List Int) : Nat := (L.map fun x => 2 ^ (20 - x.toNat)).sum
/-- Lengths may be. -/
def LenOk (L : List Int) : Prop := 2 ≤ L.length ∧ L.length ≤ 258 ∧ (∀ x ∈ L, 1 ≤ x ∧ x ≤ 20) ∧ kraftL L ≤ 1048576
instance (L : List Int) : Decidable (LenOk L) := inferInstanceAs (Decidable (_ ∧ _))
def roomV (L : List Int) : Int := if LenOk L then (kraftL L : Nat) else -1
set_option maxRecDepth 100000 in
theorem kraft_snoc (L : List Int) (x : Int) : kraftL (L ++ [x]) = kraftL L + 2 ^ (20 - x.toNat) := by
  unfold kraftL
  rw [List.map_append, List.sum_append]
  simp
theorem kraft_le (L : List Int) (h : ∀ x ∈ L, 1 ≤ x) : kraftL L ≤ 524288 * L.length := by
  unfold kraftL
  have h1 := sum_le 524288 (L.map fun x => 2 ^ (20 - x.toNat)) (fun y hy => by
    obtain ⟨x, hx, rfl⟩ := List.mem_map.1 hy
    have := h x hx
    have h2 : 2 ^ (20 - x.toNat) ≤ 2 ^ 19 := Nat.pow_le_pow_right (by decide) (by omega)
    exact h2)
  rw [List.length_map] at h1
  exact h1

set_option maxHeartbeats 1600000 in
set_option maxRecDepth 100000 in
theorem room_any (w : World) (A : Option Addr) (n c : Nat) (L : List Int) (hL : ZIn w A n L) (hn : n ≤ maxLen) : Calls Tryz.prog 96 #[.slice A n c] w fun e w' => e = .returned (.int .i64 (roomV L)) ∧ w' = w := by
  unfold maxLen at hn
  have hlm := hL.1
  have HL := Lib.hid hL
  have HLM := Lib.hid hlm
  have HNO : Hid (∀ x ∈ L, (x < 1 ∨ 20 < x) → roomV L = -1) := Lib.hid fun x hx h => if_neg fun hm => by
    have := hm.2.2.1 x hx
    omega
  have HSM : Hid ((n < 2 ∨ 258 < n) → roomV L = -1) := Lib.hid fun h => if_neg fun hm => by
    have := hm.1
    have := hm.2.1
    omega
  have HBG : Hid (1048576 < kraftL L → roomV L = -1) := Lib.hid fun h => if_neg fun hm => by
    have := hm.2.2.2
    omega
  have HOK : Hid (2 ≤ n → n ≤ 258 → (∀ x ∈ L, 1 ≤ x ∧ x ≤ 20) → kraftL L ≤ 1048576 → roomV L = (kraftL L : Nat)) := Lib.hid fun h1 h2 h3 h4 => if_pos ⟨by omega, by omega, h3, h4⟩
  clear hL hlm
  generalize roomV L = ans at *
  go_enter Tryz.func96, Tryz.ntmps96
  go_wp2_with fail
  go_loopw [3, 4] (fun s i wx => ∃ (q : Nat) (v : Int), q ≤ n ∧ i = .int .i64 q ∧ s = .int .i64 v ∧ Hid (q ≤ 1000000 → v = (kraftL (L.take q) : Nat)) ∧ Hid (∀ x ∈ L.take q, 1 ≤ x ∧ x ≤ 20) ∧ wx = w) (fun _ i _ => n - (intOf i).toNat)
  case atStart => exact ⟨0, 0, Nat.zero_le _, rfl, rfl, fun _ => rfl, by simp [Hid], rfl⟩
  case round =>
    obtain ⟨q, v, hq, rfl, rfl, hk, hv, rfl⟩ := hrel
    by_cases e : q < n
    · have dq : decide ((q : Int) < (n : Int)) = true := decide_eq_true (by omega)
      obtain ⟨b, off, rfl, hc⟩ := HL.out.2 (by omega)
      have hcw := hc q e
      have htk := take_snoc_int L q (by rw [HLM.out]; exact e)
      have hmem := getD_mem_int L q (by rw [HLM.out]; exact e)
      obtain ⟨x, hx⟩ : ∃ x, x = L.getD q 0 := ⟨_, rfl⟩
      rw [← hx] at hcw htk hmem
      have HTK := Lib.hid htk
      have HM := Lib.hid hmem
      clear hc hx htk hmem
      by_cases e1 : x < 1
      · have d1 : decide (x < 1) = true := decide_eq_true e1
        have hans := HNO.out x HM.out (.inl e1)
        subst hans
        clear HSM HBG HOK
        go_wp2_with fail
        go_ret
        exact ⟨rfl, rfl⟩
      · have d1 : decide (x < 1) = false := decide_eq_false e1
        by_cases e2 : 20 < x
        · have d2 : decide (20 < x) = true := decide_eq_true e2
          have hans := HNO.out x HM.out (.inr e2)
          subst hans
          clear HSM HBG HOK
          go_wp2_with fail
          go_ret
          exact ⟨rfl, rfl⟩
        · obtain ⟨y, rfl⟩ : ∃ y : Nat, x = y := ⟨x.toNat, by omega⟩
          have d1' : decide ((y : Int) < 1) = false := d1
          have d2 : decide ((20 : Int) < (y : Int)) = false := decide_eq_false e2
          have hv2 : ∀ z ∈ L.take (q + 1), 1 ≤ z ∧ z ≤ 20 := by
            rw [HTK.out]
            intro z hz
            rcases List.mem_append.1 hz with hz | hz
            · exact hv.out z hz
            · rw [List.mem_singleton.1 hz]
              omega
          have HV2 := Lib.hid hv2
          obtain ⟨d, hd⟩ : ∃ d, d = 20 - y := ⟨_, rfl⟩
          have hdz : (20 : Int) - (y : Int) = (d : Int) := by omega
          have hd19 : d ≤ 19 := by omega
          obtain ⟨t, ht⟩ : ∃ t : Nat, t = 2 ^ d := ⟨_, rfl⟩
          have htz : ((2 : Int) ^ d) = (t : Int) := by rw [ht]; simp
          have ht19 : t ≤ 524288 := by
            rw [ht]
            exact Nat.pow_le_pow_right (by decide) hd19
          have hkn : kraftL (L.take (q + 1)) = kraftL (L.take q) + t := by
            rw [HTK.out, kraft_snoc, ht, hd, Int.toNat_natCast]
          have hkl := kraft_le (L.take q) fun z hz => (hv.out z hz).1
          have hlt : (L.take q).length ≤ q := by rw [List.length_take]; omega
          have HKN := Lib.hid hkn
          have hy1 : ¬ (y : Int) < 1 := e1
          clear hv2 hd ht hkn e1
          by_cases e3 : q + 1 ≤ 1000000
          · have hvk := hk.out (by omega)
            obtain ⟨z, hz⟩ : ∃ z, z = kraftL (L.take q) := ⟨_, rfl⟩
            rw [← hz] at hvk hkl
            have HZ := Lib.hid hz
            subst hvk
            have hzb : z ≤ 524288000000 := by
              have : 524288 * (L.take q).length ≤ 524288 * 1000000 := Nat.mul_le_mul_left _ (by omega)
              omega
            have HK2 : Hid (q + 1 ≤ 1000000 → (z : Int) + (t : Int) = (kraftL (L.take (q + 1)) : Nat)) := Lib.hid fun _ => by rw [HKN.out, ← HZ.out]; simp
            clear hz hk hkl hlt HNO HSM HBG HOK
            go_wp2_with fail
            go_roundw
            case rel => exact ⟨q + 1, _, by omega, by go_num, rfl, HK2, HV2, trivial⟩
            case measure => simp [intOf]; omega
          · clear hkl hlt hk HNO HSM HBG HOK
            go_wp2_with fail
            go_roundw
            case rel => exact ⟨q + 1, _, by omega, by go_num, rfl, fun h => absurd h e3, HV2, trivial⟩
            case measure => simp [intOf]; omega
    · obtain rfl : q = n := by omega
      have dq : decide ((q : Int) < (q : Int)) = false := decide_eq_false (by omega)
      have hv2 := hv.out
      have hk2 := hk.out
      rw [List.take_of_length_le (Nat.le_of_eq HLM.out)] at hv2 hk2
      by_cases h1 : q < 2
      · have d1 : decide ((q : Int) < 2) = true := decide_eq_true (by omega)
        have hans := HSM.out (.inl h1)
        subst hans
        clear hv2 hk2 hk hv HNO HSM HBG HOK
        go_wp2_with fail
        go_ret
        exact ⟨rfl, rfl⟩
      · have d1 : decide ((q : Int) < 2) = false := decide_eq_false (by omega)
        by_cases h2 : 258 < q
        · have d2 : decide ((258 : Int) < (q : Int)) = true := decide_eq_true (by omega)
          have hans := HSM.out (.inr h2)
          subst hans
          clear hv2 hk2 hk hv HNO HSM HBG HOK
          go_wp2_with fail
          go_ret
          exact ⟨rfl, rfl⟩
        · have d2 : decide ((258 : Int) < (q : Int)) = false := decide_eq_false (by omega)
          have hvk := hk2 (by omega)
          obtain ⟨z, hz⟩ : ∃ z, z = kraftL L := ⟨_, rfl⟩
          rw [← hz] at hvk
          subst hvk
          by_cases h3 : 1048576 < z
          · have d3 : decide ((1048576 : Int) < (z : Int)) = true := decide_eq_true (by omega)
            have hans := HBG.out (by rw [← hz]; exact h3)
            subst hans
            clear hv2 hk2 hk hv HNO HSM HBG HOK hz
            go_wp2_with fail
            go_ret
            exact ⟨rfl, rfl⟩
          · have d3 : decide ((1048576 : Int) < (z : Int)) = false := decide_eq_false (by omega)
            have hans := HOK.out (by omega) (by omega) hv2 (by rw [← hz]; omega)
            rw [← hz] at hans
            subst hans
            clear hv2 hk2 hk hv HNO HSM HBG HOK hz
            go_wp2_with fail
            go_ret
            exact ⟨rfl, rfl⟩

set_option maxRecDepth 100000 in
theorem check_any (w : World) (A : Option Addr) (n c : Nat) (L : List Int) (hL : ZIn w A n L) (hn : n ≤ maxLen) : Calls Tryz.prog 57 #[.slice A n c] w fun e w' => e = .returned (.int .i64 (if LenOk L then 0 else 80)) ∧ w' = w := by
  have HR := Lib.hid (room_any w A n c L hL hn)
  clear hL
  by_cases h : LenOk L
  · rw [show roomV L = (kraftL L : Nat) from if_pos h] at HR
    rw [if_pos h]
    obtain ⟨z, hz⟩ : ∃ z, z = kraftL L := ⟨_, rfl⟩
    rw [← hz] at HR
    have d0 : decide ((z : Int) < 0) = false := decide_eq_false (by omega)
    clear h hz
    go_enter Tryz.func57, Tryz.ntmps57
    go_wp2_with fail
    refine HR.out.mono ?_
    rintro e w' ⟨rfl, rfl⟩
    go_wp2_with fail
    go_ret
    exact ⟨rfl, rfl⟩
  · rw [show roomV L = -1 from if_neg h] at HR
    rw [if_neg h]
    clear h
    go_enter Tryz.func57, Tryz.ntmps57
    go_wp2_with fail
    refine HR.out.mono ?_
    rintro e w' ⟨rfl, rfl⟩
    go_wp2_with fail
    go_ret
    exact ⟨rfl, rfl⟩


end Go.Proofs.YtmgmgmbpldboiaaGreat
namespace Go.Proofs.YtmgmgmbpldboiaaGreat

/-- Lengths as numbers. -/
def nl (L : List Int) : List Nat := L.map Int.toNat
theorem nl_length (L : List Int) : (nl L).length = L.length := List.length_map _
theorem nl_get (L : List Int) (i : Nat) : (nl L).getD i 0 = (L.getD i 0).toNat := by
  unfold nl
  rw [List.getD_eq_getElem?_getD, List.getD_eq_getElem?_getD, List.getElem?_map]
  cases L[i]? <;> rfl
theorem sum_nl (L : List Int) : sumP (nl L) = kraftL L := by
  unfold sumP nl kraftL pw
  rw [List.map_map]
  rfl
theorem fits_of {L : List Int} (h : LenOk L) : Fits (nl L) := by
  obtain ⟨_, _, h3, h4⟩ := h
  refine ⟨fun x hx => ?_, fun x hx => ?_, by rw [sum_nl]; exact h4⟩
  · obtain ⟨y, hy, rfl⟩ := List.mem_map.1 hx
    have := h3 y hy
    omega
  · obtain ⟨y, hy, rfl⟩ := List.mem_map.1 hx
    have := h3 y hy
    omega

theorem ite_iff {α : Type} {p q : Prop} [Decidable p] [Decidable q] (h : p ↔ q) (a b : α) : (if p then a else b) = if q then a else b := by
  by_cases hq : q
  · rw [if_pos hq, if_pos (h.2 hq)]
  · rw [if_neg hq, if_neg (fun k => hq (h.1 k))]
/-- What stands in the table when lengths below n, and those of n below number i, are done. -/
def tabC (l : List Nat) (n i j : Nat) : List Nat := if l.getD j 0 < n ∨ (l.getD j 0 = n ∧ j < i) then codeB l j else []
set_option maxRecDepth 100000 in
theorem tabC_skip {l : List Nat} {n i : Nat} (h : l.getD i 0 ≠ n) (j : Nat) : tabC l n (i + 1) j = tabC l n i j := by
  unfold tabC
  by_cases e : j = i
  · subst e
    have h1 : ¬ (l.getD j 0 = n ∧ j < j + 1) := fun k => h k.1
    have h2 : ¬ (l.getD j 0 = n ∧ j < j) := fun k => h k.1
    simp only [h1, h2, or_false]
  · exact ite_iff (by omega) _ _
theorem tabC_put {l : List Nat} {n i : Nat} (h : l.getD i 0 = n) (j : Nat) : tabC l n (i + 1) j = if j = i then codeB l i else tabC l n i j := by
  unfold tabC
  by_cases e : j = i
  · subst e
    rw [if_pos rfl, if_pos (Or.inr ⟨h, by omega⟩)]
  · rw [if_neg e]
    exact ite_iff (by omega) _ _
theorem tabC_up {l : List Nat} {n i j : Nat} (h : j < i) : tabC l n i j = tabC l (n + 1) 0 j := by
  unfold tabC
  exact ite_iff (by omega) _ _
theorem tabC_none {l : List Nat} (h : Fits l) {j : Nat} (hj : j < l.length) : tabC l 1 0 j = [] := by
  unfold tabC
  have := (h.one hj).1
  rw [if_neg (by omega)]
theorem tabC_all {l : List Nat} (h : Fits l) {j : Nat} (hj : j < l.length) : tabC l 21 0 j = codeB l j := by
  unfold tabC
  have := (h.one hj).2
  rw [if_pos (by omega)]

/-- The code that is next. -/
def cd (l : List Nat) (n i : Nat) : Nat := pos n i l / pw n
theorem cd_start {l : List Nat} (h : Fits l) : cd l 1 0 = 0 := by
  unfold cd
  rw [pos_zero l h.low, Nat.zero_div]
theorem cd_put {l : List Nat} {n i : Nat} (hi : i < l.length) (h : l.getD i 0 = n) : cd l n (i + 1) = cd l n i + 1 := by
  unfold cd
  rw [pos_step n l i hi, if_pos h, Nat.add_div_right _ (pw_pos n)]
theorem cd_skip {l : List Nat} {n i : Nat} (hi : i < l.length) (h : l.getD i 0 ≠ n) : cd l n (i + 1) = cd l n i := by
  unfold cd
  rw [pos_step n l i hi, if_neg h, Nat.add_zero]
theorem cd_code {l : List Nat} {n i : Nat} (h : l.getD i 0 = n) : cd l n i = codeN l i := by
  unfold cd codeN lie
  rw [h]
theorem cd_up {l : List Nat} {n i : Nat} (hi : l.length ≤ i) (hn : n < 20) : cd l (n + 1) 0 = 2 * cd l n i := by
  unfold cd
  rw [← pos_up n l i hi]
  have h1 := pw_split (n := n) (x := n + 1) (by omega) (by omega)
  rw [show n + 1 - n = 1 by omega, Nat.pow_one] at h1
  obtain ⟨k, hk⟩ := pos_dvd n (by omega) l i
  have hp := pw_pos n
  have hp1 := pw_pos (n + 1)
  rw [hk, Nat.mul_div_cancel_left k hp, h1, Nat.mul_assoc, Nat.mul_div_cancel_left _ hp1]
theorem cd_le {l : List Nat} (h : Fits l) {n : Nat} (hn : n ≤ 20) (i : Nat) : cd l n i ≤ 1048576 := by
  unfold cd
  have h1 := pos_le l h.high hn i
  have h2 := h.sum
  exact Nat.le_trans (Nat.div_le_self _ _) (by omega)

/-- The bits of symbols, one behind the other. -/
def putB (l : List Nat) (list : List Int) : List Nat := list.flatMap fun x => codeB l x.toNat
set_option maxRecDepth 100000 in
theorem putB_snoc (l : List Nat) (a : List Int) (x : Int) : putB l (a ++ [x]) = putB l a ++ codeB l x.toNat := by
  unfold putB
  rw [List.flatMap_append]
  simp
/-- What Encode answers, as bits. -/
def putAns (L list : List Int) : List Nat × Nat := if LenOk L then (if ∀ x ∈ list, 0 ≤ x ∧ x < (L.length : Int) then (putB (nl L) list, 0) else ([], 60)) else ([], 80)
/-- So many symbols, from a bit on, behind what there is. -/
def allF (l bs : List Nat) (en : Int) : Nat → Nat → List Nat → List Nat × Nat × Nat
  | 0, at', out => (out, at', 0)
  | k + 1, at', out => match nextL l (bs.drop at') with
    | .hit i => if (i : Int) = en then (out ++ [i], at' + l.getD i 0, 0) else allF l bs en k (at' + l.getD i 0) (out ++ [i])
    | .short => ([], 0, 10)
    | .code => ([], 0, 90)
/-- What All answers. -/
def allAns (L : List Int) (bs : List Nat) (at' n en : Int) : List Nat × Nat × Nat := if LenOk L then (if at' < 0 ∨ (bs.length : Int) < at' ∨ n < 0 then ([], 0, 2) else allF (nl L) bs en n.toNat at'.toNat []) else ([], 0, 80)
theorem bit01_codeB (l : List Nat) (i : Nat) : Bit01 (codeB l i) := bit01_bitsN _ _
theorem codeB_length (l : List Nat) (i : Nat) : (codeB l i).length = l.getD i 0 := bitsN_length _ _
end Go.Proofs.YtmgmgmbpldboiaaGreat
