/- Al Am Gri: texts laid together, what is not used left out. -/
import Derived.Test.YtmgmgmbpldboiaaGreatZ48
import Derived.Test.YtmgmgmbpldboiaaGreatZ25
import Derived.Test.YtmgmgmbpldboiaaGreatZ45
import Derived.Test.YtmgmgmbpldboiaaGreatZ27
import Derived.Test.YtmgmgmbpldboiaaGreatZ41
import Derived.Test.YtmgmgmbpldboiaaGreatZ15
import Derived.Deep.RegionHeld3
namespace Go.Proofs.YtmgmgmbpldboiaaGreat
open Go.RowKit

set_option maxRecDepth 100000 in
theorem FRow.cut {w : World} {B g c N n : Nat} {f : Nat → Nat} (h : FRow w B g c N f) (hn : n ≤ N) : FRow w B g c n f := by
  unfold FRow at *
  rcases h.2 with ⟨h', _⟩ | ⟨g', cap', cur, h', hB, hgg, hnc, hm, hsz, htk⟩
  · simp at h'
  · simp only [Value.slice.injEq, Option.some.injEq, Addr.mk.injEq, and_true, true_and] at h'
    obtain ⟨rfl, rfl⟩ := h'
    refine ⟨by rw [rowF_length, Nat.mul_one], .inr ⟨g, c, cur, rfl, hB, hgg, by omega, hm, hsz, ?_⟩⟩
    rw [Nat.mul_one] at htk ⊢
    have e : cur.toList.take n = (cur.toList.take N).take n := by rw [List.take_take, Nat.min_eq_left hn]
    rw [e, htk]
    unfold rowF
    rw [← List.map_take, List.take_range, Nat.min_eq_left hn]

set_option maxHeartbeats 3200000 in
set_option maxRecDepth 100000 in
theorem depths_any (w : World) (A : Option Addr) (n c : Nat) (f : Nat → Nat) (hL : IntsIn w A n ((List.range n).map f)) (h2 : 2 ≤ n) (hn : n ≤ 258) (hf : ∀ i, i < n → 1 ≤ f i ∧ f i ≤ 1073741824) :
    Calls Tryz.prog 119 #[.slice A n c] w fun e w' => ∃ g c2 len, e = .returned (.slice (some ⟨g, 0, none⟩) n c2) ∧ HLen ((List.range n).map f) len ∧ FRow w' w.heap.size g c2 n len ∧ Below w.heap.size w w' := by
  have HJ := Lib.hid (join_any w A n c f hL h2 hn hf)
  obtain ⟨N, hN⟩ : ∃ N, N = 2 * n - 1 := ⟨_, rfl⟩
  rw [← hN] at HJ
  have HN := Lib.hid hN
  have hN3 : 3 ≤ N := by omega
  have hN5 : N ≤ 515 := by omega
  have hnN : n ≤ N := by omega
  clear hL hf hN
  go_enter Tryz.func119, Tryz.ntmps119
  go_wp2_with fail
  refine HJ.out.mono ?_
  rintro e w2 ⟨gI, ov, ws, act, len, rfl, hg, hr, hb⟩
  obtain ⟨dd, hd0, hdn, hdb, hlen, hdl⟩ := depth_fun (by rw [← HN.out]; exact hg)
  have HD0 := Lib.hid hd0
  have HDN := Lib.hid hdn
  have HDB := Lib.hid hdb
  have HLEN := Lib.hid hlen
  have HDL := Lib.hid hdl
  have HR := Lib.hid hr
  have HB := Lib.hid hb
  have hmk := make_noughts w2 N (by omega)
  have HMW := Lib.hid (made_noughts w2 w.heap.size N hb.size (by omega))
  have hgI : gI < w2.heap.size := hr.lt.2
  have hNz : (N : Int) - 2 = ((N - 2 : Nat) : Int) := by omega
  clear hg hr hb HJ hd0 hdn hdb hlen hdl
  go_wp2_with fail
  clear hmk
  have HB2 : Hid (Below w2.heap.size w2 (w2.alloc (.cells (madeCells #[.int .i64 0] N) 3))) := Lib.hid ((Below.refl _ _).alloc (Nat.le_refl _) _)
  go_loopw [5] (fun x wx => ∃ (q : Nat) (i : Int), q + 1 ≤ N ∧ i = (q : Int) - 1 ∧ x = .int .i64 i ∧ FRow wx w.heap.size w2.heap.size N N (fun j => if q ≤ j then dd j else 0) ∧ Below w2.heap.size w2 wx) (fun x _ => (intOf x + 1).toNat)
  case atStart =>
    refine ⟨N - 1, _, by omega, ?_, rfl, ?_, HB2.out⟩
    · omega
    · have h3 : (w2.alloc (.cells (madeCells #[.int .i64 0] N) 3)).ownsRow w.heap.size 3 1 (.slice (some ⟨w2.heap.size, 0, none⟩) N N) N (rowF N fun _ => 0) := HMW.out
      rw [rowF_same N (fun _ => 0) (fun j => if N - 1 ≤ j then dd j else 0) fun j hj => by
        by_cases e : N - 1 ≤ j
        · rw [if_pos e, show j = 2 * n - 2 by have := HN.out; omega, HD0.out]
        · rw [if_neg e]] at h3
      exact h3
  case round =>
    clear HMW HB2
    obtain ⟨q, i, hq, hi, rfl, hf, hbx⟩ := hrel
    rcases Nat.eq_zero_or_pos q with e0 | e0
    · subst e0
      have di : decide ((0 : Int) ≤ i) = false := decide_eq_false (by omega)
      clear hi
      have h3 : wr.ownsRow w.heap.size 3 1 (.slice (some ⟨w2.heap.size, 0, none⟩) N N) N (rowF N fun j => if 0 ≤ j then dd j else 0) := hf
      rw [rowF_same N _ dd fun j hj => if_pos (Nat.zero_le j)] at h3
      have h4 : FRow wr w.heap.size w2.heap.size N N dd := h3
      have h5 : FRow wr w.heap.size w2.heap.size N n len := by
        have h6 : wr.ownsRow w.heap.size 3 1 (.slice (some ⟨w2.heap.size, 0, none⟩) n N) n (rowF n dd) := h4.cut hnN
        rw [rowF_same n dd len fun j hj => (HDL.out j hj).symm] at h6
        exact h6
      have H5 := Lib.hid h5
      have HBE := Lib.hid (HB.out.trans (hbx.mono HB.out.size))
      have hnI : (0 : Int) ≤ (n : Int) := by omega
      have hnNI : (n : Int) ≤ (N : Int) := by omega
      clear hf hbx h3 h4 h5 HDN HDB HDL HR HD0 HB
      go_wp2_with fail
      go_ret
      exact ⟨w2.heap.size, N, len, rfl, HLEN.out, H5.out, HBE.out⟩
    · obtain ⟨r, rfl⟩ : ∃ r, q = r + 1 := ⟨q - 1, by omega⟩
      have hi2 : i = (r : Int) := by omega
      subst hi2
      have dr : decide ((0 : Int) ≤ (r : Int)) = true := decide_eq_true (by omega)
      have hrN : r < N := by omega
      have hrI : (0 : Int) ≤ (r : Int) := by omega
      have hrNI : (r : Int) < (N : Int) := by omega
      have hd := HDN.out r (by have := HN.out; omega)
      have ci := (HR.out.below hbx hgI).cell r hrN
      have hb1 := HDB.out (ov r)
      obtain ⟨o, ho⟩ : ∃ o, o = ov r := ⟨_, rfl⟩
      rw [← ho] at ci hd hb1
      have hoN : o < N := by have := HN.out; omega
      have hoI : (0 : Int) ≤ (o : Int) := by omega
      have hoNI : (o : Int) < (N : Int) := by omega
      have co := hf.cell o hoN
      rw [if_pos (by omega)] at co
      have cr := hf.cell r hrN
      have fr := hf.frozen r
      obtain ⟨v, hv⟩ : ∃ v, v = dd o := ⟨_, rfl⟩
      rw [← hv] at co hd hb1
      obtain ⟨v1, hv1⟩ : ∃ v1, v1 = v + 1 := ⟨_, rfl⟩
      have hvz : (v : Int) + 1 = (v1 : Int) := by omega
      have hvb : v1 ≤ 1000 := by omega
      have hs := hf.set r v1
      have hfn : (fun j => if j = r then v1 else if r + 1 ≤ j then dd j else 0) = fun j => if r ≤ j then dd j else 0 := by
        funext j
        by_cases ej : j = r
        · rw [if_pos ej, if_pos (by omega), ej, hd.2.2, hv1]
        · rw [if_neg ej]
          by_cases ej2 : r + 1 ≤ j
          · rw [if_pos ej2, if_pos (by omega)]
          · rw [if_neg ej2, if_neg (by omega)]
      rw [hfn] at hs
      have HS := Lib.hid hs
      have HBS := Lib.hid (hbx.setCell (p := ⟨w2.heap.size, r, none⟩) (Nat.le_refl _) (.int .i64 (v1 : Nat)))
      clear hf hbx hs hfn hd ho hv hv1 hb1 hi
      go_wp2_with fail
      go_roundw
      case rel => exact ⟨r, (r : Int) - 1, by omega, rfl, by go_num, HS.out, HBS.out⟩
      case measure => simp [intOf]

end Go.Proofs.YtmgmgmbpldboiaaGreat
namespace Go.Proofs.YtmgmgmbpldboiaaGreat
open Go.RowKit

/-- Try number t of Make; 31 - t are to come. -/
structure TryC (w wx : World) (W0 : List Nat) (n most t gA cA gX cX : Nat) (len f : Nat → Nat) : Prop where
  ht : t ≤ 31
  rowW : FRow wx w.heap.size gA cA n f
  rowL : FRow wx w.heap.size gX cX n len
  half : halves W0 t = (List.range n).map f
  hlen : HLen (halves W0 t) len
  hf : ∀ j, j < n → 1 ≤ f j ∧ f j ≤ 1073741824
  past : ∀ q, q < t → ∃ L1, HLen (halves W0 q) L1 ∧ ∃ i, i < n ∧ most < L1 i
  below : Below w.heap.size w wx

theorem zin_frow {w : World} {B g c n : Nat} {f : Nat → Nat} (h : FRow w B g c n f) : ZIn w (some ⟨g, 0, none⟩) n (((List.range n).map f).map fun (x : Nat) => (x : Int)) := zin_of h.ints
theorem getD_cast (n : Nat) (f : Nat → Nat) (i : Nat) (h : i < n) : (((List.range n).map f).map fun (x : Nat) => (x : Int)).getD i 0 = (f i : Int) := by
  rw [List.getD_eq_getElem?_getD, List.getElem?_map, List.getElem?_map, List.getElem?_range h]
  rfl

set_option maxHeartbeats 3200000 in
set_option maxRecDepth 100000 in
theorem cmake_any (w : World) (A : Option Addr) (n c : Nat) (L : List Int) (most : Nat) (hL : ZIn w A n L) (hM : MayW L) (h12 : 12 ≤ most) (h20 : most ≤ 20) : Calls Tryz.prog 76 #[.slice A n c, .int .i64 most] w (MakePost w L most) := by
  have hln := hL.1
  have h2n : 2 ≤ n := by have := hM.1; omega
  have hn : n ≤ 258 := by have := hM.2.1; omega
  have HM := Lib.hid (mayBe_any w A n c L hL (by unfold maxLen; omega))
  rw [show decide (MayW L) = true from decide_eq_true hM] at HM
  have HC := Lib.hid (counted_any w A n c L hL (fun x hx => (hM.2.2 x hx).1) (by omega) (by omega))
  obtain ⟨f0, hf0⟩ : ∃ f0, f0 = oneF L := ⟨_, rfl⟩
  rw [← hf0] at HC
  have hfb : ∀ j, j < n → 1 ≤ f0 j ∧ f0 j ≤ 1073741824 := by
    intro j hj
    rw [hf0]
    have := (hM.2.2 _ (getD_mem_int L j (by omega))).2
    unfold oneF
    omega
  have hW0 : oneL L = (List.range n).map f0 := by
    unfold oneL
    rw [hln, hf0]
  have hP : Hid (∀ (v : Value) (len : Nat → Nat) w', MakeR (oneL L) most len → w'.ownsRow w.heap.size 3 1 v n (rowF n len) → Below w.heap.size w w' → MakePost w L most (.returned (.tuple #[v, .int .i64 0])) w') := Lib.hid fun v len w' h1 h2 h3 =>
    .inr ⟨hM, by omega, by omega, v, len, by rw [Int.toNat_natCast]; exact h1, rfl, by rw [hln]; exact h2, h3⟩
  have m1 : decide ((most : Int) < 12) = false := decide_eq_false (by omega)
  have m2 : decide ((20 : Int) < (most : Int)) = false := decide_eq_false (by omega)
  have HFB := Lib.hid hfb
  have HW0 := Lib.hid hW0
  have HDE := Lib.hid fun (w1 : World) (B g c1 : Nat) (f : Nat → Nat) (h : FRow w1 B g c1 n f) (hf : ∀ i, i < n → 1 ≤ f i ∧ f i ≤ 1073741824) => depths_any w1 (some ⟨g, 0, none⟩) n c1 f h.ints h2n hn hf
  have HMX := Lib.hid fun (w1 : World) (B g c1 : Nat) (f : Nat → Nat) (h : FRow w1 B g c1 n f) => max_any w1 (some ⟨g, 0, none⟩) n c1 _ (zin_frow h) (by omega) (by unfold maxLen; omega)
  have HHA := Lib.hid fun (w1 : World) (B g c1 : Nat) (f : Nat → Nat) (h : FRow w1 B g c1 n f) (hf : ∀ j, j < n → f j ≤ 1073741824) => halve_any w1 B g c1 n f h hf (by omega)
  have HWL : Hid ((oneL L).length = n ∧ ∀ x ∈ oneL L, x ≤ 2 ^ 30) := Lib.hid (by
    rw [hW0]
    refine ⟨by simp, fun x hx => ?_⟩
    obtain ⟨j, hj, rfl⟩ := List.mem_map.1 hx
    have := hfb j (List.mem_range.1 hj)
    have e30 : (2 : Nat) ^ 30 = 1073741824 := by decide
    omega)
  generalize MakePost w L most = PO at *
  generalize oneL L = W0 at *
  clear hL hln hM hf0 hfb hW0
  go_enter Tryz.func76, Tryz.ntmps76
  go_wp2_with fail
  refine HM.out.mono ?_
  rintro e w ⟨rfl, rfl⟩
  clear HM
  go_wp2_with fail
  refine HC.out.mono ?_
  rintro e w1 ⟨gA, cA, rfl, hfA, hb1⟩
  have HD1 := Lib.hid (HDE.out w1 w.heap.size gA cA f0 hfA HFB.out)
  have HFA := Lib.hid hfA
  have HB1 := Lib.hid hb1
  clear hfA hb1 HC
  go_wp2_with fail
  refine HD1.out.mono ?_
  rintro e w2 ⟨gX, cX, len, rfl, hlen, hfX, hb2⟩
  have HTRY : Hid (TryC w w2 W0 n most 0 gA cA gX cX len f0) := Lib.hid
    ⟨by omega, HFA.out.below hb2 HFA.out.lt.2, hfX.lower HB1.out.size, HW0.out, by rw [show halves W0 0 = W0 from rfl, HW0.out]; exact hlen, HFB.out, (fun q hq => by omega), HB1.out.trans (hb2.mono HB1.out.size)⟩
  clear hlen hfX hb2 HD1 HFA HB1 HFB HW0
  go_wp2_with fail
  go_loopg [6] 31 (fun g v wx => ∃ (t gY cY : Nat) (len f : Nat → Nat), t + g = 31 ∧ v = .slice (some ⟨gY, 0, none⟩) n cY ∧ TryC w wx W0 n most t gA cA gY cY len f)
  case atStart => exact ⟨0, gX, cX, len, f0, rfl, rfl, HTRY.out⟩
  case round =>
    clear HTRY
    obtain ⟨t, gY, cY, len, f, htg, rfl, T⟩ := hrel
    have HG := Lib.hid (HMX.out wr w.heap.size gY cY len T.rowL)
    have HT := Lib.hid T
    clear T
    go_wp2_with fail
    refine HG.out.mono ?_
    rintro e w7 ⟨g, rfl, hmax, rfl⟩
    have hmx : (∀ j, j < n → (len j : Int) ≤ g) ∧ ∃ j, j < n ∧ (len j : Int) = g := by
      refine ⟨fun j hj => ?_, ?_⟩
      · have h3 := hmax.1 j hj
        rwa [getD_cast n len j hj] at h3
      · obtain ⟨j, hj, h⟩ := hmax.2
        rw [getD_cast n len j hj] at h
        exact ⟨j, hj, h⟩
    have HMAX := Lib.hid hmx
    clear hmax hmx HG
    by_cases e2 : (most : Int) < g
    · have dg : decide ((most : Int) < g) = true := decide_eq_true e2
      obtain ⟨jm, hjm, hjg⟩ := HMAX.out.2
      have ht30 : t < 31 := by
        rcases Nat.lt_or_ge t 31 with h | h
        · exact h
        · have := halves_done HWL.out.2 (by rw [HWL.out.1]; exact hn) t h HT.out.hlen jm (by rw [HWL.out.1]; exact hjm)
          omega
      have HH := Lib.hid (HHA.out w7 w.heap.size gA cA f HT.out.rowW fun j hj => (HT.out.hf j hj).2)
      have HJM : Hid (∃ i, i < n ∧ most < len i) := Lib.hid ⟨jm, hjm, by omega⟩
      clear hjg
      go_wp2_with fail
      refine HH.out.mono ?_
      rintro e w8 ⟨rfl, hr8, hb8⟩
      have hf8 : ∀ i, i < n → 1 ≤ f i / 2 + 1 ∧ f i / 2 + 1 ≤ 1073741824 := fun i hi => by
        have := HT.out.hf i hi
        omega
      have HD2 := Lib.hid (HDE.out w8 w.heap.size gA cA (fun j => f j / 2 + 1) hr8 hf8)
      have HR8 := Lib.hid hr8
      have HB8 := Lib.hid hb8
      have HF8 := Lib.hid hf8
      clear hr8 hb8 hf8 HH
      go_wp2_with fail
      refine HD2.out.mono ?_
      rintro e w9 ⟨gZ, cZ, len2, rfl, hlen2, hfZ, hb9⟩
      have hhal1 : halves W0 (t + 1) = (List.range n).map fun a => f a / 2 + 1 := by rw [halves, HT.out.half, half_range]
      have hz8 : w.heap.size ≤ w8.heap.size := (HT.out.below.trans HB8.out).size
      have HTRY : Hid (TryC w w9 W0 n most (t + 1) gA cA gZ cZ len2 (fun j => f j / 2 + 1)) := Lib.hid
        ⟨by omega, HR8.out.below hb9 HR8.out.lt.2, hfZ.lower hz8, hhal1, by rw [hhal1]; exact hlen2, HF8.out, (fun q hq => by
          by_cases eq : q = t
          · subst eq
            exact ⟨len, HT.out.hlen, HJM.out⟩
          · exact HT.out.past q (by omega)), (HT.out.below.trans HB8.out).trans (hb9.mono hz8)⟩
      clear hlen2 hfZ hb9 hhal1 HD2 HR8 HB8 HF8
      go_wp2_with fail
      go_roundg (gk - 1)
      case measure => omega
      case rel => exact ⟨t + 1, gZ, cZ, len2, _, by omega, by go_num, HTRY.out⟩
    · have dg : decide ((most : Int) < g) = false := decide_eq_false e2
      have hm : MakeR (halves W0 t) most len := .done HT.out.hlen (by
        rw [halves_length, HWL.out.1]
        intro i hi
        have := HMAX.out.1 i hi
        omega)
      have hm2 := makeR_back (w := W0) t (fun q hq2 => by rw [HWL.out.1]; exact HT.out.past q hq2) hm
      have HDONE := Lib.hid (hP.out _ len w7 hm2 HT.out.rowL HT.out.below)
      clear hm hm2 HT HMAX hP
      go_wp2_with fail
      exact HDONE.out

end Go.Proofs.YtmgmgmbpldboiaaGreat
namespace Go.Proofs.YtmgmgmbpldboiaaGreat
open Go.RowKit

/-- How often a symbol stands in the first k groups that picked table t. -/
def cgN (L P : List Nat) (t s : Nat) : Nat → Nat
  | 0 => 0
  | k + 1 => cgN L P t s k + if P.getD k 0 = t then (partG L k).count s else 0
set_option maxRecDepth 100000 in
theorem countQ_group (L P : List Nat) (t s k : Nat) : ∀ m, m ≤ 50 → 50 * k + m ≤ L.length → countQ L P t s (50 * k + m) = countQ L P t s (50 * k) + if P.getD k 0 = t then ((L.drop (50 * k)).take m).count s else 0
  | 0, _, _ => by simp
  | m + 1, hm, hl => by
    rw [← Nat.add_assoc, countQ_next, countQ_group L P t s k m (by omega) (by omega), show (50 * k + m) / 50 = k by omega]
    have e : (L.drop (50 * k)).take (m + 1) = (L.drop (50 * k)).take m ++ [L.getD (50 * k + m) 0] := by
      rw [List.take_succ_eq_append_getElem (by rw [List.length_drop]; omega), List.getElem_drop, List.getD_eq_getElem?_getD, List.getElem?_eq_getElem (by omega)]
      rfl
    rw [e, List.count_append, List.count_singleton]
    by_cases h1 : P.getD k 0 = t
    · simp only [h1, if_true, true_and, beq_iff_eq]
      omega
    · simp only [h1, if_false, false_and]
set_option maxRecDepth 100000 in
theorem cgN_count (L P : List Nat) (t s : Nat) : ∀ k, cgN L P t s k = countQ L P t s (min (50 * k) L.length)
  | 0 => by simp [cgN, countQ]
  | k + 1 => by
    rw [cgN, cgN_count L P t s k]
    by_cases h : 50 * k ≤ L.length
    · rw [Nat.min_eq_left h]
      obtain ⟨m, hm⟩ : ∃ m, m = min 50 (L.length - 50 * k) := ⟨_, rfl⟩
      have h2 := countQ_group L P t s k m (by omega) (by omega)
      rw [show min (50 * (k + 1)) L.length = 50 * k + m by omega, h2]
      have e : partG L k = (L.drop (50 * k)).take m := by
        unfold partG
        by_cases e : m = 50
        · rw [e]
        · rw [List.take_of_length_le (by rw [List.length_drop]; omega), List.take_of_length_le (by rw [List.length_drop]; omega)]
      rw [e]
    · rw [Nat.min_eq_right (by omega), Nat.min_eq_right (by omega)]
      have e : partG L k = [] := by
        unfold partG
        rw [List.drop_eq_nil_of_le (by omega)]
        rfl
      rw [e]
      simp
theorem cgN_le (L P : List Nat) (t s k : Nat) : cgN L P t s k ≤ L.length := by
  rw [cgN_count]
  exact Nat.le_trans (countQ_le L P t s _) (Nat.min_le_right _ _)
theorem cgN_all (L P : List Nat) (t s : Nat) : cgN L P t s (groupsN L.length) = countF L P t s := by
  rw [cgN_count, Nat.min_eq_right (by unfold groupsN; omega)]
  rfl
set_option maxHeartbeats 6400000 in
set_option maxRecDepth 100000 in
theorem cfitall_any (w : World) (A : Option Addr) (n c : Nat) (L : List Nat) (hL : IntsIn w A n L) (hnc : n ≤ c) (hn : n ≤ 2000000) (h1n : 1 ≤ n) (B : Option Addr) (G d : Nat) (P : List Nat) (hP : IntsIn w B G P) (hG : G = groupsN n)
    (T m : Nat) (hT1 : 1 ≤ T) (hT6 : T ≤ 6) (hm3 : 3 ≤ m) (hm : m ≤ 258) (hLm : ∀ x ∈ L, x < m) (hPT : ∀ x ∈ P, x < T) :
    Calls Tryz.prog 34 #[.slice B G d, .slice A n c, .int .i64 T, .int .i64 m] w fun e w' => ∃ g, e = .returned (.slice (some ⟨g, 0, none⟩) T T) ∧ TabW w' w.heap.size g T (fun t => makeG (countsG L P t m)) ∧ Below w.heap.size w w' := by
  have hln := hL.1
  have hlp := hP.1
  have hGn : G ≤ 40001 ∧ n ≤ 50 * G ∧ 50 * G < n + 50 := by rw [hG]; unfold groupsN; omega
  have hmk := make_tab w T (by omega)
  have HT0 := Lib.hid (tabD_new w w.heap.size T m (Nat.le_refl _) (by omega) (fun _ => 0) (fun _ _ => 0))
  have HB0 : Hid (Below w.heap.size w (w.alloc (.cells (madeCells #[.slice none 0 0] T) 22))) := Lib.hid ((Below.refl _ _).alloc (Nat.le_refl _) _)
  have HLW := Lib.hid hL
  have HL := Lib.hid fun (w1 : World) (hb : Below w.heap.size w w1) => ints_low hL hb
  have HP := Lib.hid fun (w1 : World) (hb : Below w.heap.size w w1) => ints_low hP hb
  have HLM := Lib.hid hLm
  have HPT := Lib.hid hPT
  have HLN := Lib.hid hln
  have HLP := Lib.hid hlp
  have HG := Lib.hid hG
  clear hL hP hLm hPT hln hlp hG
  go_enter Tryz.func34, Tryz.ntmps34
  go_wp2_with fail
  clear hmk
  go_loopw [10, 20] (fun s10 tv wx => ∃ (t : Nat) (R : Nat → Nat), t ≤ T ∧ tv = .int .i64 t ∧ TabD wx w.heap.size w.heap.size T m t R (fun _ _ => 0) ∧ Below w.heap.size w wx) (fun _ tv _ => T - (intOf tv).toNat)
  case atStart => exact ⟨0, fun _ => 0, Nat.zero_le _, rfl, HT0.out, HB0.out⟩
  case round =>
    clear HT0 HB0
    rename World => w1
    obtain ⟨t, R, ht, rfl, hD, hb⟩ := hrel
    by_cases e : t < T
    · have dt : decide ((t : Int) < (T : Int)) = true := decide_eq_true (by omega)
      have htI : (0 : Int) ≤ (t : Int) := by omega
      have htT : (t : Int) < (T : Int) := by omega
      have hlt := hD.lt
      have hmk := make_noughts w1 m (by omega)
      have hrow := made_noughts w1 w1.heap.size m (Nat.le_refl _) (by omega)
      have hb2 : Below w1.heap.size w1 (w1.alloc (.cells (madeCells #[.int .i64 0] m) 3)) := (Below.refl _ _).alloc (Nat.le_refl _) _
      have hp := hD.push hb2 (by omega) hrow (Nat.le_refl _)
      have hfz : (w1.alloc (.cells (madeCells #[.int .i64 0] m) 3)).frozen? ⟨w.heap.size, t, none⟩ = false := (hD.step (step_of_below hb2)).frozen t
      have hce : ∃ v, (w1.alloc (.cells (madeCells #[.int .i64 0] m) 3)).cell? ⟨w.heap.size, t, none⟩ = some v := by
        have := World.ownsRow.cellAt (hD.step (step_of_below hb2)).own t (by omega)
        rw [List.getElem?_map, List.getElem?_range e] at this
        exact ⟨_, this⟩
      obtain ⟨v, hce⟩ := hce
      have hbw := (hb.trans (hb2.mono hb.size)).setCell (p := ⟨w.heap.size, t, none⟩) (Nat.le_refl _) (.slice (some ⟨w1.heap.size, 0, none⟩) m m)
      rw [World.setCell_alloc_past _ _ _ _ hlt.2] at hp hbw
      have HPP := Lib.hid (hp.same (D := fun _ _ => 0) fun j _ => by
        by_cases ej : j = t
        · rw [if_pos ej]
        · rw [if_neg ej])
      have HBW := Lib.hid hbw
      clear hp hbw hrow hb2 hD hb
      go_wp2_with fail
      go_roundw
      case rel => exact ⟨t + 1, _, by omega, by go_num, HPP.out, HBW.out⟩
      case measure => simp [intOf]; omega
    · obtain rfl : T = t := by omega
      have dt : decide ((T : Int) < (T : Int)) = false := decide_eq_false (by omega)
      have HD := Lib.hid hD
      have HB := Lib.hid hb
      have hlt := hD.lt
      clear hD hb
      go_wp2_with fail
      go_loopw [11, 12, 31] (fun s11 s12 kv wx => ∃ k : Nat, k ≤ G ∧ kv = .int .i64 k ∧ TabD wx w.heap.size w.heap.size T m T R (fun t s => cgN L P t s k) ∧ Below w.heap.size w wx) (fun _ _ kv _ => G - (intOf kv).toNat)
      case atStart => exact ⟨0, Nat.zero_le _, rfl, HD.out, HB.out⟩
      case round =>
        clear HD HB hlt
        rename World => w3
        obtain ⟨k, hk, rfl, hD, hb⟩ := hrel
        by_cases e4 : k < G
        · have dk : decide ((k : Int) < (G : Int)) = true := decide_eq_true (by omega)
          have hkI : (0 : Int) ≤ (k : Int) := by omega
          have hkG : (k : Int) < (G : Int) := by omega
          have hpw := HP.out w3 hb
          obtain ⟨pb, po, rfl, hpc⟩ := hpw.2 (by omega)
          have hpk := hpc k e4
          obtain ⟨y, hy⟩ : ∃ y, y = P.getD k 0 := ⟨_, rfl⟩
          have hyT : y < T := by
            rw [hy]
            refine HPT.out _ ?_
            rw [List.getD_eq_getElem?_getD, List.getElem?_eq_getElem (by rw [HLP.out]; exact e4)]
            exact List.getElem_mem _
          rw [← hy] at hpk
          have hyI : (0 : Int) ≤ (y : Int) := by omega
          have hyTI : (y : Int) < (T : Int) := by omega
          have c1 := hD.cell y hyT hyT
          have hDd := hD.step ((Step.refl w.heap.size [] [] w3).drew)
          have hrow := hDd.rows y hyT
          have hgy : w.heap.size ≤ R y := hrow.lt.1
          have hAb : ∀ a, A = some a → a.block < w.heap.size := fun a ha => by
            obtain ⟨b, off, he, hc⟩ := HLW.out.2 (by omega)
            rw [he] at ha
            cases ha
            exact World.block_lt_of_cell? w _ (hc 0 (by omega))
          have hbd : Below w.heap.size w w3.drew := hb.drew
          have HPART := Lib.hid (cpartN_any w3.drew A n c L k (HL.out w3.drew hbd) hnc hn (by omega))
          have HADD := Lib.hid fun (A2 : Option Addr) (c2 : Nat) (hG2 : IntsIn w3.drew A2 (partG L k).length (partG L k)) (hA2 : ∀ a, A2 = some a → ∃ a0, A = some a0 ∧ a.block = a0.block) => cadd_any w.heap.size w3.drew (R y) m m _ hrow A2 (partG L k).length c2 (partG L k) hG2
            (fun a ha => by
              obtain ⟨a0, h0, h1⟩ := hA2 a ha
              have := hAb a0 h0
              omega) (by rw [partG_length]; omega) (fun x hx => HLM.out x (List.mem_of_mem_drop (List.mem_of_mem_take hx))) (fun s _ => by
              have := cgN_le L P y s k
              have := HLN.out
              omega)
          obtain ⟨gy, hgyy⟩ : ∃ gy, gy = R y := ⟨_, rfl⟩
          rw [← hgyy] at c1 HADD
          have HD := Lib.hid hDd
          have HB := Lib.hid hbd
          have HY := Lib.hid hy
          have HGY := Lib.hid hgyy
          clear hpw hpc hy hDd hrow hgy hAb hbd hgyy hD hb
          go_wp2_with fail
          go_upto_region 10 with fail
          go_region_held3 (fun w' => w'.cell? ⟨w.heap.size, y, none⟩ = some (.slice (some ⟨gy, 0, none⟩) m m)) (first | exact c1 | exact hc8 | go_keep)
            (first
              | (go_at_call 60; refine HPART.out.mono ?_; rintro e w7 ⟨A2, c2, rfl, hi2, hc2, hbk, rfl⟩; have HI2 := Lib.hid hi2; have HBK := Lib.hid hbk)
              | (go_at_call 43; refine (HADD.out A2 c2 HI2.out HBK.out).mono ?_; rintro e w8 ⟨rfl, hf8, hs8⟩; have hc8 : w8.cell? ⟨w.heap.size, y, none⟩ = some (.slice (some ⟨gy, 0, none⟩) m m) := (HD.out.upd hyT (by rw [← HGY.out]; exact hf8) (by rw [← HGY.out]; exact hs8)).cell y hyT hyT |>.trans (by rw [← HGY.out])))
          rw [HGY.out] at hf8 hs8
          have hupd := HD.out.upd hyT hf8 hs8
          have HU := Lib.hid (hupd.same (D := fun t s => cgN L P t s (k + 1)) fun j hj => by
            by_cases ej : j = y
            · rw [if_pos ej, ej]
              funext s
              rw [cgN, ← HY.out, if_pos rfl]
            · rw [if_neg ej]
              funext s
              rw [cgN, ← HY.out, if_neg fun h => ej h.symm, Nat.add_zero])
          have HB8 := Lib.hid (HB.out.trans hs8.below)
          clear hupd hf8 hs8 HD HB HPART HADD
          go_wp2_with fail
          go_roundw
          case rel => exact ⟨k + 1, by omega, by go_num, HU.out, HB8.out⟩
          case measure => simp [intOf]; omega
        · obtain rfl : G = k := by omega
          have dk : decide ((G : Int) < (G : Int)) = false := decide_eq_false (by omega)
          have hD5 := hD.same (D := fun t s => countF L P t s) fun j _ => by
            funext s
            rw [← cgN_all, HLN.out, ← HG.out]
          have hmk := make_tab w3 T (by omega)
          have hz3 : w.heap.size ≤ w3.heap.size := hb.size
          have hlt := hD5.lt
          have HX : Hid (TabX (w3.alloc (.cells (madeCells #[.slice none 0 0] T) 22)) w3.heap.size w3.heap.size T (fun _ => []) w.heap.size) := Lib.hid
            ⟨fun _ => .slice none 0 0, (tabF_new w3 w3.heap.size T (Nat.le_refl _) (by omega)).own, fun j _ => ⟨none, 0, rfl, Nat.le_refl _, World.ownsRow_nil _ _ _ _, by simp [Value.ownBlock]⟩⟩
          have HB5 : Hid (Below w3.heap.size w3 (w3.alloc (.cells (madeCells #[.slice none 0 0] T) 22))) := Lib.hid ((Below.refl _ _).alloc (Nat.le_refl _) _)
          have HD := Lib.hid hD5
          have HB := Lib.hid hb
          clear hD hD5 hb
          go_wp2_with fail
          clear hmk
          go_loopw [14, 15, 49] (fun s14 s15 tv wx => ∃ t : Nat, t ≤ T ∧ tv = .int .i64 t ∧ TabX wx w3.heap.size w3.heap.size T (fun j => if j < t then makeG (countsG L P j m) else []) w.heap.size ∧ Below w3.heap.size w3 wx) (fun _ _ tv _ => T - (intOf tv).toNat)
          case atStart =>
            refine ⟨0, Nat.zero_le _, rfl, HX.out.same fun j _ => ?_, HB5.out⟩
            rw [if_neg (by omega)]
          case round =>
            clear HX HB5
            rename World => w7
            obtain ⟨t, ht2, rfl, hX, hb7⟩ := hrel
            by_cases e5 : t < T
            · have dt2 : decide ((t : Int) < (T : Int)) = true := decide_eq_true (by omega)
              have htI : (0 : Int) ≤ (t : Int) := by omega
              have htT : (t : Int) < (T : Int) := by omega
              have hD7 := HD.out.step (step_of_below hb7)
              have c1 := hD7.cell t e5 e5
              have hrow := hD7.rows t e5
              have hz := zin_of hrow.ints
              have hcb : ∀ s, countF L P t s ≤ 2000000 := fun s => by
                have := countQ_le L P t s L.length
                unfold countF
                have := HLN.out
                omega
              have hMay : MayW (((List.range m).map (countF L P t)).map fun (x : Nat) => (x : Int)) := by
                refine ⟨by simp; omega, by simp; omega, fun x hx => ?_⟩
                obtain ⟨y, hy, rfl⟩ := List.mem_map.1 hx
                obtain ⟨s, _, rfl⟩ := List.mem_map.1 hy
                have := hcb s
                omega
              have HMK := Lib.hid (cmake_any w7 (some ⟨R t, 0, none⟩) m m _ 17 hz hMay (by omega) (by omega))
              have HX := Lib.hid hX
              have HB7 := Lib.hid hb7
              have HMAY := Lib.hid hMay
              obtain ⟨gt, hgt⟩ : ∃ gt, gt = R t := ⟨_, rfl⟩
              rw [← hgt] at c1 HMK
              clear hD7 hrow hz hcb hMay hX hb7 hgt
              go_wp2_with fail
              refine HMK.out.mono ?_
              intro e w9 hmp
              rcases hmp with ⟨hno, _⟩ | ⟨_, _, _, v, len, hR, rfl, hown, hb9⟩
              · exact absurd HMAY.out (hno.resolve_right (by omega))
              · obtain ⟨A9, c9, rfl, hc9, _, hA9⟩ := own_slice hown
                have hWl : (((List.range m).map (countF L P t)).map fun (x : Nat) => (x : Int)).length = m := by simp
                rw [hWl] at hown hc9 hA9 ⊢
                rw [oneW_cast, show ((17 : Nat) : Int).toNat = 17 from rfl] at hR
                have hlen := makeF_is hR
                have hmg : makeG (countsG L P t m) = (List.range m).map len := by
                  unfold makeG countsG
                  rw [hlen, List.length_map, List.length_range]
                have hrow : w9.ownsRow w7.heap.size 3 1 (.slice A9 m c9) m ((makeG (countsG L P t m)).map iv) := by
                  rw [hmg, List.map_map]
                  exact hown
                have hml : (makeG (countsG L P t m)).length = m := by rw [hmg]; simp
                have hz7 : w3.heap.size ≤ w7.heap.size := HB7.out.size
                have hX9 := HX.out.step (step_of_below hb9)
                have hset := hX9.set (i := t) (A := A9) (k := c9) (L := makeG (countsG L P t m)) (by rw [hml]; exact World.ownsRow.mono hrow hz7) (by omega) (by
                  intro e
                  have := (World.ownsRow.lt hrow w.heap.size (by rw [hml] at e; exact e)).1
                  omega)
                rw [hml] at hset
                have hfn : (fun j => if j = t then makeG (countsG L P t m) else if j < t then makeG (countsG L P j m) else []) = fun j => if j < t + 1 then makeG (countsG L P j m) else [] := by
                  funext j
                  by_cases ej : j = t
                  · rw [if_pos ej, if_pos (by omega), ej]
                  · rw [if_neg ej]
                    by_cases ej2 : j < t
                    · rw [if_pos ej2, if_pos (by omega)]
                    · rw [if_neg ej2, if_neg (by omega)]
                rw [hfn] at hset
                obtain ⟨u9, hu9⟩ := hX9.tabW.there t e5
                have fz9 := hX9.tabW.frozen t
                have HS9 := Lib.hid hset
                have HB9 := Lib.hid ((HB7.out.trans (hb9.mono hz7)).setCell (p := ⟨w3.heap.size, t, none⟩) (Nat.le_refl _) (.slice A9 m c9))
                clear hR hown hb9 hlen hmg hrow hX9 hset hfn hA9 HMK HMAY HX HB7
                go_wp2_with fail
                go_roundw
                case rel => exact ⟨t + 1, by omega, by go_num, HS9.out, HB9.out⟩
                case measure => simp [intOf]; omega
            · obtain rfl : T = t := by omega
              have dt2 : decide ((T : Int) < (T : Int)) = false := decide_eq_false (by omega)
              have HW : Hid (TabW w7 w.heap.size w3.heap.size T (fun j => makeG (countsG L P j m))) := Lib.hid ((hX.same fun j hj => if_pos hj).tabW.mono hz3)
              have HB7 := Lib.hid (HB.out.trans (hb7.mono hz3))
              clear hX hb7
              go_wp2_with fail
              go_ret
              exact ⟨_, rfl, HW.out, HB7.out⟩

end Go.Proofs.YtmgmgmbpldboiaaGreat
