/- lengths.Make. Conditions: as each says. -/
import Derived.Test.YtgnlpbnodijkgaaAl
import Derived.Test.YtgnlpbnodijkgaaAc
namespace Go.Proofs.Ytgnlpbnodijkgaa
open Go.RowKit

set_option maxRecDepth 100000 in
theorem cmake_out (w : World) (A : Option Addr) (n c : Nat) (L : List Int) (most : Int) (hL : ZIn w A n L) (hn : n ≤ maxLen) (h : ¬ MayW L ∨ most < 12 ∨ 20 < most) : Calls Try.prog 22 #[.slice A n c, .int .i64 most] w (MakePost w L most) := by
  have F : Hid (MakePost w L most (.returned (.tuple #[.slice none 0 0, .int .i64 2])) w) := Lib.hid (.inl ⟨h, _, rfl, World.ownsRow_nil _ _ _ _, Below.refl _ _⟩)
  have HM := Lib.hid (mayBe_any w A n c L hL hn)
  generalize MakePost w L most = PO at *
  clear hL
  by_cases h1 : MayW L
  · rw [show decide (MayW L) = true from decide_eq_true h1] at HM
    by_cases h2 : most < 12
    · have d1 : decide (most < 12) = true := decide_eq_true h2
      clear h
      go_enter Try.func22, Try.ntmps22
      go_wp2_with fail
      refine HM.out.mono ?_
      rintro e w' ⟨rfl, rfl⟩
      go_wp2_with fail
      exact F.out
    · have d1 : decide (most < 12) = false := decide_eq_false h2
      have h3 : 20 < most := (h.resolve_left (fun k => k h1)).resolve_left h2
      have d2 : decide (20 < most) = true := decide_eq_true h3
      clear h
      go_enter Try.func22, Try.ntmps22
      go_wp2_with fail
      refine HM.out.mono ?_
      rintro e w' ⟨rfl, rfl⟩
      go_wp2_with fail
      exact F.out
  · rw [show decide (MayW L) = false from decide_eq_false h1] at HM
    clear h
    go_enter Try.func22, Try.ntmps22
    go_wp2_with fail
    refine HM.out.mono ?_
    rintro e w' ⟨rfl, rfl⟩
    go_wp2_with fail
    exact F.out

/-- Try number t of Make; 31 - t are to come. -/
structure TryC (w wx : World) (W0 : List Nat) (n most t gA cA gX cX : Nat) (len f : Nat → Nat) : Prop where
  ht : t ≤ 31
  rowW : FRow wx w.heap.size gA cA n f
  rowL : FRow wx w.heap.size gX cX n len
  half : halves W0 t = (List.range n).map f
  hlen : HLen (halves W0 t) len
  hf : ∀ j, j < n → 1 ≤ f j ∧ f j ≤ 1073741824
  past : ∀ q, q < t → ∃ L1, HLen (halves W0 q) L1 ∧ ∃ i, i < n ∧ most < L1 i
  below : Below w.heap.size w wx

theorem zin_frow {w : World} {B g c n : Nat} {f : Nat → Nat} (h : FRow w B g c n f) : ZIn w (some ⟨g, 0, none⟩) n (((List.range n).map f).map fun (x : Nat) => (x : Int)) := zin_of h.ints
theorem getD_cast (n : Nat) (f : Nat → Nat) (i : Nat) (h : i < n) : (((List.range n).map f).map fun (x : Nat) => (x : Int)).getD i 0 = (f i : Int) := by
  rw [List.getD_eq_getElem?_getD, List.getElem?_map, List.getElem?_map, List.getElem?_range h]
  rfl

set_option maxHeartbeats 3200000 in
set_option maxRecDepth 100000 in
theorem cmake_any (w : World) (A : Option Addr) (n c : Nat) (L : List Int) (most : Nat) (hL : ZIn w A n L) (hM : MayW L) (h12 : 12 ≤ most) (h20 : most ≤ 20) : Calls Try.prog 22 #[.slice A n c, .int .i64 most] w (MakePost w L most) := by
  have hln := hL.1
  have h2n : 2 ≤ n := by have := hM.1; omega
  have hn : n ≤ 258 := by have := hM.2.1; omega
  have HM := Lib.hid (mayBe_any w A n c L hL (by unfold maxLen; omega))
  rw [show decide (MayW L) = true from decide_eq_true hM] at HM
  have HC := Lib.hid (counted_any w A n c L hL (fun x hx => (hM.2.2 x hx).1) (by omega) (by omega))
  obtain ⟨f0, hf0⟩ : ∃ f0, f0 = oneF L := ⟨_, rfl⟩
  rw [← hf0] at HC
  have hfb : ∀ j, j < n → 1 ≤ f0 j ∧ f0 j ≤ 1073741824 := by
    intro j hj
    rw [hf0]
    have := (hM.2.2 _ (getD_mem_int L j (by omega))).2
    unfold oneF
    omega
  have hW0 : oneL L = (List.range n).map f0 := by
    unfold oneL
    rw [hln, hf0]
  have hP : Hid (∀ (v : Value) (len : Nat → Nat) w', MakeR (oneL L) most len → w'.ownsRow w.heap.size 3 1 v n (rowF n len) → Below w.heap.size w w' → MakePost w L most (.returned (.tuple #[v, .int .i64 0])) w') := Lib.hid fun v len w' h1 h2 h3 =>
    .inr ⟨hM, by omega, by omega, v, len, by rw [Int.toNat_natCast]; exact h1, rfl, by rw [hln]; exact h2, h3⟩
  have m1 : decide ((most : Int) < 12) = false := decide_eq_false (by omega)
  have m2 : decide ((20 : Int) < (most : Int)) = false := decide_eq_false (by omega)
  have HFB := Lib.hid hfb
  have HW0 := Lib.hid hW0
  have HDE := Lib.hid fun (w1 : World) (B g c1 : Nat) (f : Nat → Nat) (h : FRow w1 B g c1 n f) (hf : ∀ i, i < n → 1 ≤ f i ∧ f i ≤ 1073741824) => depths_any w1 (some ⟨g, 0, none⟩) n c1 f h.ints h2n hn hf
  have HMX := Lib.hid fun (w1 : World) (B g c1 : Nat) (f : Nat → Nat) (h : FRow w1 B g c1 n f) => max_any w1 (some ⟨g, 0, none⟩) n c1 _ (zin_frow h) (by omega) (by unfold maxLen; omega)
  have HHA := Lib.hid fun (w1 : World) (B g c1 : Nat) (f : Nat → Nat) (h : FRow w1 B g c1 n f) (hf : ∀ j, j < n → f j ≤ 1073741824) => halve_any w1 B g c1 n f h hf (by omega)
  have HWL : Hid ((oneL L).length = n ∧ ∀ x ∈ oneL L, x ≤ 2 ^ 30) := Lib.hid (by
    rw [hW0]
    refine ⟨by simp, fun x hx => ?_⟩
    obtain ⟨j, hj, rfl⟩ := List.mem_map.1 hx
    have := hfb j (List.mem_range.1 hj)
    have e30 : (2 : Nat) ^ 30 = 1073741824 := by decide
    omega)
  generalize MakePost w L most = PO at *
  generalize oneL L = W0 at *
  clear hL hln hM hf0 hfb hW0
  go_enter Try.func22, Try.ntmps22
  go_wp2_with fail
  refine HM.out.mono ?_
  rintro e w ⟨rfl, rfl⟩
  clear HM
  go_wp2_with fail
  refine HC.out.mono ?_
  rintro e w1 ⟨gA, cA, rfl, hfA, hb1⟩
  have HD1 := Lib.hid (HDE.out w1 w.heap.size gA cA f0 hfA HFB.out)
  have HFA := Lib.hid hfA
  have HB1 := Lib.hid hb1
  clear hfA hb1 HC
  go_wp2_with fail
  refine HD1.out.mono ?_
  rintro e w2 ⟨gX, cX, len, rfl, hlen, hfX, hb2⟩
  have HTRY : Hid (TryC w w2 W0 n most 0 gA cA gX cX len f0) := Lib.hid
    ⟨by omega, HFA.out.below hb2 HFA.out.lt.2, hfX.lower HB1.out.size, HW0.out, by rw [show halves W0 0 = W0 from rfl, HW0.out]; exact hlen, HFB.out, (fun q hq => by omega), HB1.out.trans (hb2.mono HB1.out.size)⟩
  clear hlen hfX hb2 HD1 HFA HB1 HFB HW0
  go_wp2_with fail
  go_loopg [6] 31 (fun g v wx => ∃ (t gY cY : Nat) (len f : Nat → Nat), t + g = 31 ∧ v = .slice (some ⟨gY, 0, none⟩) n cY ∧ TryC w wx W0 n most t gA cA gY cY len f)
  case atStart => exact ⟨0, gX, cX, len, f0, rfl, rfl, HTRY.out⟩
  case round =>
    clear HTRY
    obtain ⟨t, gY, cY, len, f, htg, rfl, T⟩ := hrel
    have HG := Lib.hid (HMX.out wr w.heap.size gY cY len T.rowL)
    have HT := Lib.hid T
    clear T
    go_wp2_with fail
    refine HG.out.mono ?_
    rintro e w7 ⟨g, rfl, hmax, rfl⟩
    have hmx : (∀ j, j < n → (len j : Int) ≤ g) ∧ ∃ j, j < n ∧ (len j : Int) = g := by
      refine ⟨fun j hj => ?_, ?_⟩
      · have h3 := hmax.1 j hj
        rwa [getD_cast n len j hj] at h3
      · obtain ⟨j, hj, h⟩ := hmax.2
        rw [getD_cast n len j hj] at h
        exact ⟨j, hj, h⟩
    have HMAX := Lib.hid hmx
    clear hmax hmx HG
    by_cases e2 : (most : Int) < g
    · have dg : decide ((most : Int) < g) = true := decide_eq_true e2
      obtain ⟨jm, hjm, hjg⟩ := HMAX.out.2
      have ht30 : t < 31 := by
        rcases Nat.lt_or_ge t 31 with h | h
        · exact h
        · have := halves_done HWL.out.2 (by rw [HWL.out.1]; exact hn) t h HT.out.hlen jm (by rw [HWL.out.1]; exact hjm)
          omega
      have HH := Lib.hid (HHA.out w7 w.heap.size gA cA f HT.out.rowW fun j hj => (HT.out.hf j hj).2)
      have HJM : Hid (∃ i, i < n ∧ most < len i) := Lib.hid ⟨jm, hjm, by omega⟩
      clear hjg
      go_wp2_with fail
      refine HH.out.mono ?_
      rintro e w8 ⟨rfl, hr8, hb8⟩
      have hf8 : ∀ i, i < n → 1 ≤ f i / 2 + 1 ∧ f i / 2 + 1 ≤ 1073741824 := fun i hi => by
        have := HT.out.hf i hi
        omega
      have HD2 := Lib.hid (HDE.out w8 w.heap.size gA cA (fun j => f j / 2 + 1) hr8 hf8)
      have HR8 := Lib.hid hr8
      have HB8 := Lib.hid hb8
      have HF8 := Lib.hid hf8
      clear hr8 hb8 hf8 HH
      go_wp2_with fail
      refine HD2.out.mono ?_
      rintro e w9 ⟨gZ, cZ, len2, rfl, hlen2, hfZ, hb9⟩
      have hhal1 : halves W0 (t + 1) = (List.range n).map fun a => f a / 2 + 1 := by rw [halves, HT.out.half, half_range]
      have hz8 : w.heap.size ≤ w8.heap.size := (HT.out.below.trans HB8.out).size
      have HTRY : Hid (TryC w w9 W0 n most (t + 1) gA cA gZ cZ len2 (fun j => f j / 2 + 1)) := Lib.hid
        ⟨by omega, HR8.out.below hb9 HR8.out.lt.2, hfZ.lower hz8, hhal1, by rw [hhal1]; exact hlen2, HF8.out, (fun q hq => by
          by_cases eq : q = t
          · subst eq
            exact ⟨len, HT.out.hlen, HJM.out⟩
          · exact HT.out.past q (by omega)), (HT.out.below.trans HB8.out).trans (hb9.mono hz8)⟩
      clear hlen2 hfZ hb9 hhal1 HD2 HR8 HB8 HF8
      go_wp2_with fail
      go_roundg (gk - 1)
      case measure => omega
      case rel => exact ⟨t + 1, gZ, cZ, len2, _, by omega, by go_num, HTRY.out⟩
    · have dg : decide ((most : Int) < g) = false := decide_eq_false e2
      have hm : MakeR (halves W0 t) most len := .done HT.out.hlen (by
        rw [halves_length, HWL.out.1]
        intro i hi
        have := HMAX.out.1 i hi
        omega)
      have hm2 := makeR_back (w := W0) t (fun q hq2 => by rw [HWL.out.1]; exact HT.out.past q hq2) hm
      have HDONE := Lib.hid (hP.out _ len w7 hm2 HT.out.rowL HT.out.below)
      clear hm hm2 HT HMAX hP
      go_wp2_with fail
      exact HDONE.out

end Go.Proofs.Ytgnlpbnodijkgaa
