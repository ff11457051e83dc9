/- Ah Ai Aj Ak An: texts laid together, what is not used left out. -/
import Derived.Test.YtmgmgmbpldboiaaZ21
import Derived.Test.YtmgmgmbpldboiaaZ20
import Derived.Laws.StructEq
import Derived.Test.YtmgmgmbpldboiaaZ17
import Derived.Test.YtmgmgmbpldboiaaZ04
import Derived.Shelf.Small.Bits
import Derived.Lib.ItoaNum
namespace Go.Proofs.Ytmgmgmbpldboiaa
open Go.RowKit

/-- Block g is a row for N trees that begins with T. -/
def TCap (w : World) (g N : Nat) (T : List (Nat × Nat)) : Prop :=
  ∃ cs, Blk w g 108 cs ∧ cs.size = N * 2 ∧ ∀ i, i < T.length → cs[i * 2]? = some (.int .i64 (T.getD i (0, 0)).1) ∧ cs[i * 2 + 1]? = some (.int .i64 (T.getD i (0, 0)).2)
theorem TCap.row {w : World} {g N : Nat} {T : List (Nat × Nat)} (h : TCap w g N T) : TRow w g T := by
  obtain ⟨cs, h1, _, h3⟩ := h
  exact ⟨cs, h1, h3⟩
theorem TCap.there {w : World} {g N : Nat} {T : List (Nat × Nat)} (h : TCap w g N T) (j : Nat) (hj : j < N * 2) : (w.cell? ⟨g, j, none⟩).isSome = true ∧ w.frozen? ⟨g, j, none⟩ = false := by
  obtain ⟨cs, hb, hs, _⟩ := h
  refine ⟨?_, blk_frozen hb j⟩
  rw [blk_cell hb, Array.getElem?_eq_getElem (by omega)]
  rfl
set_option maxRecDepth 100000 in
theorem TCap.store {w : World} {g N : Nat} {T : List (Nat × Nat)} (h : TCap w g N T) (x : Nat × Nat) (hN : T.length < N) :
    TCap ((w.setCell ⟨g, T.length * 2, none⟩ (.int .i64 x.1)).setCell ⟨g, T.length * 2 + 1, none⟩ (.int .i64 x.2)) g N (T ++ [x]) := by
  obtain ⟨cs, hb, hs, hc⟩ := h
  refine ⟨_, blk_set (blk_set hb (T.length * 2) (.int .i64 x.1)) (T.length * 2 + 1) (.int .i64 x.2), by simp [hs], fun i hi => ?_⟩
  rw [List.length_append, List.length_singleton] at hi
  by_cases e : i = T.length
  · subst e
    have e0 : (T ++ [x]).getD T.length (0, 0) = x := by simp
    rw [e0]
    constructor
    · rw [Array.getElem?_setIfInBounds_ne (by omega), Array.getElem?_setIfInBounds_self_of_lt (by omega)]
    · rw [Array.getElem?_setIfInBounds_self_of_lt (by simp; omega)]
  · have hi2 : i < T.length := by omega
    have e0 : (T ++ [x]).getD i (0, 0) = T.getD i (0, 0) := by
      rw [List.getD_eq_getElem?_getD, List.getD_eq_getElem?_getD, List.getElem?_append_left hi2]
    rw [e0]
    have h3 := hc i hi2
    constructor
    · rw [Array.getElem?_setIfInBounds_ne (by omega), Array.getElem?_setIfInBounds_ne (by omega)]
      exact h3.1
    · rw [Array.getElem?_setIfInBounds_ne (by omega), Array.getElem?_setIfInBounds_ne (by omega)]
      exact h3.2

theorem Try.infoTree : (Try.prog.info? 108).map (fun i => (i.zero, i.size, i.bytes)) = some (some (.agg #[.int .i64 0, .int .i64 0]), 2, 16) := by kernel_rfl
theorem make_trees (w : World) (n m : Nat) (hn : n ≤ m) (hm : m ≤ 1000000) : (Instr.makeSlice 104 (.int .i64 n) (.int .i64 m)).run Try.prog w = .ok (.slice (some ⟨w.heap.size, 0, none⟩) n m) (w.alloc (.cells (madeCells #[.int .i64 0, .int .i64 0] (m * 2)) 108)) := by
  obtain ⟨i3, h3, hz0, hz1, hz2⟩ := info_parts Try.infoTree
  have h := run_make (P := Try.prog) w 104 108 i3 (.agg #[.int .i64 0, .int .i64 0]) Try.underlying104 h3 hz0 .i64 .i64 (n : Int) (m : Int) (by omega) (by omega) (by rw [hz2]; omega) (by omega)
  rw [hz1, Int.toNat_natCast, Int.toNat_natCast] at h
  exact h
set_option maxRecDepth 100000 in
theorem made_trees (w : World) (m : Nat) : TCap (w.alloc (.cells (madeCells #[.int .i64 0, .int .i64 0] (m * 2)) 108)) w.heap.size m [] :=
  ⟨_, blk_new w _ _, by rw [size_madeCells], fun i hi => absurd hi (by simp)⟩

set_option maxHeartbeats 1600000 in
set_option maxRecDepth 100000 in
theorem alone_any (w : World) (A : Option Addr) (n c : Nat) (f : Nat → Nat) (hL : IntsIn w A n ((List.range n).map f)) (h1 : 1 ≤ n) (hn : n ≤ 1000000) :
    Calls Try.prog 63 #[.slice A n c] w fun e w' => e = .returned (.slice (some ⟨w.heap.size, 0, none⟩) n n) ∧ TCap w' w.heap.size n ((List.range n).map fun i => (f i, i)) ∧ Below w.heap.size w w' := by
  obtain ⟨b, off, rfl, hc⟩ := hL.2 (by omega)
  have hc2 : ∀ i, i < n → w.cell? ⟨b, off + i, none⟩ = some (.int .i64 (f i)) := fun i hi => by rw [hc i hi, range_getD n f i hi]
  have HC := Lib.hid hc2
  have hmk := make_trees w n n (Nat.le_refl _) hn
  have HM := Lib.hid (made_trees w n)
  clear hL hc hc2
  go_enter Try.func63, Try.ntmps63
  go_wp2_with fail
  have HB0 := Lib.hid ((Below.refl w.heap.size w).alloc (Nat.le_refl _) (.cells (madeCells #[.int .i64 0, .int .i64 0] (n * 2)) 108))
  go_loopw [4, 5, 11] (fun s4 s5 x wx => ∃ i : Nat, i ≤ n ∧ x = .int .i64 i ∧ TCap wx w.heap.size n ((List.range i).map fun i => (f i, i)) ∧ Below w.heap.size w wx) (fun _ _ x _ => n - (intOf x).toNat)
  case atStart => exact ⟨0, Nat.zero_le _, rfl, HM.out, HB0.out⟩
  case round =>
    clear HM HB0 hmk
    obtain ⟨i, hi, rfl, ht, hb⟩ := hrel
    by_cases e : i < n
    · have di : decide ((i : Int) < (n : Int)) = true := decide_eq_true (by omega)
      have hiI : (0 : Int) ≤ (i : Int) := by omega
      have ci := (hb.cell (p := ⟨b, off + i, none⟩) (World.block_lt_of_cell? w _ (HC.out i e))).trans (HC.out i e)
      have t0 := ht.there (i * 2) (by omega)
      have t1 := ht.there (i * 2 + 1) (by omega)
      have hs := ht.store (f i, i) (by simpa using e)
      have hl : ((List.range i).map fun i => (f i, i)).length = i := by simp
      rw [hl, show ((List.range i).map fun i => (f i, i)) ++ [(f i, i)] = (List.range (i + 1)).map fun i => (f i, i) by rw [List.range_succ, List.map_append]; rfl] at hs
      have HS := Lib.hid hs
      have HBS := Lib.hid ((hb.setCell (p := ⟨w.heap.size, i * 2, none⟩) (Nat.le_refl _) (.int .i64 (f i : Nat))).setCell (p := ⟨w.heap.size, i * 2 + 1, none⟩) (Nat.le_refl _) (.int .i64 (i : Nat)))
      obtain ⟨u0, hu0⟩ := Option.isSome_iff_exists.1 t0.1
      obtain ⟨u1, hu1⟩ := Option.isSome_iff_exists.1 t1.1
      have f0 := t0.2
      have f1 := t1.2
      dsimp only at HS
      generalize f i = x at *
      clear ht hb hs hl t0 t1
      go_wp2_with fail
      go_roundw
      case rel => exact ⟨i + 1, by omega, by go_num, HS.out, HBS.out⟩
      case measure => simp [intOf]; omega
    · obtain rfl : i = n := by omega
      have di : decide ((i : Int) < (i : Int)) = false := decide_eq_false (by omega)
      have HT := Lib.hid ht
      have HB := Lib.hid hb
      clear ht hb
      go_wp2_with fail
      go_ret
      exact ⟨rfl, HT.out, HB.out⟩

end Go.Proofs.Ytmgmgmbpldboiaa
namespace Go.Proofs.Ytmgmgmbpldboiaa
open Go.RowKit

/-- A row's first tree; of none one that all others stand ahead of. -/
def hd : List (Nat × Nat) → Nat × Nat
  | [] => (9223372036854775807, 0)
  | x :: _ => x
/-- The lesser of two trees, of equals the first. -/
def lesser (x y : Nat × Nat) : Nat × Nat := if riseN y x < 0 then y else x

end Go.Proofs.Ytmgmgmbpldboiaa
namespace Go.Proofs.Ytmgmgmbpldboiaa
open Go.RowKit

theorem heap_set_other (w : World) {b g o : Nat} (v : Value) (h : b ≠ g) : (w.setCell ⟨g, o, none⟩ v).heap[b]? = w.heap[b]? := Below.heap_setCell w ⟨g, o, none⟩ v b h
end Go.Proofs.Ytmgmgmbpldboiaa
namespace Go.Proofs.Ytmgmgmbpldboiaa
open Go.RowKit

theorem blkO {W : World} {g b o : Nat} {t : TypeId} {cs : Array Value} (h : Blk W g t cs) (hne : g ≠ b) (v : Value) : Blk (W.setCell ⟨b, o, none⟩ v) g t cs := (heap_set_other W v hne).trans h
/-- The state of join ahead of number k. -/
structure JInv (w wx : World) (W : List Nat) (n bS bM gS gM gI : Nat) (LS LM : List (Nat × Nat)) (k p q b : Nat) (AS : Option Addr) (ws ov : Nat → Nat) (act : List Tr) (len : Nat → Nat) : Prop where
  boxS : Blk wx bS 104 #[.slice AS (LS.length - p : Nat) (LS.length - p : Nat)]
  boxM : Blk wx bM 104 #[.slice (some ⟨gM, q * 2, none⟩) (LM.length - q : Nat) (n - q : Nat)]
  rowS : TRow wx gS LS
  rowM : TCap wx gM n LM
  at_ : p < LS.length → AS = some ⟨gS, p * 2, none⟩
  hp : p ≤ LS.length
  hq : q ≤ LM.length
  hm : LM.length + n = k
  hk : k ≤ 2 * n - 1
  two : Two n k ws ov (LS.drop p) (LM.drop q) b
  grown : Grown n W k ws ov act len
  row : FRow wx w.heap.size gI (2 * n - 1) (2 * n - 1) ov
  low : ∀ t ∈ LM, t.1 ≤ W.sum ∧ n ≤ t.2
  below : Below w.heap.size w wx

end Go.Proofs.Ytmgmgmbpldboiaa
namespace Go.Proofs.Ytmgmgmbpldboiaa
open Go.RowKit

theorem TRow.low {w w' : World} {C g : Nat} {T : List (Nat × Nat)} (h : TRow w g T) (hb : Below C w w') (hg : g < C) : TRow w' g T := by
  obtain ⟨cs, h1, h2⟩ := h
  exact ⟨cs, (hb.block g hg).trans h1, h2⟩
set_option maxRecDepth 100000 in
theorem front_ne (W : List Nat) (i j : Nat) (hi : i < W.length) (hj : j < W.length) (h : i ≠ j) : front W i ≠ front W j := by
  rcases Nat.lt_trichotomy (W.getD i 0) (W.getD j 0) with h1 | h1 | h1
  · have := front_lt W hj (.inl h1)
    omega
  · rcases Nat.lt_or_ge i j with h2 | h2
    · have := front_lt W hi (.inr ⟨h1, h2⟩)
      omega
    · have := front_lt W hj (.inr ⟨h1.symm, by omega⟩)
      omega
  · have := front_lt W hi (.inl h1)
    omega

set_option maxHeartbeats 3200000 in
set_option maxRecDepth 100000 in
theorem cflat_any (w : World) (A : Option Addr) (n c : Nat) (L : List Int) (hL : ZIn w A n L) (hM : MayW L) : Calls Try.prog 34 #[.slice A n c] w (FlatPost w L) := by
  have hln := hL.1
  have h2n : 2 ≤ n := by have := hM.1; omega
  have hn : n ≤ 258 := by have := hM.2.1; omega
  have HM := Lib.hid (mayBe_any w A n c L hL (by unfold maxLen; omega))
  rw [show decide (MayW L) = true from decide_eq_true hM] at HM
  have HC := Lib.hid (counted_any w A n c L hL (fun x hx => (hM.2.2 x hx).1) (by omega) (by omega))
  obtain ⟨f, hf⟩ : ∃ f, f = oneF L := ⟨_, rfl⟩
  rw [← hf] at HC
  have hW0 : oneL L = (List.range n).map f := by
    unfold oneL
    rw [hln, hf]
  have hP : Hid (∀ (v : Value) (k : Nat) w', 2 ^ k ≤ n → n < 2 ^ (k + 1) → w'.ownsRow w.heap.size 3 1 v n (rowF n (flatLen k (2 ^ (k + 1) - n) (oneL L))) → Below w.heap.size w w' → FlatPost w L (.returned (.tuple #[v, .int .i64 0])) w') := Lib.hid fun v k w' h1 h2 h3 h4 =>
    .inr ⟨hM, v, k, by rw [hln]; exact h1, by rw [hln]; exact h2, rfl, by rw [hln]; exact h3, h4⟩
  generalize FlatPost w L = PO at *
  generalize oneL L = W at *
  have HA := Lib.hid fun (w1 : World) (B g c1 : Nat) (h : FRow w1 B g c1 n f) => alone_any w1 (some ⟨g, 0, none⟩) n c1 f h.ints (by omega) (by omega)
  obtain ⟨k, hk⟩ : ∃ k, k = Lib.bitLen n - 1 := ⟨_, rfl⟩
  have hbl := Lib.bitLenAux_bounds 64 n (by omega) (by omega)
  have hbl1 : 1 ≤ Lib.bitLen n := hbl.1
  have hk1 : 2 ^ k ≤ n := by rw [hk]; exact hbl.2.1
  have hk2 : n < 2 ^ (k + 1) := by rw [hk, Nat.sub_add_cancel hbl1]; exact hbl.2.2
  obtain ⟨P, hP2⟩ : ∃ P : Nat, P = 2 ^ (k + 1) := ⟨_, rfl⟩
  have hPz : (2 : Int) * (2 : Int) ^ k = (P : Int) := by rw [hP2, Nat.pow_succ]; push_cast; omega
  have hk9 : k ≤ 8 := by
    rcases Nat.lt_or_ge k 9 with h | h
    · omega
    · have := Nat.pow_le_pow_right (show 0 < 2 by decide) h
      omega
  have hPb : P ≤ 512 := by
    rw [hP2]
    have : 2 ^ (k + 1) ≤ 2 ^ 9 := Nat.pow_le_pow_right (by decide) (by omega)
    exact this
  obtain ⟨C, hC⟩ : ∃ C, C = P - n := ⟨_, rfl⟩
  have hCz : (P : Int) - (n : Int) = (C : Int) := by omega
  have HLN := Lib.hid fun w1 : World => Any.bits_Len Try.laysBits (n : Int) w1 (by omega) (by omega)
  rw [Int.toNat_natCast] at HLN
  obtain ⟨b, hb⟩ : ∃ b, b = Lib.bitLen n := ⟨_, rfl⟩
  rw [← hb] at HLN hk hbl1
  have hkz : (b : Int) - 1 = (k : Int) := by omega
  have HK := Lib.hid (show 2 ^ k ≤ n ∧ n < 2 ^ (k + 1) ∧ C = 2 ^ (k + 1) - n from ⟨hk1, hk2, by omega⟩)
  have HW := Lib.hid hW0
  clear hL hln hM hf hW0 hk hbl hbl1 hk1 hk2 hP2 hC hb
  go_enter Try.func34, Try.ntmps34
  go_wp2_with fail
  refine HM.out.mono ?_
  rintro e w ⟨rfl, rfl⟩
  clear HM
  go_wp2_with fail
  refine HC.out.mono ?_
  rintro e w1 ⟨gA, cA, rfl, hfA, hb1⟩
  have HA1 := Lib.hid (HA.out w1 w.heap.size gA cA hfA)
  have HB1 := Lib.hid hb1
  clear hfA hb1 HC HA
  go_wp2_with fail
  refine HA1.out.mono ?_
  rintro e w2 ⟨rfl, ht2, hb2⟩
  obtain ⟨T, hT⟩ : ∃ T, T = (List.range n).map fun i => (f i, i) := ⟨_, rfl⟩
  rw [← hT] at ht2
  have hTl : T.length = n := by rw [hT]; simp
  have hTn : (T.map Prod.snd).Nodup := by
    rw [hT, List.map_map]
    have : (Prod.snd ∘ fun i => (f i, i)) = id := rfl
    rw [this, List.map_id]
    exact List.nodup_range
  have HT := Lib.hid hT
  have zg : w.heap.size ≤ w1.heap.size := HB1.out.size
  have hsrt := sort_falling w2 w.heap.size w1.heap.size n T ht2.row zg (by omega) hTn
  rw [hTl] at hsrt
  have HSRT := Lib.hid hsrt
  have HB2 := Lib.hid (HB1.out.trans (hb2.mono zg))
  clear ht2 hb2 hT hTl hTn hsrt HA1 HB1
  go_wp2_with fail
  refine HSRT.out.mono ?_
  rintro e w3 ⟨rfl, LS, hperm, hsort, hrow, hst⟩
  have HPERM := Lib.hid hperm
  have HSORT := Lib.hid hsort
  have HROW := Lib.hid hrow
  have HB3 := Lib.hid (HB2.out.trans hst.below)
  have zg3 : w1.heap.size < w3.heap.size := hrow.lt
  have HLN3 := Lib.hid (HLN.out w3)
  clear hperm hsort hrow hst HSRT HLN HB2
  go_wp2_with fail
  refine HLN3.out.mono ?_
  rintro e w4 ⟨rfl, rfl⟩
  have hmk := make_noughts w4 n (by omega)
  have HMO := Lib.hid (made_noughts w4 w.heap.size n HB3.out.size (by omega))
  have HB0 : Hid (Below w4.heap.size w4 (w4.alloc (.cells (madeCells #[.int .i64 0] n) 3))) := Lib.hid ((Below.refl w4.heap.size w4).alloc (Nat.le_refl _) (.cells (madeCells #[.int .i64 0] n) 3))
  go_wp2_with fail
  clear hmk hPz hCz hkz HLN3
  have HWL : Hid (W.length = n) := Lib.hid (by rw [HW.out]; simp)
  have HLS : Hid (LS.length = n ∧ ∀ i x, LS[i]? = some x → x.2 < n ∧ front W x.2 = i) := Lib.hid (by
    have hp2 : LS.Perm ((List.range W.length).map fun i => (W.getD i 0, i)) := by
      rw [HWL.out]
      refine HPERM.out.trans ?_
      rw [HT.out]
      have : ((List.range n).map fun i => (f i, i)) = (List.range n).map fun i => (W.getD i 0, i) := List.map_congr_left fun i hi => by rw [HW.out, range_getD n f i (List.mem_range.1 hi)]
      rw [this]
    refine ⟨by rw [hp2.length_eq]; simp [HWL.out], fun i x hx => ?_⟩
    have h3 := place_front W LS hp2 HSORT.out i x hx
    rw [HWL.out] at h3
    exact h3)
  clear HPERM HSORT HT
  go_loopw [8, 9, 33] (fun s8 s9 x wx => ∃ i : Nat, i ≤ n ∧ x = .int .i64 i ∧ FRow wx w.heap.size w4.heap.size n n (fun j => if front W j < i then flatLen k C W j else 0) ∧ Below w4.heap.size w4 wx) (fun _ _ x _ => n - (intOf x).toNat)
  case atStart =>
    refine ⟨0, Nat.zero_le _, rfl, ?_, HB0.out⟩
    have e0 : (fun j => if front W j < 0 then flatLen k C W j else 0) = fun _ => 0 := by
      funext j
      rw [if_neg (by omega)]
    rw [e0]
    exact HMO.out
  case round =>
    clear HMO HB0
    obtain ⟨i, hi, rfl, hf, hbx⟩ := hrel
    by_cases e : i < n
    · have di : decide ((i : Int) < (n : Int)) = true := decide_eq_true (by omega)
      have hiI : (0 : Int) ≤ (i : Int) := by omega
      have hiL : i < LS.length := by rw [HLS.out.1]; exact e
      have hx := HLS.out.2 i (LS.getD i (0, 0)) (by rw [List.getD_eq_getElem?_getD, List.getElem?_eq_getElem hiL]; rfl)
      have hrow := HROW.out.low hbx zg3
      have l0 := hrow.cell0 hiL
      have l1 := hrow.cell1 hiL
      generalize LS.getD i (0, 0) = t at *
      obtain ⟨t0, j⟩ := t
      dsimp only at l0 l1 hx
      have hjn := hx.1
      have hfj := hx.2
      have hjI : (0 : Int) ≤ (j : Int) := by omega
      have hjnI : (j : Int) < (n : Int) := by omega
      have hz4 : w4.heap.size ≤ wr.heap.size := hbx.size
      have hzw : w.heap.size ≤ w4.heap.size := HB3.out.size
      have hf1 : FRow (wr.alloc (.cells #[.int .i64 t0, .int .i64 j] 108)) w.heap.size w4.heap.size n n _ := hf.alloc _
      have b1 := (blk_cell (blk_new wr 108 #[.int .i64 t0, .int .i64 j]) 1).trans (rfl : _ = some (Value.int .i64 j))
      have c1 := hf1.cell j hjn
      have g1 := hf1.frozen j
      have hs1 := hf1.set j k
      have c2 := hs1.cell j hjn
      rw [if_pos rfl] at c2
      have g2 := hs1.frozen j
      have hne : wr.heap.size ≠ w4.heap.size := by have := hf.lt.2; omega
      have b2 := (blk_cell (blkO (b := w4.heap.size) (o := j) (blk_new wr 108 #[.int .i64 t0, .int .i64 j]) hne (.int .i64 (k : Nat))) 1).trans (rfl : _ = some (Value.int .i64 j))
      obtain ⟨k1, hk1⟩ : ∃ k1, k1 = k + 1 := ⟨_, rfl⟩
      have hkz : (k : Int) + 1 = (k1 : Int) := by omega
      have hs2 := hs1.set j k1
      have hbe1 := ((hbx.alloc hz4 (.cells #[.int .i64 t0, .int .i64 j] 108)).setCell (p := ⟨w4.heap.size, j, none⟩) (Nat.le_refl _) (.int .i64 (k : Nat)))
      have hsame : ∀ v : Nat, v = flatLen k C W j → ∀ w' : World, FRow w' w.heap.size w4.heap.size n n (fun a => if a = j then v else if front W a < i then flatLen k C W a else 0) → FRow w' w.heap.size w4.heap.size n n (fun a => if front W a < i + 1 then flatLen k C W a else 0) := by
        intro v hv w' h
        have h3 : w'.ownsRow w.heap.size 3 1 (.slice (some ⟨w4.heap.size, 0, none⟩) n n) n (rowF n (fun a => if a = j then v else if front W a < i then flatLen k C W a else 0)) := h
        rw [rowF_same n _ (fun a => if front W a < i + 1 then flatLen k C W a else 0) fun a ha => by
          by_cases ea : a = j
          · rw [if_pos ea, if_pos (by rw [ea]; omega), hv, ea]
          · rw [if_neg ea]
            have := front_ne W a j (by rw [HWL.out]; exact ha) (by rw [HWL.out]; exact hjn) ea
            by_cases e2 : front W a < i
            · rw [if_pos e2, if_pos (by omega)]
            · rw [if_neg e2, if_neg (by omega)]] at h3
        exact h3
      by_cases c : C ≤ i
      · have d1 : decide ((C : Int) ≤ (i : Int)) = true := decide_eq_true (by omega)
        have hv : k1 = flatLen k C W j := by unfold flatLen; rw [hfj, if_pos c]; exact hk1
        have e2 : (fun a => if a = j then k1 else if a = j then k else if front W a < i then flatLen k C W a else 0) = fun a => if a = j then k1 else if front W a < i then flatLen k C W a else 0 := by
          funext a
          by_cases ea : a = j
          · rw [if_pos ea, if_pos ea]
          · rw [if_neg ea, if_neg ea, if_neg ea]
        rw [e2] at hs2
        have HS := Lib.hid (hsame k1 hv _ hs2)
        have HBE := Lib.hid (hbe1.setCell (p := ⟨w4.heap.size, j, none⟩) (Nat.le_refl _) (.int .i64 (k1 : Nat)))
        clear hf hbx hx hrow hf1 hs1 hs2 hbe1 hsame hv e2 hk1 hfj
        go_wp2_with fail
        go_roundw
        case rel => exact ⟨i + 1, by omega, by go_num, HS.out, HBE.out⟩
        case measure => simp [intOf]; omega
      · have d1 : decide ((C : Int) ≤ (i : Int)) = false := decide_eq_false (by omega)
        have hv : k = flatLen k C W j := by unfold flatLen; rw [hfj, if_neg c]
        have HS := Lib.hid (hsame k hv _ hs1)
        have HBE := Lib.hid hbe1
        clear hf hbx hx hrow hf1 hs1 hs2 hbe1 hsame hv hk1 hfj
        go_wp2_with fail
        go_roundw
        case rel => exact ⟨i + 1, by omega, by go_num, HS.out, HBE.out⟩
        case measure => simp [intOf]; omega
    · obtain rfl : i = n := by omega
      have di : decide ((i : Int) < (i : Int)) = false := decide_eq_false (by omega)
      have h3 : wr.ownsRow w.heap.size 3 1 (.slice (some ⟨w4.heap.size, 0, none⟩) i i) i (rowF i fun a => if front W a < i then flatLen k C W a else 0) := hf
      rw [rowF_same i _ (flatLen k C W) fun a ha => by
        have : front W a < i := by
          have h5 := (front_perm W).mem_iff.1 (List.mem_map.2 ⟨a, List.mem_range.2 (by rw [HWL.out]; exact ha), rfl⟩)
          rw [HWL.out] at h5
          exact List.mem_range.1 h5
        rw [if_pos this]] at h3
      rw [HK.out.2.2] at h3
      have HPE := Lib.hid (hP.out _ k wr HK.out.1 HK.out.2.1 h3 (HB3.out.trans (hbx.mono HB3.out.size)))
      clear hf hbx h3 hP HLS HROW
      go_wp2_with fail
      exact HPE.out

end Go.Proofs.Ytmgmgmbpldboiaa
