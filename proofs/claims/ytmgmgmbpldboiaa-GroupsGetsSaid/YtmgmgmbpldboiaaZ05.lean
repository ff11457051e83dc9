/- Rb Oe Ud Ue Uf: texts laid together, what is not used left out. -/
import Derived.Test.YtmgmgmbpldboiaaZ01
import Derived.Test.YtmgmgmbpldboiaaZ04
import Derived.Lib.OwnKind
import Derived.Test.YtmgmgmbpldboiaaZ03
namespace Go.Proofs.Ytmgmgmbpldboiaa
open Go.RowKit

def RBitsPost (w : World) (x n : Nat) (e : Ending) (w' : World) : Prop :=
  ∃ g cap, e = .returned (.tuple #[.slice (some ⟨g, 0, none⟩) n cap, .bool (decide (x < 2 ^ n))]) ∧ w'.ownsRow w.heap.size 3 1 (.slice (some ⟨g, 0, none⟩) n cap) n ((bitsN x n).map iv) ∧ Below w.heap.size w w'

theorem bitsN_front (x k : Nat) : bitsN x (k + 1) = (x / 2 ^ k % 2) :: bitsN x k := by
  rw [Nat.add_comm k 1, bitsN_add]
  rfl

set_option maxRecDepth 100000 in
theorem set_front (q k x : Nat) : ((List.replicate (q + 1) 0 ++ bitsN x k).map iv).set q (.int .i64 (x / 2 ^ k % 2 : Nat)) = (List.replicate q 0 ++ bitsN x (k + 1)).map iv := by
  have h1 : (List.replicate (q + 1) 0 ++ bitsN x k).map iv = List.replicate q (iv 0) ++ (iv 0 :: (bitsN x k).map iv) := by
    rw [List.replicate_succ', List.append_assoc, List.map_append, List.map_replicate]
    rfl
  rw [h1, List.set_append, if_neg (by simp), List.length_replicate, Nat.sub_self, bitsN_front, List.map_append, List.map_replicate]
  rfl

set_option maxRecDepth 100000 in
theorem rbits_any (w : World) (x n : Nat) (hx : x < 2 ^ 64) (hn : n ≤ 64) : Calls Try.prog 53 #[.int .u64 x, .int .i64 n] w (RBitsPost w x n) := by
  obtain ⟨i3, hi, hz0, hz1, hz2⟩ := info_parts Try.info3
  have HX := Lib.hid hx
  clear hx
  go_enter Try.func53, Try.ntmps53
  go_wp2_with (refine wpList_make_full w rfl _ _ 30 rfl w.heap.size 3 i3 (.int .i64 0) 1 Try.underlying30 hi hz0 hz1 .i64 .i64 _ _ n rfl rfl rfl rfl ?b2 ?b3 ?b4 ?_)
  case b2 => rw [hz2]; omega
  case b3 => unfold maxLen; omega
  case b4 => exact Nat.le_refl _
  intro w1 hown1 hgrow1
  have hb1 : Below w.heap.size w w1 := (Below.refl _ _).grown hgrow1 (Nat.le_refl _) (fun k hk => by cases hk)
  have hown2 : w1.ownsRow w.heap.size 3 1 (.slice (some ⟨w.heap.size, 0, none⟩) n n) n ((List.replicate n 0).map iv) := by
    have e : (madeCells #[Value.int .i64 0] n).toList = (List.replicate n 0).map iv := by
      rw [toList_madeCells_one, List.map_replicate]
      rfl
    rw [← e]
    exact hown1
  clear hown1 hgrow1
  go_wp2
  go_loopw [0, 7] (fun v i wr => ∃ r : Nat, r ≤ n ∧ i = .int .i64 ((r : Int) - 1) ∧ v = .int .u64 (x / 2 ^ (n - r) : Nat) ∧ wr.ownsRow w.heap.size 3 1 (.slice (some ⟨w.heap.size, 0, none⟩) n n) n ((List.replicate r 0 ++ bitsN x (n - r)).map iv) ∧ Below w.heap.size w wr) (fun _ i _ => (intOf i + 1).toNat)
  case atStart => exact ⟨n, Nat.le_refl _, rfl, by simp, by simpa [bitsN] using hown2, hb1⟩
  case round =>
    obtain ⟨r, hr, rfl, rfl, hown, hb⟩ := hrel
    have hy : x / 2 ^ (n - r) < 18446744073709551616 := Nat.lt_of_le_of_lt (Nat.div_le_self _ _) HX.out
    cases r with
    | zero =>
      have e1 : ((0 : Nat) : Int) - 1 = -1 := rfl
      rw [e1]
      clear e1
      simp only [Nat.sub_zero, List.replicate_zero, List.nil_append] at hown hy ⊢
      have hdec : ((x / 2 ^ n : Nat) : Int) = 0 ↔ x < 2 ^ n := by
        rw [← Nat.div_eq_zero_iff_lt (Nat.two_pow_pos n)]
        omega
      generalize x / 2 ^ n = y at *
      have HD := Lib.hid hdec
      clear hdec
      go_wp2
      go_ret2
      refine ⟨w.heap.size, n, ?_, hown, hb⟩
      show Ending.returned (Value.tuple #[_, .bool ((y : Int) == 0)]) = _
      have he : ((y : Int) == 0) = decide (x < 2 ^ n) := by
        rw [Bool.eq_iff_iff, beq_iff_eq, decide_eq_true_iff]
        exact HD.out
      rw [he]
      rfl
    | succ q =>
      have e1 : ((q + 1 : Nat) : Int) - 1 = (q : Int) := by omega
      rw [e1]
      clear e1
      have h1 := hown.cellAt q (by omega)
      have h2 := hown.frozenAt q
      rw [List.getElem?_map, List.getElem?_append_left (by rw [List.length_replicate]; omega), List.getElem?_replicate, if_pos (by omega)] at h1
      simp [iv] at h1
      have hnext : x / 2 ^ (n - (q + 1)) / 2 = x / 2 ^ (n - q) := by rw [Nat.div_div_eq_div_mul, ← Nat.pow_succ, Nat.succ_eq_add_one, show n - (q + 1) + 1 = n - q by omega]
      have hst := (hown.stored q (.int .i64 (x / 2 ^ (n - (q + 1)) % 2 : Nat))).1
      have hset : ((List.replicate (q + 1) 0 ++ bitsN x (n - (q + 1))).map iv).set q (.int .i64 (x / 2 ^ (n - (q + 1)) % 2 : Nat)) = (List.replicate q 0 ++ bitsN x (n - q)).map iv := by
        rw [show n - q = n - (q + 1) + 1 by omega]
        exact set_front q _ x
      rw [hset] at hst
      generalize x / 2 ^ (n - (q + 1)) = y at *
      have HN := Lib.hid hnext
      clear hnext hset
      have hcast : ((y % 2 : Nat) : Int) = (y : Int) % 2 := by omega
      rw [hcast] at hst
      have HC := Lib.hid hcast
      clear hcast
      go_wp2
      go_roundw
      case rel => exact ⟨q, by omega, rfl, by rw [← HN.out, Int.natCast_ediv]; rfl, hst, hb.setCell (p := ⟨w.heap.size, q, none⟩) (Nat.le_refl _) _⟩
      case measure => simp [intOf]

end Go.Proofs.Ytmgmgmbpldboiaa
namespace Go.Proofs.Ytmgmgmbpldboiaa
open Go.RowKit

theorem infoSl : (Try.prog.info? 30).map (fun i => (i.zero, i.size, i.bytes)) = some (some (.slice none 0 0), 1, 24) := by kernel_rfl

/-- A table of bits that is read. -/
def TabR (w : World) (g n : Nat) (C : Nat → List Nat) : Prop := ∀ j, j < n → ∃ A k, w.cell? ⟨g, j, none⟩ = some (.slice A (C j).length k) ∧ IntsIn w A (C j).length (C j) ∧ (C j).length ≤ k
theorem TabR.below {w w' : World} {g n : Nat} {C : Nat → List Nat} (h : TabR w g n C) (hb : Below w.heap.size w w') : TabR w' g n C := by
  intro j hj
  obtain ⟨A, k, h1, h2, h3⟩ := h j hj
  exact ⟨A, k, (hb.cell (p := ⟨g, j, none⟩) (World.block_lt_of_cell? w _ h1)).trans h1, ints_low h2 hb, h3⟩
theorem TabR.same {w : World} {g n : Nat} {C D : Nat → List Nat} (h : TabR w g n C) (hs : ∀ j, j < n → C j = D j) : TabR w g n D := by
  intro j hj
  rw [← hs j hj]
  exact h j hj

/-- A table of the call's own. -/
def TabW (w : World) (B g n : Nat) (C : Nat → List Nat) : Prop := ∃ F : Nat → Value, w.ownsRow B 30 1 (.slice (some ⟨g, 0, none⟩) n n) n ((List.range n).map F) ∧
  ∀ j, j < n → ∃ A k, F j = .slice A (C j).length k ∧ (C j).length ≤ k ∧ w.ownsRow B 3 1 (F j) (C j).length ((C j).map iv)
theorem TabW.same {w : World} {B g n : Nat} {C D : Nat → List Nat} (h : TabW w B g n C) (hs : ∀ j, j < n → C j = D j) : TabW w B g n D := by
  obtain ⟨F, h1, h2⟩ := h
  refine ⟨F, h1, fun j hj => ?_⟩
  rw [← hs j hj]
  exact h2 j hj
theorem TabW.step {w w' : World} {B B' g n : Nat} {C : Nat → List Nat} (h : TabW w B g n C) (hs : Step B' [] [] w w') : TabW w' B g n C := by
  obtain ⟨F, h1, h2⟩ := h
  refine ⟨F, hs.row h1 (fun _ _ => List.not_mem_nil) List.not_mem_nil, fun j hj => ?_⟩
  obtain ⟨A, k, a, b, c⟩ := h2 j hj
  exact ⟨A, k, a, b, hs.row c (fun _ _ => List.not_mem_nil) List.not_mem_nil⟩
theorem TabW.read {w : World} {B g n : Nat} {C : Nat → List Nat} (h : TabW w B g n C) : TabR w g n C := by
  obtain ⟨F, h1, h2⟩ := h
  intro j hj
  obtain ⟨A, k, a, b, c⟩ := h2 j hj
  refine ⟨A, k, ?_, ?_, b⟩
  · rw [World.ownsRow.cellAt h1 j (by omega), List.getElem?_map, List.getElem?_range hj, ← a]
    rfl
  · rw [a] at c
    exact ints_of_own c
theorem TabW.low {w : World} {B g n : Nat} {C : Nat → List Nat} (h : TabW w B g n C) : B ≤ g := by
  obtain ⟨F, h1, _⟩ := h
  exact (World.ownsRow.lt h1 g rfl).1
theorem TabW.frozen {w : World} {B g n : Nat} {C : Nat → List Nat} (h : TabW w B g n C) (i : Nat) : w.frozen? ⟨g, i, none⟩ = false := by
  obtain ⟨F, h1, _⟩ := h
  exact World.ownsRow.frozenAt h1 i
theorem TabW.there {w : World} {B g n : Nat} {C : Nat → List Nat} (h : TabW w B g n C) (i : Nat) (hi : i < n) : ∃ v, w.cell? ⟨g, i, none⟩ = some v := by
  obtain ⟨A, k, h1, _⟩ := h.read i hi
  exact ⟨_, h1⟩
set_option maxRecDepth 100000 in
theorem TabW.set {w : World} {B g n : Nat} {C : Nat → List Nat} (h : TabW w B g n C) (i : Nat) {A : Option Addr} {k : Nat} {L : List Nat} (hL : w.ownsRow B 3 1 (.slice A L.length k) L.length (L.map iv)) (hk : L.length ≤ k) :
    TabW (w.setCell ⟨g, i, none⟩ (.slice A L.length k)) B g n fun j => if j = i then L else C j := by
  obtain ⟨F, h1, h2⟩ := h
  have hst := World.ownsRow.stored h1 i (.slice A L.length k)
  have hset : ((List.range n).map F).set i (.slice A L.length k) = (List.range n).map fun j => if j = i then (.slice A L.length k) else F j := by
    apply List.ext_getElem?
    intro j
    rw [List.getElem?_set]
    by_cases e : i = j
    · subst e
      by_cases hj : i < n
      · simp [hj]
      · simp [hj]
    · have e' : ¬ j = i := fun k => e k.symm
      rw [if_neg e, List.getElem?_map, List.getElem?_map]
      by_cases hj : j < n
      · rw [List.getElem?_range hj]
        simp [e']
      · rw [List.getElem?_eq_none (by rw [List.length_range]; omega)]
        rfl
  rw [hset] at hst
  have keep : ∀ (v : Value) (m : Nat) (xs : List Value), w.ownsRow B 3 1 v m xs → (w.setCell ⟨g, i, none⟩ (.slice A L.length k)).ownsRow B 3 1 v m xs := by
    intro v m xs hv
    refine hv.kept hst.2 (.inr fun e => ?_)
    obtain ⟨c1, f1, e1⟩ := Lib.ownsRow_kind hv g e
    obtain ⟨c2, f2, e2⟩ := Lib.ownsRow_kind h1 g rfl
    rw [e1] at e2
    simp at e2
  refine ⟨_, hst.1, fun j hj => ?_⟩
  by_cases e : j = i
  · refine ⟨A, k, ?_, ?_, ?_⟩
    · simp only [if_pos e]
    · simp only [if_pos e]
      exact hk
    · simp only [if_pos e]
      exact keep _ _ _ hL
  · obtain ⟨A2, k2, a, b, c⟩ := h2 j hj
    refine ⟨A2, k2, ?_, ?_, ?_⟩
    · simp only [if_neg e]
      exact a
    · simp only [if_neg e]
      exact b
    · simp only [if_neg e]
      exact keep _ _ _ c
set_option maxRecDepth 100000 in
theorem tabW_new (w : World) (B n : Nat) (hB : B ≤ w.heap.size) (hn : n ≤ 1000) : TabW (w.alloc (.cells (madeCells #[.slice none 0 0] n) 30)) B w.heap.size n fun _ => [] := by
  refine ⟨fun _ => .slice none 0 0, ⟨by simp, .inr ⟨w.heap.size, n, _, rfl, hB, heap_alloc_new w _, Nat.le_refl _, by unfold maxLen; omega, by rw [size_madeCells, Nat.mul_one], ?_⟩⟩, fun j _ => ⟨none, 0, rfl, Nat.le_refl _, World.ownsRow_nil _ _ _ _⟩⟩
  rw [toList_madeCells_one, Nat.mul_one, List.take_of_length_le (by simp), List.map_const', List.length_range]

set_option maxHeartbeats 1600000 in
set_option maxRecDepth 100000 in
theorem table_own (w : World) (A : Option Addr) (n c : Nat) (L : List Int) (hL : ZIn w A n L) (hok : LenOk L) : Calls Try.prog 30 #[.slice A n c] w fun e w' => ∃ g, e = .returned (.slice (some ⟨g, 0, none⟩) n n) ∧ TabW w' w.heap.size g n (codeB (nl L)) ∧ Below w.heap.size w w' := by
  obtain ⟨i2, h2, hi2⟩ := Option.map_eq_some_iff.1 infoSl
  simp only [Prod.mk.injEq] at hi2
  obtain ⟨hz0, hz1, hz2⟩ := hi2
  have hln := hL.1
  have hn2 : n ≤ 258 := by have := hok.2.1; omega
  have hn1 : 2 ≤ n := by have := hok.1; omega
  obtain ⟨b, off, rfl, hc⟩ := hL.2 (by omega)
  have hmk : ∀ w1 : World, (Instr.makeSlice 29 (.int .i64 n) (.int .i64 n)).run Try.prog w1 = .ok (.slice (some ⟨w1.heap.size, 0, none⟩) n n) (w1.alloc (.cells (madeCells #[.slice none 0 0] n) 30)) := by
    intro w1
    have h := run_make (P := Try.prog) w1 29 30 i2 (.slice none 0 0) Try.underlying29 h2 hz0 .i64 .i64 (n : Int) (n : Int) (by omega) (by omega) (by rw [hz2]; omega) (by omega)
    rw [hz1, Int.toNat_natCast, Nat.mul_one] at h
    exact h
  have hmk2 := hmk w
  have hfit := fits_of hok
  have HF := Lib.hid hfit
  obtain ⟨l, hl⟩ : ∃ l, l = nl L := ⟨_, rfl⟩
  have hll : l.length = n := by rw [hl, nl_length, hln]
  have HLL := Lib.hid hll
  have hget : ∀ i, i < n → w.cell? ⟨b, off + i, none⟩ = some (.int .i64 (l.getD i 0 : Nat)) := by
    intro i hi
    rw [hc i hi, hl, nl_get]
    have : 0 ≤ L.getD i 0 := by
      rw [List.getD_eq_getElem?_getD, List.getElem?_eq_getElem (by omega)]
      have := (hok.2.2.1 L[i] (List.getElem_mem ..)).1
      show (0 : Int) ≤ L[i]
      omega
    rw [Int.toNat_of_nonneg this]
  have HGET := Lib.hid hget
  have HBITS := Lib.hid rbits_any
  have hT0 : TabW (w.alloc (.cells (madeCells #[.slice none 0 0] n) 30)) w.heap.size w.heap.size n (tabC l 1 0) := (tabW_new w w.heap.size n (Nat.le_refl _) (by omega)).same fun j hj => (tabC_none (hl ▸ HF.out) (by omega)).symm
  rw [← hl] at HF ⊢
  clear hmk hc hL hok hln hll hget hl
  have HT0 := Lib.hid hT0
  clear hT0 hfit
  go_enter Try.func30, Try.ntmps30
  go_wp2_with fail
  clear hmk2
  go_loopw [4, 5] (fun cv nv wx => ∃ q k : Nat, 1 ≤ q ∧ q ≤ 21 ∧ nv = .int .i64 q ∧ cv = .int .i64 k ∧ k ≤ 1048576 ∧ Hid (q ≤ 20 → 2 * k = cd l q 0) ∧ TabW wx w.heap.size w.heap.size n (tabC l q 0) ∧ Below w.heap.size w wx) (fun _ nv _ => 22 - (intOf nv).toNat)
  case atStart => exact ⟨1, 0, Nat.le_refl _, by omega, rfl, rfl, by omega, Lib.hid fun _ => (cd_start HF.out).symm, HT0.out, (Below.refl _ _).alloc (Nat.le_refl _) _⟩
  case round =>
    obtain ⟨q, k, hq1, hq2, rfl, rfl, hk, hcd, hT, hb⟩ := hrel
    have HT := Lib.hid hT
    have HB := Lib.hid hb
    clear hT hb HT0
    by_cases e : q ≤ 20
    · have d0 : decide ((q : Int) ≤ 20) = true := decide_eq_true (by omega)
      have hk2 := hcd.out e
      obtain ⟨k2, hk2'⟩ : ∃ k2, k2 = k * 2 := ⟨_, rfl⟩
      have hkz : (k : Int) * 2 = (k2 : Int) := by omega
      have HK : Hid (k2 = cd l q 0) := Lib.hid (by omega)
      have hk2b : k2 ≤ 2097152 := by omega
      clear hk2 hk2' hcd
      go_wp2_with fail
      go_loopw [4, 6] (fun cv iv wx => ∃ i k : Nat, i ≤ n ∧ iv = .int .i64 i ∧ cv = .int .i64 k ∧ Hid (k = cd l q i) ∧ TabW wx w.heap.size w.heap.size n (tabC l q i) ∧ Below w.heap.size w wx) (fun _ iv _ => n - (intOf iv).toNat)
      case atStart => exact ⟨0, k2, Nat.zero_le _, rfl, rfl, HK, HT.out, HB.out⟩
      case round =>
        rename World => wi
        obtain ⟨i, k, hi, rfl, rfl, hcd, hT, hb⟩ := hrel
        have hz9 := hb.size
        have HT := Lib.hid hT
        have HB := Lib.hid hb
        have hkb : k ≤ 1048576 := by rw [hcd.out]; exact cd_le HF.out (by omega) i
        clear hT hb
        by_cases e1 : i < n
        · have d1 : decide ((i : Int) < (n : Int)) = true := decide_eq_true (by omega)
          have hcw := HGET.out i e1
          have hlt := World.block_lt_of_cell? w _ hcw
          have hcq := (HB.out.cell (p := ⟨b, off + i, none⟩) hlt).trans hcw
          obtain ⟨x, hx⟩ : ∃ x, x = l.getD i 0 := ⟨_, rfl⟩
          rw [← hx] at hcw hcq
          have HX := Lib.hid hx
          clear hx hlt hcw
          by_cases e2 : x = q
          · subst e2
            have d2 : ((x : Int) == (x : Int)) = true := beq_self_eq_true _
            have HBI := Lib.hid (HBITS.out wi k x (by omega) (by omega))
            have hcode : bitsN k x = codeB l i := by
              unfold codeB
              rw [← HX.out, hcd.out, cd_code HX.out.symm]
            have HCODE := Lib.hid hcode
            have hput : cd l x (i + 1) = k + 1 := by rw [cd_put (by rw [HLL.out]; exact e1) HX.out.symm, hcd.out]
            have HPUT := Lib.hid hput
            clear hcode hput
            go_wp2_with fail
            refine HBI.out.mono ?_
            rintro e w3 ⟨g2, cap2, rfl, hown, hb3⟩
            have hown0 : w3.ownsRow w.heap.size 3 1 (.slice (some ⟨g2, 0, none⟩) (codeB l i).length cap2) (codeB l i).length ((codeB l i).map iv) := by
              have h := World.ownsRow.mono hown hz9
              rw [HCODE.out] at h
              rw [codeB_length, ← HX.out]
              exact h
            obtain ⟨_, _, hvv, hcap, _, _⟩ := own_slice hown0
            simp only [Value.slice.injEq] at hvv
            obtain ⟨rfl, _, rfl⟩ := hvv
            have hT3 := HT.out.step (step_of_below hb3)
            have hT4 := hT3.set i hown0 hcap
            rw [codeB_length, ← HX.out] at hT4
            have hB3 := HB.out.trans (hb3.mono hz9)
            obtain ⟨v0, hv0⟩ := hT3.there i e1
            have hfr := hT3.frozen i
            have HT4 := Lib.hid hT4
            have HB4 := Lib.hid (hB3.setCell (p := ⟨w.heap.size, i, none⟩) (Nat.le_refl _) (.slice (some ⟨g2, 0, none⟩) x cap2))
            clear hown hb3 hown0 hcap hT3 hT4 hB3
            go_wp2_with fail
            go_roundw
            case rel =>
              refine ⟨i + 1, k + 1, by omega, by go_num, by go_num, Lib.hid HPUT.out.symm, HT4.out.same fun j hj => ?_, HB4.out⟩
              exact (tabC_put HX.out.symm j).symm
            case measure => simp [intOf]; omega
          · have d2 : ((x : Int) == (q : Int)) = false := by
              rw [beq_eq_false_iff_ne]
              omega
            have hne : l.getD i 0 ≠ q := by rw [← HX.out]; exact e2
            have HNE := Lib.hid hne
            clear hne
            go_wp2_with fail
            go_roundw
            case rel => exact ⟨i + 1, k, by omega, by go_num, rfl, Lib.hid (by rw [cd_skip (by rw [HLL.out]; exact e1) HNE.out]; exact hcd.out), HT.out.same fun j _ => (tabC_skip HNE.out j).symm, HB.out⟩
            case measure => simp [intOf]; omega
        · obtain rfl : i = n := by omega
          have d1 : decide ((i : Int) < (i : Int)) = false := decide_eq_false (by omega)
          go_wp2_with fail
          go_roundw
          case rel => exact ⟨q + 1, k, by omega, by omega, by go_num, rfl, hkb, Lib.hid fun h => by rw [hcd.out, cd_up (by rw [HLL.out]; exact Nat.le_refl _) (by omega)], HT.out.same fun j hj => tabC_up hj, HB.out⟩
          case measure => simp [intOf]; omega
    · obtain rfl : q = 21 := by omega
      have hTR := HT.out.same fun j hj => tabC_all HF.out (by rw [HLL.out]; exact hj)
      have HTR := Lib.hid hTR
      clear hTR hcd
      go_wp2_with fail
      go_ret
      exact ⟨_, rfl, HTR.out, HB.out⟩
end Go.Proofs.Ytmgmgmbpldboiaa
namespace Go.Proofs.Ytmgmgmbpldboiaa
open Go.RowKit

end Go.Proofs.Ytmgmgmbpldboiaa
namespace Go.Proofs.Ytmgmgmbpldboiaa
open Go.RowKit

end Go.Proofs.Ytmgmgmbpldboiaa
namespace Go.Proofs.Ytmgmgmbpldboiaa
open Go.RowKit

/-- A slice of slices of ints that is read. -/
def TabZ (w : World) (A : Option Addr) (n : Nat) (T : List (List Int)) : Prop :=
  T.length = n ∧ (0 < n → ∃ b off, A = some ⟨b, off, none⟩ ∧ ∀ i, i < n → ∃ A2 c2, w.cell? ⟨b, off + i, none⟩ = some (.slice A2 (T.getD i []).length c2) ∧ ZIn w A2 (T.getD i []).length (T.getD i []) ∧ (T.getD i []).length ≤ c2 ∧ (T.getD i []).length ≤ maxLen)
theorem TabZ.below {w w' : World} {A : Option Addr} {n : Nat} {T : List (List Int)} (h : TabZ w A n T) (hb : Below w.heap.size w w') : TabZ w' A n T := by
  refine ⟨h.1, fun hn => ?_⟩
  obtain ⟨b, off, rfl, hc⟩ := h.2 hn
  refine ⟨b, off, rfl, fun i hi => ?_⟩
  obtain ⟨A2, c2, h1, h2, h3, h4⟩ := hc i hi
  exact ⟨A2, c2, (hb.cell (p := ⟨b, off + i, none⟩) (World.block_lt_of_cell? w _ h1)).trans h1, h2.below hb, h3, h4⟩
/-- A plan that is read. -/
def PlanIn (w : World) (v : Value) (T : List (List Int)) (P : List Int) : Prop :=
  ∃ A n c B m d, v = .agg #[.slice A n c, .slice B m d] ∧ TabZ w A n T ∧ n ≤ c ∧ n ≤ maxLen ∧ ZIn w B m P ∧ m ≤ d ∧ m ≤ maxLen
theorem PlanIn.below {w w' : World} {v : Value} {T : List (List Int)} {P : List Int} (h : PlanIn w v T P) (hb : Below w.heap.size w w') : PlanIn w' v T P := by
  obtain ⟨A, n, c, B, m, d, h0, h1, h2, h3, h4, h5⟩ := h
  exact ⟨A, n, c, B, m, d, h0, h1.below hb, h2, h3, h4.below hb, h5⟩
/-- A plan is answered. -/
def PlanPost (w : World) (ans : List (List Int) × List Int × Nat) (e : Ending) (w' : World) : Prop :=
  ∃ v, e = .returned (.tuple #[v, .int .i64 ans.2.2]) ∧ PlanIn w' v ans.1 ans.2.1 ∧ Below w.heap.size w w'
theorem plan_none (w : World) : PlanIn w (.agg #[.slice none 0 0, .slice none 0 0]) [] [] :=
  ⟨none, 0, 0, none, 0, 0, rfl, ⟨rfl, fun h => absurd h (Nat.lt_irrefl _)⟩, Nat.le_refl _, by unfold maxLen; omega, ⟨rfl, fun h => absurd h (Nat.lt_irrefl _)⟩, Nat.le_refl _, by unfold maxLen; omega⟩
/-- Numbers as ints. -/
def zL (l : List Nat) : List Int := l.map fun (x : Nat) => (x : Int)
def natL (L : List Int) : List Nat := L.map Int.toNat
/-- While one row of a table grows: the row itself, and the others as they were. -/
structure Grows (w w2 wx : World) (B g n t s : Nat) (F : Nat → Value) (x : List Nat) : Prop where
  row : ∃ A cap, wx.ownsRow w2.heap.size 3 1 (.slice A s cap) s (x.map iv) ∧ wx.ownsRow B 30 1 (.slice (some ⟨g, 0, none⟩) n n) n ((List.range n).map fun j => if j = t then .slice A s cap else F j)
  keep : ∀ k, k < w2.heap.size → k ≠ g → wx.heap[k]? = w2.heap[k]?
  below : Below w.heap.size w wx
  size : w2.heap.size ≤ wx.heap.size

end Go.Proofs.Ytmgmgmbpldboiaa
