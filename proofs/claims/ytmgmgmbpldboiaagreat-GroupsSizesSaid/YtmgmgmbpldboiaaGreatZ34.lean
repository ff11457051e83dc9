/- Xb Xc Xd: texts laid together, what is not used left out. -/
import Derived.Test.YtmgmgmbpldboiaaGreatZ33
import Derived.Test.YtmgmgmbpldboiaaGreatZ20
import Derived.Test.YtmgmgmbpldboiaaGreatZ03
import Derived.Deep.LoopGhost
import Derived.Deep.MidRow
namespace Go.Proofs.YtmgmgmbpldboiaaGreat
open Go.RowKit

/-- An array of 21 numbers. -/
def arrP (f : Nat → Nat) : Array Value := (Array.range 21).map fun i => .int .i64 (f i)
set_option maxRecDepth 100000 in
theorem arrP_size (f : Nat → Nat) : (arrP f).size = 21 := by simp [arrP]
set_option maxRecDepth 100000 in
theorem arrP_zero : arrP (fun _ => 0) = Array.replicate 21 (.int .i64 0) := by
  apply Array.ext
  · simp [arrP]
  · intro i h1 h2
    simp [arrP]
theorem zeroP : (∀ w, (zeroValue 128).run Tryz.prog w = .ok (.agg (arrP fun _ => 0)) w) ∧ (Tryz.prog.info? 128).map (·.size) = some 21 := by
  rw [arrP_zero]
  exact zero_of_info (by kernel_rfl)
set_option maxRecDepth 100000 in
theorem arrP_set (f : Nat → Nat) (b x : Nat) : (arrP f).setIfInBounds b (.int .i64 x) = arrP fun i => if i = b then x else f i := by
  apply Array.ext
  · simp [arrP]
  · intro i h1 h2
    rw [Array.getElem_setIfInBounds (by simpa [arrP] using h2)]
    by_cases e : b = i
    · subst e
      simp [arrP]
    · rw [if_neg e]
      have e2 : ¬ i = b := fun h => e h.symm
      simp [arrP, e2]
set_option maxRecDepth 100000 in
theorem arrP_one (f : Nat → Nat) : (arrP f).all (·.oneCell') = true := by
  rw [Array.all_eq_true]
  intro i h
  simp [arrP, Value.oneCell']
set_option maxRecDepth 100000 in
theorem arrP_get (f : Nat → Nat) (i : Nat) (h : i < 21) : (arrP f)[i]? = some (.int .i64 (f i : Nat)) := by
  simp [arrP, h]
set_option maxRecDepth 100000 in
theorem two_arr (w : World) (a b : Array Value) (t : TypeId) : Blk ((w.alloc (.cells a t)).alloc (.cells b t)) w.heap.size t a ∧ Blk ((w.alloc (.cells a t)).alloc (.cells b t)) (w.heap.size + 1) t b := by
  have e1 : (w.alloc (.cells a t)).heap.size = w.heap.size + 1 := by simp
  refine ⟨?_, ?_⟩
  · show (World.alloc _ _).heap[_]? = _
    rw [heap_alloc_past _ _ _ (by simp)]
    exact blk_new w t a
  · rw [← e1]
    exact blk_new _ t b
theorem blk_beside {w : World} {g k : Nat} {t : TypeId} {cs : Array Value} (h : Blk w g t cs) (hne : g ≠ k) (i : Nat) (u : Value) : Blk (w.setCell ⟨k, i, none⟩ u) g t cs := by
  show (w.setCell ⟨k, i, none⟩ u).heap[g]? = _
  rw [Below.heap_setCell w ⟨k, i, none⟩ u g hne]
  exact h

set_option maxRecDepth 100000 in
theorem rangeAt_of_blk {w : World} {g : Nat} {t : TypeId} {cs : Array Value} (h : Blk w g t cs) : w.rangeAt g 0 cs.toList := by
  intro j v hv
  rw [Nat.zero_add, blk_cell h]
  simpa using hv
/-- Lengths that are read. -/
theorem len_cells {w : World} {A : Option Addr} {n : Nat} {L : List Int} (hL : ZIn w A n L) (hok : LenOk L) : ∃ b off, A = some ⟨b, off, none⟩ ∧ ∀ i, i < n → w.cell? ⟨b, off + i, none⟩ = some (.int .i64 ((nl L).getD i 0 : Nat)) := by
  have hln := hL.1
  have hn1 : 2 ≤ n := by have := hok.1; omega
  obtain ⟨b, off, rfl, hc⟩ := hL.2 (by omega)
  refine ⟨b, off, rfl, fun i hi => ?_⟩
  rw [hc i hi, nl_get]
  have : 0 ≤ L.getD i 0 := by
    rw [List.getD_eq_getElem?_getD, List.getElem?_eq_getElem (by omega)]
    have := (hok.2.2.1 L[i] (List.getElem_mem ..)).1
    show (0 : Int) ≤ L[i]
    omega
  rw [Int.toNat_of_nonneg this]

set_option maxHeartbeats 1600000 in
set_option maxRecDepth 100000 in
theorem count_any (w : World) (A : Option Addr) (n c : Nat) (L : List Int) (hL : ZIn w A n L) (hok : LenOk L) : Calls Tryz.prog 131 #[.slice A n c] w fun e w' => e = .returned (.agg (arrP (cntL (nl L)))) ∧ Below w.heap.size w w' := by
  have hln := hL.1
  have hn2 : n ≤ 258 := by have := hok.2.1; omega
  obtain ⟨b, off, rfl, hget⟩ := len_cells hL hok
  have hfit := fits_of hok
  obtain ⟨l, hl⟩ : ∃ l, l = nl L := ⟨_, rfl⟩
  have hll : l.length = n := by rw [hl, nl_length, hln]
  rw [← hl] at hget hfit ⊢
  have HF := Lib.hid hfit
  have HLL := Lib.hid hll
  have HGET := Lib.hid hget
  obtain ⟨hz, hi⟩ := zeroP
  have HI := Lib.hid hi
  have HS := Lib.hid arrP_size
  have HSET := Lib.hid arrP_set
  have HO := Lib.hid arrP_one
  have HG := Lib.hid arrP_get
  generalize arrP = T at *
  clear hi hl hok hL hln hfit hll hget
  go_enter Tryz.func131, Tryz.ntmps131
  go_wp2_with fail
  go_loopw [5, 8] (fun s5 x wx => ∃ q : Nat, q ≤ n ∧ x = .int .i64 q ∧ Blk wx w.heap.size 128 (T fun _ => 0) ∧ Blk wx (w.heap.size + 1) 128 (T fun k => rnkL l k q) ∧ Below w.heap.size w wx) (fun _ x _ => n - (intOf x).toNat)
  case atStart =>
    obtain ⟨h1, h2⟩ := two_arr w (T fun _ => 0) (T fun _ => 0) 128
    exact ⟨0, Nat.zero_le _, rfl, h1, h2, ((Below.refl _ w).alloc (Nat.le_refl _) _).alloc (by simp) _⟩
  case round =>
    obtain ⟨q, hq, rfl, hb0, hb1, hb⟩ := hrel
    have H0 := Lib.hid hb0
    have H1 := Lib.hid hb1
    have HB := Lib.hid hb
    have hz9 := hb.size
    by_cases e : q < n
    · have d0 : decide ((q : Int) < (n : Int)) = true := decide_eq_true (by omega)
      have hcw := HGET.out q e
      have hlt := World.block_lt_of_cell? w _ hcw
      have hcq := (HB.out.cell (p := ⟨b, off + q, none⟩) hlt).trans hcw
      have hk20 := (HF.out.one (i := q) (by rw [HLL.out]; exact e)).2
      have hstep := rnk_step l (l.getD q 0) q (by rw [HLL.out]; exact e)
      rw [if_pos rfl] at hstep
      obtain ⟨k, hk⟩ : ∃ k, k = l.getD q 0 := ⟨_, rfl⟩
      rw [← hk] at hcq hk20 hstep
      have hk21 : k < 21 := by omega
      have hc := blk_cell hb1 k
      have hf := blk_frozen hb1 k
      rw [HG.out _ k hk21] at hc
      have hcl := rnk_le l k q
      rw [HLL.out] at hcl
      obtain ⟨c1, hc1⟩ : ∃ c1, c1 = rnkL l k q := ⟨_, rfl⟩
      rw [← hc1] at hc hcl hstep
      have HK := Lib.hid hk
      have HST := Lib.hid hstep
      have HC1 := Lib.hid hc1
      have hsz := HS.out fun k => rnkL l k q
      clear hb0 hb1 hb hcw hlt hk hstep hc1 hz
      go_wp2_with fail
      go_roundw
      case rel =>
        refine ⟨q + 1, by omega, by go_num, blk_beside H0.out (by omega) _ _, ?_, HB.out.setCell (by show _ ≤ w.heap.size + 1; omega) _⟩
        have h1 := blk_set H1.out k (.int .i64 ((c1 + 1 : Nat) : Int))
        rw [HSET.out] at h1
        have e2 : (fun i => if i = k then c1 + 1 else rnkL l i q) = fun i => rnkL l i (q + 1) := by
          funext i
          by_cases ei : i = k
          · rw [if_pos ei, ei, HST.out]
          · rw [if_neg ei, rnk_step l i q (by rw [HLL.out]; exact e), if_neg (by rw [← HK.out]; exact fun h => ei h.symm)]
            rfl
        rw [e2] at h1
        exact h1
      case measure => simp [intOf]; omega
    · obtain rfl : q = n := by omega
      have d0 : decide ((q : Int) < (q : Int)) = false := decide_eq_false (by omega)
      have e2 : (fun k => rnkL l k q) = cntL l := by
        funext k
        rw [← HLL.out, rnk_all]
      rw [e2] at hb1
      have HI' : Hid ((Tryz.prog.info? 128).map (·.size) = some (T (cntL l)).size) := Lib.hid (by rw [HS.out]; exact HI.out)
      have H1 := Lib.hid hb1
      have hsz := HS.out (cntL l)
      clear hb0 hb1 hb hz e2
      have hst := store_cells_row (P := Tryz.prog) H0.out HI'.out (by rw [HS.out, HS.out]) (HO.out _)
      go_upto_region 7 with fail
      refine wp_region_lit (wpList_load_mid rfl _ _ rfl _ _ rfl (T (cntL l)).toList _ (rangeAt_of_blk H1.out) Tryz.underlying128 rfl HI'.out ?_)
      rw [Array.toArray_toList]
      go_wp2_with fail
      refine bodyPost_ret (v := .agg (T (cntL l))) (results_cell rfl rfl (setRow_heap _ _ _ _ _ _ H0.out) Tryz.underlying128 HI'.out) rfl ⟨rfl, ?_⟩
      exact below_setRow HB.out (Nat.le_refl _) _

end Go.Proofs.YtmgmgmbpldboiaaGreat
namespace Go.Proofs.YtmgmgmbpldboiaaGreat
open Go.RowKit

set_option maxRecDepth 100000 in
theorem has_any (w : World) (A : Option Addr) (n c : Nat) (x : Int) : Calls Tryz.prog 100 #[.slice A n c, .int .i64 x] w fun e w' => e = .returned (.bool (decide (0 ≤ x ∧ x < (n : Int)))) ∧ w = w' := by
  by_cases h0 : 0 ≤ x
  · have d0 : decide (0 ≤ x) = true := decide_eq_true h0
    by_cases h1 : x < (n : Int)
    · have d1 : decide (x < (n : Int)) = true := decide_eq_true h1
      have d2 : decide (0 ≤ x ∧ x < (n : Int)) = true := decide_eq_true ⟨h0, h1⟩
      rw [d2]
      go_enter Tryz.func100, Tryz.ntmps100
      go_wp2_with fail
      go_ret
      exact ⟨rfl, rfl⟩
    · have d1 : decide (x < (n : Int)) = false := decide_eq_false h1
      have d2 : decide (0 ≤ x ∧ x < (n : Int)) = false := decide_eq_false (fun h => h1 h.2)
      rw [d2]
      go_enter Tryz.func100, Tryz.ntmps100
      go_wp2_with fail
      go_ret
      exact ⟨rfl, rfl⟩
  · have d0 : decide (0 ≤ x) = false := decide_eq_false h0
    have d2 : decide (0 ≤ x ∧ x < (n : Int)) = false := decide_eq_false (fun h => h0 h.1)
    rw [d2]
    go_enter Tryz.func100, Tryz.ntmps100
    go_wp2_with fail
    go_ret
    exact ⟨rfl, rfl⟩
set_option maxRecDepth 100000 in
theorem length_any (w : World) (b off n c s x : Nat) (hs : s < n) (hx : w.cell? ⟨b, off + s, none⟩ = some (.int .i64 (x : Nat))) : Calls Tryz.prog 102 #[.slice (some ⟨b, off, none⟩) n c, .int .i64 s] w fun e w' => e = .returned (.int .i64 (x : Nat)) ∧ w = w' := by
  go_enter Tryz.func102, Tryz.ntmps102
  go_wp2_with fail
  go_ret
  exact ⟨rfl, rfl⟩

set_option maxHeartbeats 1600000 in
set_option maxRecDepth 100000 in
theorem order_any (w : World) (A : Option Addr) (n c : Nat) (L : List Int) (hL : ZIn w A n L) (hok : LenOk L) : Calls Tryz.prog 132 #[.slice A n c, .agg (arrP (plcL (nl L)))] w fun e w' => ∃ g F, e = .returned (.slice (some ⟨g, 0, none⟩) n n) ∧ FRow w' w.heap.size g n n F ∧ SymOk (nl L) F n ∧ Below w.heap.size w w' := by
  have hln := hL.1
  have hn2 : n ≤ 258 := by have := hok.2.1; omega
  obtain ⟨b, off, rfl, hget⟩ := len_cells hL hok
  have hfit := fits_of hok
  obtain ⟨l, hl⟩ : ∃ l, l = nl L := ⟨_, rfl⟩
  have hll : l.length = n := by rw [hl, nl_length, hln]
  rw [← hl] at hget hfit ⊢
  have HF := Lib.hid hfit
  have HLL := Lib.hid hll
  have HGET := Lib.hid hget
  have HS := Lib.hid arrP_size
  have HSET := Lib.hid arrP_set
  have HG := Lib.hid arrP_get
  generalize arrP = T at *
  have hmk := make_noughts (w.alloc (.cells (T (plcL l)) 128)) n (by omega)
  clear hl hok hL hln hfit hll hget
  have HR0 : Hid (FRow ((w.alloc (.cells (T (plcL l)) 128)).alloc (.cells (madeCells #[.int .i64 0] n) 3)) w.heap.size (w.heap.size + 1) n n fun _ => 0) := Lib.hid (by
    have h := made_noughts (w.alloc (.cells (T (plcL l)) 128)) w.heap.size n (by simp) (by omega)
    simpa using h)
  have HB0 : Hid (Blk ((w.alloc (.cells (T (plcL l)) 128)).alloc (.cells (madeCells #[.int .i64 0] n) 3)) w.heap.size 128 (T (plcL l))) := Lib.hid (by
    show (World.alloc _ _).heap[_]? = _
    rw [heap_alloc_past _ _ _ (by simp)]
    exact blk_new w _ _)
  go_enter Tryz.func132, Tryz.ntmps132
  go_wp2_with fail
  go_loopw [6, 7, 13] (fun s6 s7 x wx => ∃ (q : Nat) (F : Nat → Nat), q ≤ n ∧ x = .int .i64 q ∧ Hid (SymOk l F q) ∧ Blk wx w.heap.size 128 (T fun k => plcL l k + rnkL l k q) ∧ FRow wx w.heap.size (w.heap.size + 1) n n F ∧ Below w.heap.size w wx) (fun _ _ x _ => n - (intOf x).toNat)
  case atStart => exact ⟨0, fun _ => 0, Nat.zero_le _, rfl, Lib.hid (fun s hs => by omega), HB0.out, HR0.out, ((Below.refl _ w).alloc (Nat.le_refl _) _).alloc (by simp) _⟩
  case round =>
    obtain ⟨q, F, hq, rfl, hsym, hb1, hrow, hb⟩ := hrel
    have H1 := Lib.hid hb1
    have HB := Lib.hid hb
    have HR := Lib.hid hrow
    have hz9 := hb.size
    by_cases e : q < n
    · have d0 : decide ((q : Int) < (n : Int)) = true := decide_eq_true (by omega)
      have hcw := HGET.out q e
      have hlt := World.block_lt_of_cell? w _ hcw
      have hcq := (HB.out.cell (p := ⟨b, off + q, none⟩) hlt).trans hcw
      have hk20 := (HF.out.one (i := q) (by rw [HLL.out]; exact e)).2
      have hstep := rnk_step l (l.getD q 0) q (by rw [HLL.out]; exact e)
      rw [if_pos rfl] at hstep
      have hix := idx_lt (l := l) (s := q) (by rw [HLL.out]; exact e)
      rw [HLL.out] at hix
      have hixd : idxL l q = plcL l (l.getD q 0) + rnkL l (l.getD q 0) q := rfl
      obtain ⟨k, hk⟩ : ∃ k, k = l.getD q 0 := ⟨_, rfl⟩
      rw [← hk] at hcq hk20 hstep hixd
      have hk21 : k < 21 := by omega
      have hc := blk_cell hb1 k
      have hf := blk_frozen hb1 k
      rw [HG.out _ k hk21] at hc
      obtain ⟨j, hj⟩ : ∃ j, j = idxL l q := ⟨_, rfl⟩
      rw [← hixd, ← hj] at hc
      rw [← hj] at hix hixd
      have hcj := hrow.cell j hix
      have hfj := hrow.frozen j
      have hsym2 : SymOk l (fun i => if i = j then q else F i) (q + 1) := by
        have h := hsym.out.step (by rw [HLL.out]; exact e)
        rw [← hj] at h
        exact h
      obtain ⟨v0, hv0⟩ : ∃ v0, v0 = F j := ⟨_, rfl⟩
      rw [← hv0] at hcj
      -- behind the first store
      have hc2 : (wr.setCell ⟨w.heap.size + 1, j, none⟩ (.int .i64 (q : Nat))).cell? ⟨w.heap.size, k, none⟩ = some (.int .i64 (j : Nat)) := by
        have h := blk_cell (blk_beside hb1 (k := w.heap.size + 1) (by omega) j (.int .i64 (q : Nat))) k
        rw [HG.out _ k hk21, ← hixd] at h
        exact h
      have hf2 := blk_frozen (blk_beside hb1 (k := w.heap.size + 1) (by omega) j (.int .i64 (q : Nat))) k
      have hrow2 := (hrow.set j q).other (g2 := w.heap.size) (by omega) k (.int .i64 ((j + 1 : Nat) : Int))
      have HR2 := Lib.hid hrow2
      have HSY := Lib.hid hsym2
      have HK := Lib.hid hk
      have HST := Lib.hid hstep
      have HJ := Lib.hid hixd
      have hj258 : j ≤ 258 := by omega
      clear hb1 hb hcw hlt hk hstep hrow hrow2 hsym hsym2 hixd hj hv0 hmk HR0 HB0
      go_wp2_with fail
      go_roundw
      case rel =>
        refine ⟨q + 1, _, by omega, by go_num, HSY, ?_, HR2.out, (HB.out.setCell (p := ⟨w.heap.size + 1, j, none⟩) (by show _ ≤ w.heap.size + 1; omega) _).setCell (p := ⟨w.heap.size, k, none⟩) (Nat.le_refl _) _⟩
        have h1 := blk_set (blk_beside H1.out (k := w.heap.size + 1) (by omega) j (.int .i64 (q : Nat))) k (.int .i64 ((j + 1 : Nat) : Int))
        rw [HSET.out] at h1
        have e2 : (fun i => if i = k then j + 1 else plcL l i + rnkL l i q) = fun i => plcL l i + rnkL l i (q + 1) := by
          funext i
          by_cases ei : i = k
          · rw [if_pos ei, ei, HST.out, HJ.out, Nat.add_assoc]
          · rw [if_neg ei, rnk_step l i q (by rw [HLL.out]; exact e), if_neg (by rw [← HK.out]; exact fun h => ei h.symm)]
            rfl
        rw [e2] at h1
        exact h1
      case measure => simp [intOf]; omega
    · obtain rfl : q = n := by omega
      have d0 : decide ((q : Int) < (q : Int)) = false := decide_eq_false (by omega)
      clear hb1 hb hrow hmk HR0 HB0
      go_wp2_with fail
      go_ret
      exact ⟨_, F, rfl, HR.out, hsym.out, HB.out⟩

end Go.Proofs.YtmgmgmbpldboiaaGreat
namespace Go.Proofs.YtmgmgmbpldboiaaGreat
open Go.RowKit

/-- A table's cells: its lengths, how many codes each length has, its first code, where its symbol stands, the symbols. -/
def tbF (s0 : Value) (K F P : Nat → Nat) (s4 : Value) (i : Nat) : Value := if i = 0 then s0 else if i < 22 then .int .i64 (K (i - 1)) else if i < 43 then .int .i64 (F (i - 22)) else if i < 64 then .int .i64 (P (i - 43)) else s4
def tb (s0 : Value) (K F P : Nat → Nat) (s4 : Value) : Array Value := (Array.range 65).map (tbF s0 K F P s4)
set_option maxRecDepth 100000 in
theorem tb_size (s0 : Value) (K F P : Nat → Nat) (s4 : Value) : (tb s0 K F P s4).size = 65 := by simp [tb]
set_option maxRecDepth 100000 in
theorem tb_at (s0 : Value) (K F P : Nat → Nat) (s4 : Value) (i : Nat) (h : i < 65) : (tb s0 K F P s4)[i]? = some (tbF s0 K F P s4 i) := by simp [tb, h]
theorem tb_head (s0 : Value) (K F P : Nat → Nat) (s4 : Value) : (tb s0 K F P s4)[0]? = some s0 := by rw [tb_at _ _ _ _ _ 0 (by omega)]; rfl
theorem tb_cnt (s0 : Value) (K F P : Nat → Nat) (s4 : Value) (k : Nat) (h : k < 21) : (tb s0 K F P s4)[1 + k]? = some (.int .i64 (K k : Nat)) := by
  rw [tb_at _ _ _ _ _ _ (by omega), tbF, if_neg (by omega), if_pos (by omega), show 1 + k - 1 = k by omega]
theorem tb_first (s0 : Value) (K F P : Nat → Nat) (s4 : Value) (k : Nat) (h : k < 21) : (tb s0 K F P s4)[22 + k]? = some (.int .i64 (F k : Nat)) := by
  rw [tb_at _ _ _ _ _ _ (by omega), tbF, if_neg (by omega), if_neg (by omega), if_pos (by omega), show 22 + k - 22 = k by omega]
theorem tb_place (s0 : Value) (K F P : Nat → Nat) (s4 : Value) (k : Nat) (h : k < 21) : (tb s0 K F P s4)[43 + k]? = some (.int .i64 (P k : Nat)) := by
  rw [tb_at _ _ _ _ _ _ (by omega), tbF, if_neg (by omega), if_neg (by omega), if_neg (by omega), if_pos (by omega), show 43 + k - 43 = k by omega]
theorem tb_last (s0 : Value) (K F P : Nat → Nat) (s4 : Value) : (tb s0 K F P s4)[64]? = some s4 := by rw [tb_at _ _ _ _ _ 64 (by omega)]; rfl
set_option maxRecDepth 100000 in
theorem tb_one (s0 : Value) (K F P : Nat → Nat) (s4 : Value) (h0 : s0.oneCell' = true) (h4 : s4.oneCell' = true) : (tb s0 K F P s4).all (·.oneCell') = true := by
  rw [Array.all_eq_true]
  intro i h
  have : (tb s0 K F P s4)[i] = tbF s0 K F P s4 i := by simp [tb]
  rw [this, tbF]
  repeat' split
  all_goals first
    | exact h0
    | exact h4
    | rfl
theorem tb_ext {cs : Array Value} {s0 : Value} {K F P : Nat → Nat} {s4 : Value} (hs : cs.size = 65) (h : ∀ i, i < 65 → cs[i]? = some (tbF s0 K F P s4 i)) : cs = tb s0 K F P s4 := by
  apply Array.ext_getElem?
  intro i
  by_cases hi : i < 65
  · rw [h i hi, tb_at _ _ _ _ _ i hi]
  · rw [Array.getElem?_eq_none (by omega), Array.getElem?_eq_none (by rw [tb_size]; omega)]
theorem tb_same {s0 : Value} {K F P K2 F2 P2 : Nat → Nat} {s4 : Value} (hK : ∀ i, i < 21 → K i = K2 i) (hF : ∀ i, i < 21 → F i = F2 i) (hP : ∀ i, i < 21 → P i = P2 i) : tb s0 K F P s4 = tb s0 K2 F2 P2 s4 := by
  refine tb_ext (tb_size ..) fun i hi => ?_
  rw [tb_at _ _ _ _ _ i hi, tbF, tbF]
  congr 1
  split
  · rfl
  · split
    · rw [hK _ (by omega)]
    · split
      · rw [hF _ (by omega)]
      · split
        · rw [hP _ (by omega)]
        · rfl
theorem tb_set_first (s0 : Value) (K F P : Nat → Nat) (s4 : Value) (k x : Nat) (hk : k < 21) : (tb s0 K F P s4).setIfInBounds (22 + k) (.int .i64 x) = tb s0 K (fun i => if i = k then x else F i) P s4 := by
  refine tb_ext (by rw [Array.size_setIfInBounds, tb_size]) fun i hi => ?_
  rw [Array.getElem?_setIfInBounds, tb_at _ _ _ _ _ i hi, tb_size]
  by_cases e : 22 + k = i
  · subst e
    rw [if_pos rfl, if_pos hi, tbF, if_neg (by omega), if_neg (by omega), if_pos (by omega), if_pos (by omega)]
  · rw [if_neg e, tbF, tbF]
    congr 1
    split
    · rfl
    · split
      · rfl
      · split
        · rw [if_neg (by omega)]
        · rfl
theorem tb_set_place (s0 : Value) (K F P : Nat → Nat) (s4 : Value) (k x : Nat) (hk : k < 21) : (tb s0 K F P s4).setIfInBounds (43 + k) (.int .i64 x) = tb s0 K F (fun i => if i = k then x else P i) s4 := by
  refine tb_ext (by rw [Array.size_setIfInBounds, tb_size]) fun i hi => ?_
  rw [Array.getElem?_setIfInBounds, tb_at _ _ _ _ _ i hi, tb_size]
  by_cases e : 43 + k = i
  · subst e
    rw [if_pos rfl, if_pos hi, tbF, if_neg (by omega), if_neg (by omega), if_neg (by omega), if_pos (by omega), if_pos (by omega)]
  · rw [if_neg e, tbF, tbF]
    congr 1
    split
    · rfl
    · split
      · rfl
      · split
        · rfl
        · split
          · rw [if_neg (by omega)]
          · rfl
theorem tb_set_last (s0 : Value) (K F P : Nat → Nat) (s4 v : Value) : (tb s0 K F P s4).setIfInBounds 64 v = tb s0 K F P v := by
  refine tb_ext (by rw [Array.size_setIfInBounds, tb_size]) fun i hi => ?_
  rw [Array.getElem?_setIfInBounds, tb_at _ _ _ _ _ i hi, tb_size]
  by_cases e : 64 = i
  · subst e
    rw [if_pos rfl, if_pos hi]
    rfl
  · rw [if_neg e, tbF, tbF]
    congr 1
    split
    · rfl
    · split
      · rfl
      · split
        · rfl
        · rw [if_pos (by omega), if_pos (by omega)]
/-- Cells stored one behind the other. -/
def setMany (cs : Array Value) : Nat → List Value → Array Value
  | _, [] => cs
  | o, v :: vs => setMany (cs.setIfInBounds o v) (o + 1) vs
theorem setMany_size : ∀ (vs : List Value) (cs : Array Value) (o : Nat), (setMany cs o vs).size = cs.size
  | [], _, _ => rfl
  | v :: vs, cs, o => by rw [setMany, setMany_size vs, Array.size_setIfInBounds]
set_option maxRecDepth 100000 in
theorem setMany_get : ∀ (vs : List Value) (cs : Array Value) (o i : Nat), i < cs.size → (setMany cs o vs)[i]? = if o ≤ i ∧ i < o + vs.length then vs[i - o]? else cs[i]?
  | [], cs, o, i, _ => by
    rw [setMany, if_neg (by simp)]
  | v :: vs, cs, o, i, h => by
    rw [setMany, setMany_get vs _ _ i (by rw [Array.size_setIfInBounds]; exact h), Array.getElem?_setIfInBounds]
    by_cases e : o = i
    · subst e
      rw [if_neg (by omega), if_pos rfl, if_pos h, if_pos (by simp), Nat.sub_self]
      rfl
    · rw [if_neg e]
      by_cases e2 : o + 1 ≤ i ∧ i < o + 1 + vs.length
      · rw [if_pos e2, if_pos (by simp; omega), show i - o = (i - (o + 1)) + 1 by omega]
        rfl
      · rw [if_neg e2, if_neg (by simp; omega)]
theorem blk_setCells {g : Nat} {t : TypeId} : ∀ (vs : List Value) (cs : Array Value) (o : Nat) (w : World), Blk w g t cs → Blk (w.setCells g o vs) g t (setMany cs o vs)
  | [], _, _, _, h => h
  | v :: vs, cs, o, w, h => by
    rw [World.setCells, setMany]
    exact blk_setCells vs _ _ _ (blk_set h o v)
theorem below_setCells {B : Nat} {w : World} {g : Nat} (hg : B ≤ g) : ∀ (vs : List Value) (o : Nat) (w' : World), Below B w w' → Below B w (w'.setCells g o vs)
  | [], _, _, h => h
  | v :: vs, o, w', h => by
    rw [World.setCells]
    exact below_setCells hg vs _ _ (h.setCell (p := ⟨g, o, none⟩) hg v)
theorem tb_set_cnt (s0 : Value) (K F P K2 : Nat → Nat) (s4 : Value) : setMany (tb s0 K F P s4) 1 (arrP K2).toList = tb s0 K2 F P s4 := by
  have hl : (arrP K2).toList.length = 21 := arrP_size K2
  refine tb_ext (by rw [setMany_size, tb_size]) fun i hi => ?_
  rw [setMany_get _ _ _ i (by rw [tb_size]; exact hi), hl]
  by_cases e : 1 ≤ i ∧ i < 1 + 21
  · rw [if_pos e, Array.getElem?_toList, arrP_get _ _ (by omega), tbF, if_neg (by omega), if_pos (by omega)]
  · rw [if_neg e, tb_at _ _ _ _ _ i hi, tbF, tbF]
    congr 1
    split
    · rfl
    · rw [if_neg (c := i < 22) (by omega), if_neg (c := i < 22) (by omega)]
/-- Where the places lie. -/
theorem tb_places {w : World} {g : Nat} {t : TypeId} {s0 : Value} {K F P : Nat → Nat} {s4 : Value} (h : Blk w g t (tb s0 K F P s4)) : w.rangeAt g 43 (arrP P).toList := by
  intro j v hv
  rw [blk_cell h]
  have hj : j < 21 := by
    have := (List.getElem?_eq_some_iff.1 hv).1
    have hl : (arrP P).toList.length = 21 := arrP_size P
    omega
  rw [tb_place _ _ _ _ _ j hj, ← hv, Array.getElem?_toList, arrP_get _ _ hj]
theorem tb_there {w : World} {g : Nat} {t : TypeId} {s0 : Value} {K F P : Nat → Nat} {s4 : Value} (h : Blk w g t (tb s0 K F P s4)) (o n : Nat) (hn : o + n ≤ 65) : w.there g o n := by
  intro j hj
  refine ⟨?_, blk_frozen h _⟩
  rw [blk_cell h, tb_at _ _ _ _ _ _ (by omega)]
  rfl
theorem zeroTb : (∀ w, (zeroValue 130).run Tryz.prog w = .ok (.agg (tb (.slice none 0 0) (fun _ => 0) (fun _ => 0) (fun _ => 0) (.slice none 0 0))) w) ∧ (Tryz.prog.info? 130).map (·.size) = some 65 := zero_of_info (by kernel_rfl)
theorem builtTb0 : Tryz.prog.built 130 [] = some (tb (.slice none 0 0) (fun _ => 0) (fun _ => 0) (fun _ => 0) (.slice none 0 0)) := by kernel_rfl
theorem builtTb (A : Option Addr) (n c : Nat) : Tryz.prog.built 130 [(0, .slice A n c)] = some (tb (.slice A n c) (fun _ => 0) (fun _ => 0) (fun _ => 0) (.slice none 0 0)) := by kernel_rfl
end Go.Proofs.YtmgmgmbpldboiaaGreat
