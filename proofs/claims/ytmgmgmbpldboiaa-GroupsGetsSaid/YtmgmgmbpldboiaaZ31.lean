/- Xa Aw Xb Xc: texts laid together, what is not used left out. -/
import Derived.Test.YtmgmgmbpldboiaaZ04
import Derived.Test.YtmgmgmbpldboiaaZ03
import Derived.Test.YtmgmgmbpldboiaaZ01
import Derived.Deep.WholeRow
import Derived.Laws.Rows
import Derived.Laws.ResultCell
import Derived.Test.YtmgmgmbpldboiaaZ13
import Derived.Deep.LoopGhost
import Derived.Deep.MidRow
namespace Go.Proofs.Ytmgmgmbpldboiaa

/-- How many codes have k bits; how many have fewer; how many of k bits stand below number i. -/
def cntL (l : List Nat) (k : Nat) : Nat := l.countP fun x => x == k
def plcL (l : List Nat) (k : Nat) : Nat := l.countP fun x => decide (x < k)
def rnkL (l : List Nat) (k i : Nat) : Nat := (l.take i).countP fun x => x == k
/-- Where symbol s stands, by its length. -/
def idxL (l : List Nat) (s : Nat) : Nat := plcL l (l.getD s 0) + rnkL l (l.getD s 0) s

theorem take_snoc_nat (l : List Nat) (q : Nat) (h : q < l.length) : l.take (q + 1) = l.take q ++ [l.getD q 0] := by
  rw [List.take_add_one, List.getElem?_eq_getElem h, List.getD_eq_getElem?_getD, List.getElem?_eq_getElem h]
  rfl
theorem rnk_step (l : List Nat) (k i : Nat) (h : i < l.length) : rnkL l k (i + 1) = rnkL l k i + if l.getD i 0 = k then 1 else 0 := by
  unfold rnkL
  rw [take_snoc_nat l i h, List.countP_append]
  congr 1
  rw [List.countP_cons, List.countP_nil, Nat.zero_add]
  by_cases e : l.getD i 0 = k
  · rw [if_pos e, if_pos (by rw [e]; exact beq_self_eq_true k)]
  · rw [if_neg e, if_neg (by rw [beq_iff_eq]; exact e)]
theorem rnk_all (l : List Nat) (k : Nat) : rnkL l k l.length = cntL l k := by
  unfold rnkL cntL
  rw [List.take_length]
theorem rnk_mono (l : List Nat) (k : Nat) {i j : Nat} (h : i ≤ j) (hj : j ≤ l.length) : rnkL l k i ≤ rnkL l k j := by
  induction j with
  | zero =>
    rw [show i = 0 by omega]
    exact Nat.le_refl _
  | succ j ih =>
    by_cases e : i = j + 1
    · rw [e]
      exact Nat.le_refl _
    · have h1 := ih (by omega) (by omega)
      rw [rnk_step l k j (by omega)]
      omega
theorem rnk_lt (l : List Nat) {i j : Nat} (h : i < j) (hj : j ≤ l.length) : rnkL l (l.getD i 0) i < rnkL l (l.getD i 0) j := by
  have h1 := rnk_step l (l.getD i 0) i (by omega)
  rw [if_pos rfl] at h1
  have h2 := rnk_mono l (l.getD i 0) (show i + 1 ≤ j by omega) hj
  omega
theorem rnk_le (l : List Nat) (k i : Nat) : rnkL l k i ≤ l.length := by
  unfold rnkL
  have h1 := List.countP_le_length (p := fun x => x == k) (l := l.take i)
  rw [List.length_take] at h1
  omega
theorem plc_zero (l : List Nat) : plcL l 0 = 0 := by
  unfold plcL
  rw [List.countP_eq_zero]
  intro x _
  rw [decide_eq_true_iff]
  omega
theorem plc_up (l : List Nat) (k : Nat) : plcL l (k + 1) = plcL l k + cntL l k := by
  unfold plcL cntL
  induction l with
  | nil => rfl
  | cons x l ih =>
    rw [List.countP_cons, List.countP_cons, List.countP_cons, ih]
    by_cases h1 : x < k
    · rw [if_pos (decide_eq_true (by omega)), if_pos (decide_eq_true h1), if_neg (by rw [beq_iff_eq]; omega)]
      omega
    · by_cases h2 : x = k
      · rw [if_pos (decide_eq_true (by omega)), if_neg (by rw [decide_eq_true_iff]; omega), if_pos (by rw [beq_iff_eq]; exact h2)]
        omega
      · rw [if_neg (by rw [decide_eq_true_iff]; omega), if_neg (by rw [decide_eq_true_iff]; omega), if_neg (by rw [beq_iff_eq]; exact h2)]
        omega
theorem plc_mono (l : List Nat) {a b : Nat} (h : a ≤ b) : plcL l a ≤ plcL l b := by
  induction h with
  | refl => exact Nat.le_refl _
  | step h ih =>
    rw [plc_up]
    omega
theorem plc_le (l : List Nat) (k : Nat) : plcL l k ≤ l.length := List.countP_le_length
theorem cnt_le (l : List Nat) (k : Nat) : cntL l k ≤ l.length := List.countP_le_length
theorem idx_row {l : List Nat} {s : Nat} (h : s < l.length) : plcL l (l.getD s 0) ≤ idxL l s ∧ idxL l s < plcL l (l.getD s 0 + 1) := by
  have h1 := rnk_lt l h (Nat.le_refl _)
  rw [rnk_all] at h1
  rw [plc_up]
  unfold idxL
  omega
theorem idx_lt {l : List Nat} {s : Nat} (h : s < l.length) : idxL l s < l.length := by
  have h1 := (idx_row h).2
  have h2 := plc_le l (l.getD s 0 + 1)
  omega
theorem idx_one {l : List Nat} {s t : Nat} (hs : s < l.length) (ht : t < l.length) (h : idxL l s = idxL l t) : s = t := by
  have a := idx_row hs
  have b := idx_row ht
  by_cases e : l.getD s 0 = l.getD t 0
  · by_cases e1 : s < t
    · have h1 := rnk_lt l e1 (Nat.le_of_lt ht)
      unfold idxL at h
      rw [← e] at h
      omega
    · by_cases e2 : t < s
      · have h1 := rnk_lt l e2 (Nat.le_of_lt hs)
        unfold idxL at h
        rw [e] at h
        omega
      · omega
  · by_cases e1 : l.getD s 0 < l.getD t 0
    · have := plc_mono l (show l.getD s 0 + 1 ≤ l.getD t 0 by omega)
      omega
    · have := plc_mono l (show l.getD t 0 + 1 ≤ l.getD s 0 by omega)
      omega
theorem idx_onto {l : List Nat} {i : Nat} (h : i < l.length) : ∃ s, s < l.length ∧ idxL l s = i := by
  have hp := perm_of_nodup ((List.range l.length).map (idxL l)) l.length (by
    unfold List.Nodup
    rw [List.pairwise_map]
    refine List.Pairwise.imp_of_mem ?_ (List.nodup_range (n := l.length))
    intro a b ha hb hab e
    exact hab (idx_one (List.mem_range.1 ha) (List.mem_range.1 hb) e)) (by
    intro x hx
    obtain ⟨s, hs, rfl⟩ := List.mem_map.1 hx
    exact idx_lt (List.mem_range.1 hs)) (by rw [List.length_map, List.length_range])
  obtain ⟨s, hs, e⟩ := List.mem_map.1 (hp.mem_iff.2 (List.mem_range.2 h))
  exact ⟨s, List.mem_range.1 hs, e⟩
/-- Who stands in a row of one length. -/
theorem idx_of_row {l : List Nat} {s k : Nat} (hs : s < l.length) (h1 : plcL l k ≤ idxL l s) (h2 : idxL l s < plcL l (k + 1)) : l.getD s 0 = k := by
  have a := idx_row hs
  by_cases e1 : l.getD s 0 < k
  · have := plc_mono l (show l.getD s 0 + 1 ≤ k by omega)
    omega
  · by_cases e2 : k < l.getD s 0
    · have := plc_mono l (show k + 1 ≤ l.getD s 0 by omega)
      omega
    · omega
/-- Symbols by their lengths. -/
def SymOk (l : List Nat) (F : Nat → Nat) (i : Nat) : Prop := ∀ s, s < i → F (idxL l s) = s
theorem SymOk.step {l : List Nat} {F : Nat → Nat} {i : Nat} (h : SymOk l F i) (hi : i < l.length) : SymOk l (fun j => if j = idxL l i then i else F j) (i + 1) := by
  intro s hs
  show (if idxL l s = idxL l i then i else F (idxL l s)) = s
  by_cases e : s = i
  · subst e
    rw [if_pos rfl]
  · rw [if_neg (fun h2 => e (idx_one (by omega) hi h2))]
    exact h s (by omega)
theorem SymOk.get {l : List Nat} {F : Nat → Nat} (h : SymOk l F l.length) {i : Nat} (hi : i < l.length) : F i < l.length ∧ idxL l (F i) = i := by
  obtain ⟨s, hs, rfl⟩ := idx_onto hi
  rw [h s hs]
  exact ⟨hs, rfl⟩

/-- The first code of each length. -/
theorem cd_row (l : List Nat) (k : Nat) : ∀ i, i ≤ l.length → cd l k i = cd l k 0 + rnkL l k i
  | 0, _ => rfl
  | i + 1, h => by
    have ih := cd_row l k i (by omega)
    rw [rnk_step l k i (by omega)]
    by_cases e : l.getD i 0 = k
    · rw [cd_put (by omega) e, if_pos e, ih]
      omega
    · rw [cd_skip (by omega) e, if_neg e, ih]
      rfl
theorem cd_next (l : List Nat) {k : Nat} (hk : k < 20) : cd l (k + 1) 0 = (cd l k 0 + cntL l k) * 2 := by
  rw [cd_up (Nat.le_refl l.length) hk, cd_row l k l.length (Nat.le_refl _), rnk_all]
  omega
theorem cd_nought (l : List Nat) : cd l 0 0 = 0 := by
  unfold cd
  rw [pos_none, Nat.zero_div]
theorem code_row {l : List Nat} {s : Nat} (hs : s < l.length) : codeN l s = cd l (l.getD s 0) 0 + rnkL l (l.getD s 0) s := by
  rw [← cd_code (n := l.getD s 0) (i := s) rfl, cd_row l _ s (by omega)]
theorem code_idx {l : List Nat} {s : Nat} (hs : s < l.length) : codeN l s + plcL l (l.getD s 0) = cd l (l.getD s 0) 0 + idxL l s := by
  rw [code_row hs]
  unfold idxL
  omega
/-- Behind all codes, of 2^20. -/
theorem cd_last {l : List Nat} (h : Fits l) : cd l 20 0 + cntL l 20 = sumP l := by
  rw [← rnk_all, ← cd_row l 20 l.length (Nat.le_refl _)]
  unfold cd
  rw [pos_up 20 l l.length (Nat.le_refl _), pos_all 21 l fun x hx => by have := h.high x hx; omega]
  show sumP l / 2 ^ (20 - 20) = _
  rw [Nat.sub_self, Nat.pow_zero, Nat.div_one]

set_option maxRecDepth 100000 in
/-- What is no shorter code stands behind them. -/
theorem first_le {l bs : List Nat} (h : Fits l) (hb : Bit01 bs) {n : Nat} (hn : n ≤ bs.length) (h20 : n ≤ 20) (hc : Clear l bs n) (hs : val (bs.take n) * pw n < sumP l) : cd l n 0 ≤ val (bs.take n) := by
  obtain ⟨i, hi⟩ := (clear_begin h hb hn h20 hc).2 hs
  have a := begin_lie h hi
  have b : pos n 0 l ≤ lie l i := by
    unfold lie
    rcases Nat.lt_or_ge n (l.getD i 0) with h1 | h1
    · exact Nat.le_trans (pos_lines l h1 0) (pos_row _ l (Nat.zero_le _))
    · have := hi.2.1
      rw [show l.getD i 0 = n by omega]
      exact pos_row n l (Nat.zero_le _)
  have hp := pw_pos (l.getD i 0)
  have hd : cd l n 0 * pw n = pos n 0 l := Nat.div_mul_cancel (pos_dvd n h20 l 0)
  have h3 : cd l n 0 * pw n < (val (bs.take n) + 1) * pw n := by omega
  have := Nat.lt_of_mul_lt_mul_right h3
  omega
/-- Which symbol's code stands there. -/
theorem at_row {l : List Nat} {F : Nat → Nat} (h : Fits l) (hF : SymOk l F l.length) {n v : Nat} (h1 : cd l n 0 ≤ v) (h2 : v - cd l n 0 < cntL l n) : plcL l n + (v - cd l n 0) < l.length ∧ isAt l n v = some (F (plcL l n + (v - cd l n 0))) := by
  have hp := plc_up l n
  have hle := plc_le l (n + 1)
  have hlt : plcL l n + (v - cd l n 0) < l.length := by omega
  refine ⟨hlt, isAt_some h ?_⟩
  obtain ⟨hs, hi⟩ := hF.get hlt
  generalize F (plcL l n + (v - cd l n 0)) = s at *
  have hk : l.getD s 0 = n := idx_of_row hs (by omega) (by omega)
  have hcode := code_idx hs
  rw [hk] at hcode
  exact ⟨hs, hk, by omega⟩
theorem at_none {l : List Nat} {n v : Nat} (h2 : cntL l n ≤ v - cd l n 0) : isAt l n v = none := by
  cases e : isAt l n v with
  | none => rfl
  | some s =>
    exfalso
    obtain ⟨h3, h4, h5⟩ := isAt_is e
    have h6 := code_row h3
    have h7 := rnk_lt l h3 (Nat.le_refl _)
    rw [rnk_all] at h7
    rw [h4] at h6 h7
    omega
theorem at_beyond {l : List Nat} (h : Fits l) {n v : Nat} (hs : ¬ v * pw n < sumP l) : isAt l n v = none := by
  cases e : isAt l n v with
  | none => rfl
  | some s =>
    exfalso
    have h3 := isAt_is e
    have h4 := begin_lie h h3.begin
    have h5 := lie_in h h3.1
    have := pw_pos (l.getD s 0)
    omega
end Go.Proofs.Ytmgmgmbpldboiaa
namespace Go.Proofs.Ytmgmgmbpldboiaa
open Go.RowKit
variable {P : Program}

set_option maxRecDepth 100000 in
theorem results_cell {fn : Func} {p : Tmp} {ty t : TypeId} {tmps : Array Value} {w : World} {g n : Nat} {e : TypeId} {cs : Array Value} {fr : Nat × Nat} (h : fn.results = #[.cell p ty])
    (hp : tmps.getD p undef = .pointer (some ⟨g, 0, none⟩)) (hg : w.heap[g]? = some (.cells cs t fr)) (hu : P.underlying ty = some (.array n e)) (hi : (P.info? ty).map (·.size) = some cs.size) :
    (results fn tmps).run P w = .ok (.agg cs) w := by
  have := run_loadVar_row (P := P) w g t ty cs fr _ hg hu rfl hi
  rw [Array.getD_eq_getD_getElem?] at hp
  simp only [results, h]
  simp [hp, asAddr, this]

set_option maxRecDepth 100000 in
theorem store_cells_row {w : World} {t ty : TypeId} {g : Nat} {old cs : Array Value} (hg : w.heap[g]? = some (.cells old t (0, 0))) (hi : (P.info? ty).map (·.size) = some cs.size) (ho : old.size = cs.size) (h1 : cs.all (·.oneCell') = true) :
    (storeCells ⟨g, 0, none⟩ cs.toList 0).run P w = .ok () (w.setRow g cs) := by
  have := run_storeVar_row (P := P) w g t ty old cs hg hi ho h1
  cases hq : P.info? ty with
  | none => simp [hq] at hi
  | some i =>
    have hs : cs.size = i.size := by simp [hq] at hi; omega
    simpa [storeVar, sizeOf, typeInfo, hq, Value.cells, hs] using this

theorem below_setRow {B : Nat} {w w' : World} (h : Below B w w') {g : Nat} (hg : B ≤ g) (cs : Array Value) : Below B w (w'.setRow g cs) :=
  ⟨h.os, h.tape, h.output, by rw [size_setRow]; exact h.size, fun k hk => by rw [setRow_other _ _ _ _ (by omega)]; exact h.block k hk⟩
theorem heap_alloc_past (w : World) (o : Obj) (k : Nat) (h : k < w.heap.size) : (w.alloc o).heap[k]? = w.heap[k]? := by
  show (w.heap.push o)[k]? = _
  rw [Array.getElem?_push, if_neg (by omega)]

end Go.Proofs.Ytmgmgmbpldboiaa
namespace Go.Proofs.Ytmgmgmbpldboiaa
open Go.RowKit

/-- An array of 21 numbers. -/
def arrP (f : Nat → Nat) : Array Value := (Array.range 21).map fun i => .int .i64 (f i)
set_option maxRecDepth 100000 in
theorem arrP_size (f : Nat → Nat) : (arrP f).size = 21 := by simp [arrP]
set_option maxRecDepth 100000 in
theorem arrP_zero : arrP (fun _ => 0) = Array.replicate 21 (.int .i64 0) := by
  apply Array.ext
  · simp [arrP]
  · intro i h1 h2
    simp [arrP]
theorem zeroP : (∀ w, (zeroValue 96).run Try.prog w = .ok (.agg (arrP fun _ => 0)) w) ∧ (Try.prog.info? 96).map (·.size) = some 21 := by
  rw [arrP_zero]
  exact zero_of_info (by kernel_rfl)
set_option maxRecDepth 100000 in
theorem arrP_set (f : Nat → Nat) (b x : Nat) : (arrP f).setIfInBounds b (.int .i64 x) = arrP fun i => if i = b then x else f i := by
  apply Array.ext
  · simp [arrP]
  · intro i h1 h2
    rw [Array.getElem_setIfInBounds (by simpa [arrP] using h2)]
    by_cases e : b = i
    · subst e
      simp [arrP]
    · rw [if_neg e]
      have e2 : ¬ i = b := fun h => e h.symm
      simp [arrP, e2]
set_option maxRecDepth 100000 in
theorem arrP_one (f : Nat → Nat) : (arrP f).all (·.oneCell') = true := by
  rw [Array.all_eq_true]
  intro i h
  simp [arrP, Value.oneCell']
set_option maxRecDepth 100000 in
theorem arrP_get (f : Nat → Nat) (i : Nat) (h : i < 21) : (arrP f)[i]? = some (.int .i64 (f i : Nat)) := by
  simp [arrP, h]
set_option maxRecDepth 100000 in
theorem two_arr (w : World) (a b : Array Value) (t : TypeId) : Blk ((w.alloc (.cells a t)).alloc (.cells b t)) w.heap.size t a ∧ Blk ((w.alloc (.cells a t)).alloc (.cells b t)) (w.heap.size + 1) t b := by
  have e1 : (w.alloc (.cells a t)).heap.size = w.heap.size + 1 := by simp
  refine ⟨?_, ?_⟩
  · show (World.alloc _ _).heap[_]? = _
    rw [heap_alloc_past _ _ _ (by simp)]
    exact blk_new w t a
  · rw [← e1]
    exact blk_new _ t b
theorem blk_beside {w : World} {g k : Nat} {t : TypeId} {cs : Array Value} (h : Blk w g t cs) (hne : g ≠ k) (i : Nat) (u : Value) : Blk (w.setCell ⟨k, i, none⟩ u) g t cs := by
  show (w.setCell ⟨k, i, none⟩ u).heap[g]? = _
  rw [Below.heap_setCell w ⟨k, i, none⟩ u g hne]
  exact h

set_option maxRecDepth 100000 in
theorem rangeAt_of_blk {w : World} {g : Nat} {t : TypeId} {cs : Array Value} (h : Blk w g t cs) : w.rangeAt g 0 cs.toList := by
  intro j v hv
  rw [Nat.zero_add, blk_cell h]
  simpa using hv
/-- Lengths that are read. -/
theorem len_cells {w : World} {A : Option Addr} {n : Nat} {L : List Int} (hL : ZIn w A n L) (hok : LenOk L) : ∃ b off, A = some ⟨b, off, none⟩ ∧ ∀ i, i < n → w.cell? ⟨b, off + i, none⟩ = some (.int .i64 ((nl L).getD i 0 : Nat)) := by
  have hln := hL.1
  have hn1 : 2 ≤ n := by have := hok.1; omega
  obtain ⟨b, off, rfl, hc⟩ := hL.2 (by omega)
  refine ⟨b, off, rfl, fun i hi => ?_⟩
  rw [hc i hi, nl_get]
  have : 0 ≤ L.getD i 0 := by
    rw [List.getD_eq_getElem?_getD, List.getElem?_eq_getElem (by omega)]
    have := (hok.2.2.1 L[i] (List.getElem_mem ..)).1
    show (0 : Int) ≤ L[i]
    omega
  rw [Int.toNat_of_nonneg this]

set_option maxHeartbeats 1600000 in
set_option maxRecDepth 100000 in
theorem count_any (w : World) (A : Option Addr) (n c : Nat) (L : List Int) (hL : ZIn w A n L) (hok : LenOk L) : Calls Try.prog 73 #[.slice A n c] w fun e w' => e = .returned (.agg (arrP (cntL (nl L)))) ∧ Below w.heap.size w w' := by
  have hln := hL.1
  have hn2 : n ≤ 258 := by have := hok.2.1; omega
  obtain ⟨b, off, rfl, hget⟩ := len_cells hL hok
  have hfit := fits_of hok
  obtain ⟨l, hl⟩ : ∃ l, l = nl L := ⟨_, rfl⟩
  have hll : l.length = n := by rw [hl, nl_length, hln]
  rw [← hl] at hget hfit ⊢
  have HF := Lib.hid hfit
  have HLL := Lib.hid hll
  have HGET := Lib.hid hget
  obtain ⟨hz, hi⟩ := zeroP
  have HI := Lib.hid hi
  have HS := Lib.hid arrP_size
  have HSET := Lib.hid arrP_set
  have HO := Lib.hid arrP_one
  have HG := Lib.hid arrP_get
  generalize arrP = T at *
  clear hi hl hok hL hln hfit hll hget
  go_enter Try.func73, Try.ntmps73
  go_wp2_with fail
  go_loopw [5, 8] (fun s5 x wx => ∃ q : Nat, q ≤ n ∧ x = .int .i64 q ∧ Blk wx w.heap.size 96 (T fun _ => 0) ∧ Blk wx (w.heap.size + 1) 96 (T fun k => rnkL l k q) ∧ Below w.heap.size w wx) (fun _ x _ => n - (intOf x).toNat)
  case atStart =>
    obtain ⟨h1, h2⟩ := two_arr w (T fun _ => 0) (T fun _ => 0) 96
    exact ⟨0, Nat.zero_le _, rfl, h1, h2, ((Below.refl _ w).alloc (Nat.le_refl _) _).alloc (by simp) _⟩
  case round =>
    obtain ⟨q, hq, rfl, hb0, hb1, hb⟩ := hrel
    have H0 := Lib.hid hb0
    have H1 := Lib.hid hb1
    have HB := Lib.hid hb
    have hz9 := hb.size
    by_cases e : q < n
    · have d0 : decide ((q : Int) < (n : Int)) = true := decide_eq_true (by omega)
      have hcw := HGET.out q e
      have hlt := World.block_lt_of_cell? w _ hcw
      have hcq := (HB.out.cell (p := ⟨b, off + q, none⟩) hlt).trans hcw
      have hk20 := (HF.out.one (i := q) (by rw [HLL.out]; exact e)).2
      have hstep := rnk_step l (l.getD q 0) q (by rw [HLL.out]; exact e)
      rw [if_pos rfl] at hstep
      obtain ⟨k, hk⟩ : ∃ k, k = l.getD q 0 := ⟨_, rfl⟩
      rw [← hk] at hcq hk20 hstep
      have hk21 : k < 21 := by omega
      have hc := blk_cell hb1 k
      have hf := blk_frozen hb1 k
      rw [HG.out _ k hk21] at hc
      have hcl := rnk_le l k q
      rw [HLL.out] at hcl
      obtain ⟨c1, hc1⟩ : ∃ c1, c1 = rnkL l k q := ⟨_, rfl⟩
      rw [← hc1] at hc hcl hstep
      have HK := Lib.hid hk
      have HST := Lib.hid hstep
      have HC1 := Lib.hid hc1
      have hsz := HS.out fun k => rnkL l k q
      clear hb0 hb1 hb hcw hlt hk hstep hc1 hz
      go_wp2_with fail
      go_roundw
      case rel =>
        refine ⟨q + 1, by omega, by go_num, blk_beside H0.out (by omega) _ _, ?_, HB.out.setCell (by show _ ≤ w.heap.size + 1; omega) _⟩
        have h1 := blk_set H1.out k (.int .i64 ((c1 + 1 : Nat) : Int))
        rw [HSET.out] at h1
        have e2 : (fun i => if i = k then c1 + 1 else rnkL l i q) = fun i => rnkL l i (q + 1) := by
          funext i
          by_cases ei : i = k
          · rw [if_pos ei, ei, HST.out]
          · rw [if_neg ei, rnk_step l i q (by rw [HLL.out]; exact e), if_neg (by rw [← HK.out]; exact fun h => ei h.symm)]
            rfl
        rw [e2] at h1
        exact h1
      case measure => simp [intOf]; omega
    · obtain rfl : q = n := by omega
      have d0 : decide ((q : Int) < (q : Int)) = false := decide_eq_false (by omega)
      have e2 : (fun k => rnkL l k q) = cntL l := by
        funext k
        rw [← HLL.out, rnk_all]
      rw [e2] at hb1
      have HI' : Hid ((Try.prog.info? 96).map (·.size) = some (T (cntL l)).size) := Lib.hid (by rw [HS.out]; exact HI.out)
      have H1 := Lib.hid hb1
      have hsz := HS.out (cntL l)
      clear hb0 hb1 hb hz e2
      have hst := store_cells_row (P := Try.prog) H0.out HI'.out (by rw [HS.out, HS.out]) (HO.out _)
      go_upto_region 7 with fail
      refine wp_region_lit (wpList_load_mid rfl _ _ rfl _ _ rfl (T (cntL l)).toList _ (rangeAt_of_blk H1.out) Try.underlying96 rfl HI'.out ?_)
      rw [Array.toArray_toList]
      go_wp2_with fail
      refine bodyPost_ret (v := .agg (T (cntL l))) (results_cell rfl rfl (setRow_heap _ _ _ _ _ _ H0.out) Try.underlying96 HI'.out) rfl ⟨rfl, ?_⟩
      exact below_setRow HB.out (Nat.le_refl _) _

end Go.Proofs.Ytmgmgmbpldboiaa
namespace Go.Proofs.Ytmgmgmbpldboiaa
open Go.RowKit

set_option maxHeartbeats 1600000 in
set_option maxRecDepth 100000 in
theorem order_any (w : World) (A : Option Addr) (n c : Nat) (L : List Int) (hL : ZIn w A n L) (hok : LenOk L) : Calls Try.prog 74 #[.slice A n c, .agg (arrP (plcL (nl L)))] w fun e w' => ∃ g F, e = .returned (.slice (some ⟨g, 0, none⟩) n n) ∧ FRow w' w.heap.size g n n F ∧ SymOk (nl L) F n ∧ Below w.heap.size w w' := by
  have hln := hL.1
  have hn2 : n ≤ 258 := by have := hok.2.1; omega
  obtain ⟨b, off, rfl, hget⟩ := len_cells hL hok
  have hfit := fits_of hok
  obtain ⟨l, hl⟩ : ∃ l, l = nl L := ⟨_, rfl⟩
  have hll : l.length = n := by rw [hl, nl_length, hln]
  rw [← hl] at hget hfit ⊢
  have HF := Lib.hid hfit
  have HLL := Lib.hid hll
  have HGET := Lib.hid hget
  have HS := Lib.hid arrP_size
  have HSET := Lib.hid arrP_set
  have HG := Lib.hid arrP_get
  generalize arrP = T at *
  have hmk := make_noughts (w.alloc (.cells (T (plcL l)) 96)) n (by omega)
  clear hl hok hL hln hfit hll hget
  have HR0 : Hid (FRow ((w.alloc (.cells (T (plcL l)) 96)).alloc (.cells (madeCells #[.int .i64 0] n) 3)) w.heap.size (w.heap.size + 1) n n fun _ => 0) := Lib.hid (by
    have h := made_noughts (w.alloc (.cells (T (plcL l)) 96)) w.heap.size n (by simp) (by omega)
    simpa using h)
  have HB0 : Hid (Blk ((w.alloc (.cells (T (plcL l)) 96)).alloc (.cells (madeCells #[.int .i64 0] n) 3)) w.heap.size 96 (T (plcL l))) := Lib.hid (by
    show (World.alloc _ _).heap[_]? = _
    rw [heap_alloc_past _ _ _ (by simp)]
    exact blk_new w _ _)
  go_enter Try.func74, Try.ntmps74
  go_wp2_with fail
  go_loopw [6, 7, 13] (fun s6 s7 x wx => ∃ (q : Nat) (F : Nat → Nat), q ≤ n ∧ x = .int .i64 q ∧ Hid (SymOk l F q) ∧ Blk wx w.heap.size 96 (T fun k => plcL l k + rnkL l k q) ∧ FRow wx w.heap.size (w.heap.size + 1) n n F ∧ Below w.heap.size w wx) (fun _ _ x _ => n - (intOf x).toNat)
  case atStart => exact ⟨0, fun _ => 0, Nat.zero_le _, rfl, Lib.hid (fun s hs => by omega), HB0.out, HR0.out, ((Below.refl _ w).alloc (Nat.le_refl _) _).alloc (by simp) _⟩
  case round =>
    obtain ⟨q, F, hq, rfl, hsym, hb1, hrow, hb⟩ := hrel
    have H1 := Lib.hid hb1
    have HB := Lib.hid hb
    have HR := Lib.hid hrow
    have hz9 := hb.size
    by_cases e : q < n
    · have d0 : decide ((q : Int) < (n : Int)) = true := decide_eq_true (by omega)
      have hcw := HGET.out q e
      have hlt := World.block_lt_of_cell? w _ hcw
      have hcq := (HB.out.cell (p := ⟨b, off + q, none⟩) hlt).trans hcw
      have hk20 := (HF.out.one (i := q) (by rw [HLL.out]; exact e)).2
      have hstep := rnk_step l (l.getD q 0) q (by rw [HLL.out]; exact e)
      rw [if_pos rfl] at hstep
      have hix := idx_lt (l := l) (s := q) (by rw [HLL.out]; exact e)
      rw [HLL.out] at hix
      have hixd : idxL l q = plcL l (l.getD q 0) + rnkL l (l.getD q 0) q := rfl
      obtain ⟨k, hk⟩ : ∃ k, k = l.getD q 0 := ⟨_, rfl⟩
      rw [← hk] at hcq hk20 hstep hixd
      have hk21 : k < 21 := by omega
      have hc := blk_cell hb1 k
      have hf := blk_frozen hb1 k
      rw [HG.out _ k hk21] at hc
      obtain ⟨j, hj⟩ : ∃ j, j = idxL l q := ⟨_, rfl⟩
      rw [← hixd, ← hj] at hc
      rw [← hj] at hix hixd
      have hcj := hrow.cell j hix
      have hfj := hrow.frozen j
      have hsym2 : SymOk l (fun i => if i = j then q else F i) (q + 1) := by
        have h := hsym.out.step (by rw [HLL.out]; exact e)
        rw [← hj] at h
        exact h
      obtain ⟨v0, hv0⟩ : ∃ v0, v0 = F j := ⟨_, rfl⟩
      rw [← hv0] at hcj
      -- behind the first store
      have hc2 : (wr.setCell ⟨w.heap.size + 1, j, none⟩ (.int .i64 (q : Nat))).cell? ⟨w.heap.size, k, none⟩ = some (.int .i64 (j : Nat)) := by
        have h := blk_cell (blk_beside hb1 (k := w.heap.size + 1) (by omega) j (.int .i64 (q : Nat))) k
        rw [HG.out _ k hk21, ← hixd] at h
        exact h
      have hf2 := blk_frozen (blk_beside hb1 (k := w.heap.size + 1) (by omega) j (.int .i64 (q : Nat))) k
      have hrow2 := (hrow.set j q).other (g2 := w.heap.size) (by omega) k (.int .i64 ((j + 1 : Nat) : Int))
      have HR2 := Lib.hid hrow2
      have HSY := Lib.hid hsym2
      have HK := Lib.hid hk
      have HST := Lib.hid hstep
      have HJ := Lib.hid hixd
      have hj258 : j ≤ 258 := by omega
      clear hb1 hb hcw hlt hk hstep hrow hrow2 hsym hsym2 hixd hj hv0 hmk HR0 HB0
      go_wp2_with fail
      go_roundw
      case rel =>
        refine ⟨q + 1, _, by omega, by go_num, HSY, ?_, HR2.out, (HB.out.setCell (p := ⟨w.heap.size + 1, j, none⟩) (by show _ ≤ w.heap.size + 1; omega) _).setCell (p := ⟨w.heap.size, k, none⟩) (Nat.le_refl _) _⟩
        have h1 := blk_set (blk_beside H1.out (k := w.heap.size + 1) (by omega) j (.int .i64 (q : Nat))) k (.int .i64 ((j + 1 : Nat) : Int))
        rw [HSET.out] at h1
        have e2 : (fun i => if i = k then j + 1 else plcL l i + rnkL l i q) = fun i => plcL l i + rnkL l i (q + 1) := by
          funext i
          by_cases ei : i = k
          · rw [if_pos ei, ei, HST.out, HJ.out, Nat.add_assoc]
          · rw [if_neg ei, rnk_step l i q (by rw [HLL.out]; exact e), if_neg (by rw [← HK.out]; exact fun h => ei h.symm)]
            rfl
        rw [e2] at h1
        exact h1
      case measure => simp [intOf]; omega
    · obtain rfl : q = n := by omega
      have d0 : decide ((q : Int) < (q : Int)) = false := decide_eq_false (by omega)
      clear hb1 hb hrow hmk HR0 HB0
      go_wp2_with fail
      go_ret
      exact ⟨_, F, rfl, HR.out, hsym.out, HB.out⟩

end Go.Proofs.Ytmgmgmbpldboiaa
