/- Xe Of Xf: texts laid together, what is not used left out. -/
import Derived.Test.YtmgmgmbpldboiaaZ32
import Derived.Test.YtmgmgmbpldboiaaZ18
import Derived.Deep.CutBlock
import Derived.StillTailTactics
import Derived.Deep.RegionWith
import Derived.Test.YtmgmgmbpldboiaaZ05
import Derived.Test.YtmgmgmbpldboiaaZ08
import Derived.Lib.AppendZeros
import Derived.Deep.QuietTactic
import Derived.BigQuiet
namespace Go.Proofs.Ytmgmgmbpldboiaa
open Go.RowKit

set_option maxRecDepth 100000 in
theorem FRow.setRow {w : World} {B g c n : Nat} {f : Nat → Nat} (h : FRow w B g c n f) {k : Nat} (hne : g ≠ k) (cs : Array Value) : FRow (w.setRow k cs) B g c n f := by
  refine ⟨h.1, ?_⟩
  rcases h.2 with ⟨h1, h2⟩ | ⟨g', cap, cur, hv, hB, hh, r⟩
  · exact .inl ⟨h1, h2⟩
  · have hg : g' = g := by
      simp only [Value.slice.injEq, Option.some.injEq, Addr.mk.injEq] at hv
      exact hv.1.1.symm
    refine .inr ⟨g', cap, cur, hv, hB, ?_, r⟩
    rw [setRow_other _ _ _ _ (by omega)]
    exact hh
theorem blk_setCells_apart {g k : Nat} {t : TypeId} {cs : Array Value} (hne : g ≠ k) : ∀ (vs : List Value) (o : Nat) (w : World), Blk w g t cs → Blk (w.setCells k o vs) g t cs
  | [], _, _, h => h
  | v :: vs, o, w, h => by
    rw [World.setCells]
    exact blk_setCells_apart hne vs _ _ (blk_beside h hne o v)
/-- A table that is none. -/
def tb0 : Array Value := tb (.slice none 0 0) (fun _ => 0) (fun _ => 0) (fun _ => 0) (.slice none 0 0)
theorem tb0_size : tb0.size = 65 := tb_size ..
theorem tb0_one : tb0.all (·.oneCell') = true := tb_one _ _ _ _ _ rfl rfl
theorem setRow_self (w : World) (g : Nat) (cs : Array Value) (t : TypeId) (h : Blk w g t cs) : Blk (w.setRow g cs) g t cs := setRow_heap _ _ _ _ _ _ h

set_option maxRecDepth 100000 in
theorem results_row_tmp {P : Program} {fn : Func} {p u : Tmp} {ty : TypeId} (h : fn.results = #[.cell p ty, .tmp u]) (tmps : Array Value) (w : World) (g : Nat) (t : TypeId) (cs : Array Value) (fr : Nat × Nat) (d : TypeDesc)
    (hp : tmps.getD p undef = .pointer (some ⟨g, 0, none⟩)) (hg : w.heap[g]? = some (.cells cs t fr)) (hu : P.underlying ty = some d) (hd : d.isRow = true) (hi : (P.info? ty).map (·.size) = some cs.size) (v : Value) (hv : tmps.getD u undef = v) :
    (results fn tmps).run P w = .ok (.tuple #[.agg cs, v]) w := by
  rw [results_cell_tmp h, hp, hv]
  have := run_loadVar_mid (P := P) w g 0 ty cs.toList d (fun j v hv => by rw [Nat.zero_add, cell_of_row w g j cs t fr hg]; simpa using hv) hu hd (by simpa using hi)
  simp [asAddr, this, Result.andThen]
set_option maxRecDepth 100000 in
theorem wpList_move_step {P : Program} {ops : Array Oper} {rest : List Oper} {o : Oper} {a : Act} {w : World} {Q : Exit → Act → World → Prop} {x : Operand}
    (hw : Region.wanted o (yielded ops a.tmps) = true) (hop : o.op = .move x) (hn : wpList P ops Q rest (a.put o.dst (a.eval x)) w) : wpList P ops Q (o :: rest) a w := by
  unfold wpList
  rw [if_pos hw]
  left
  unfold Oper.wp
  simp [execOp, hop]
  exact hn
theorem wpList_built {P : Program} {ops : Array Oper} {rest : List Oper} {o : Oper} {a : Act} {w : World} {Q : Exit → Act → World → Prop} (hg : o.guard = none) (t : TypeId) (parts : Array (Nat × Operand)) (ho : o.op = .build t parts)
    (ps : List (Nat × Value)) (hps : (parts.map fun (i, x) => (i, a.eval x)).toList = ps) (cs : Array Value) (hb : P.built t ps = some cs)
    (h : wpList P ops Q rest (a.put o.dst (.agg cs)) w) : wpList P ops Q (o :: rest) a w := by
  refine wpList_build hg t parts ho ?_ ?_
  · rw [hps, hb]
    rfl
  · rw [hps, hb]
    exact h

set_option maxHeartbeats 1600000 in
set_option maxRecDepth 100000 in
theorem tableOf_no (w : World) (A : Option Addr) (n c : Nat) (L : List Int) (hL : ZIn w A n L) (hn : n ≤ maxLen) (h : ¬ LenOk L) : Calls Try.prog 56 #[.slice A n c] w fun e w' => e = .returned (.tuple #[.agg tb0, .int .i64 80]) ∧ Below w.heap.size w w' := by
  have hz := zeroTb.1
  have hi := zeroTb.2
  have hbt := builtTb0
  rw [show tb (.slice none 0 0) (fun _ => 0) (fun _ => 0) (fun _ => 0) (.slice none 0 0) = tb0 from rfl] at hz hbt
  have hb1 : Below w.heap.size w (w.alloc (.cells tb0 98)) := (Below.refl _ w).alloc (Nat.le_refl _) _
  have HC := Lib.hid (ccheck_any (w.alloc (.cells tb0 98)) A n c L (hL.below hb1) hn)
  rw [if_neg h] at HC
  have hk := blk_new w 98 tb0
  have HK := Lib.hid hk
  have HS := Lib.hid tb0_size
  have HO := Lib.hid tb0_one
  have HI := Lib.hid hi
  have HBT := Lib.hid hbt
  generalize tb0 = Z at *
  have HB1 := Lib.hid hb1
  clear hL h hb1 hk hi hbt
  go_enter Try.func56, Try.ntmps56
  go_wp2_with fail
  clear hz
  refine HC.out.mono ?_
  rintro e w2 ⟨rfl, rfl⟩
  generalize w.alloc (.cells Z 98) = w1 at *
  have HI2 : Hid ((Try.prog.info? 98).map (·.size) = some Z.size) := Lib.hid (by rw [HS.out]; exact HI.out)
  go_upto_region 3 with fail
  refine wp_region_lit (wpList_built rfl _ _ rfl [] (by simp) Z HBT.out ?_)
  have hst := store_cells_row (P := Try.prog) HK.out HI2.out rfl HO.out
  go_wp2_with fail
  exact bodyPost_ret (v := .tuple #[.agg Z, .int .i64 80]) (results_row_tmp rfl _ _ _ _ _ _ _ rfl (setRow_self _ _ _ _ HK.out) Try.underlying98 rfl HI2.out _ rfl) rfl ⟨rfl, below_setRow HB1.out (Nat.le_refl _) _⟩

theorem place_less (f : Nat → Nat) (k x : Nat) (h : x = f (k + 1)) : (fun i => if i = k + 1 then x else if i ≤ k then f i else 0) = fun i => if i ≤ k + 1 then f i else 0 := by
  funext i
  by_cases e : i = k + 1
  · rw [if_pos e, if_pos (by omega), e, h]
  · rw [if_neg e]
    by_cases e2 : i ≤ k
    · rw [if_pos e2, if_pos (by omega)]
    · rw [if_neg e2, if_neg (by omega)]
theorem place_none (f : Nat → Nat) (h : f 0 = 0) : (fun i => if i ≤ 0 then f i else 0) = fun _ => 0 := by
  funext i
  by_cases e : i ≤ 0
  · rw [if_pos e, show i = 0 by omega, h]
  · rw [if_neg e]

set_option maxHeartbeats 1600000 in
set_option maxRecDepth 100000 in
theorem tableOf_yes (w : World) (A : Option Addr) (n c : Nat) (L : List Int) (hL : ZIn w A n L) (hn : n ≤ maxLen) (h : LenOk L) : Calls Try.prog 56 #[.slice A n c] w fun e w' =>
    ∃ g F, e = .returned (.tuple #[.agg (tb (.slice A n c) (cntL (nl L)) (fun k => cd (nl L) k 0) (plcL (nl L)) (.slice (some ⟨g, 0, none⟩) n n)), .int .i64 0]) ∧ FRow w' w.heap.size g n n F ∧ SymOk (nl L) F n ∧ Below w.heap.size w w' := by
  have hz := zeroTb.1
  have hi := zeroTb.2
  rw [show tb (.slice none 0 0) (fun _ => 0) (fun _ => 0) (fun _ => 0) (.slice none 0 0) = tb0 from rfl] at hz
  have hb1 : Below w.heap.size w (w.alloc (.cells tb0 98)) := (Below.refl _ w).alloc (Nat.le_refl _) _
  have HC := Lib.hid (ccheck_any (w.alloc (.cells tb0 98)) A n c L (hL.below hb1) hn)
  rw [if_pos h] at HC
  have hk := blk_new w 98 tb0
  have HK := Lib.hid hk
  have HS := Lib.hid tb0_size
  have HO := Lib.hid tb0_one
  have HI := Lib.hid hi
  have HBT := Lib.hid (builtTb A n c)
  have HB1 := Lib.hid hb1
  have HLZ := Lib.hid (hL.below hb1)
  have HOK := Lib.hid h
  have HLZ0 := Lib.hid hL
  obtain ⟨l, hl⟩ : ∃ l, l = nl L := ⟨_, rfl⟩
  have hfit := fits_of HOK.out
  have hll : l.length = n := by rw [hl, nl_length, HLZ.out.1]
  have hn2 : n ≤ 258 := by
    have := HOK.out.2.1
    rw [HLZ.out.1] at this
    exact this
  rw [← hl] at hfit
  rw [← hl]
  have HFIT := Lib.hid hfit
  have HLL := Lib.hid hll
  have HL := Lib.hid hl
  clear hfit hll hl
  generalize tb0 = Z at *
  clear hL h hb1 hk hi
  go_enter Try.func56, Try.ntmps56
  go_wp2_with fail
  refine HC.out.mono ?_
  rintro e w2 ⟨rfl, rfl⟩
  obtain ⟨T0, hT0⟩ : ∃ T0, T0 = tb (.slice A n c) (fun _ => 0) (fun _ => 0) (fun _ => 0) (.slice none 0 0) := ⟨_, rfl⟩
  rw [← hT0] at HBT
  have hsz0 : T0.size = 65 := by rw [hT0, tb_size]
  have HT0 := Lib.hid hT0
  clear hT0
  have hsw1 : (w.alloc (.cells Z 98)).heap.size = w.heap.size + 1 := by simp
  have HSW1 := Lib.hid hsw1
  clear hsw1
  generalize w.alloc (.cells Z 98) = w1 at *
  go_upto_region 4 with fail
  refine wp_region_lit (wpList_move_step rfl rfl (wpList_built rfl _ _ rfl [(0, .slice A n c)] (by simp; rfl) T0 HBT.out ?_))
  have ht1 : T0.all (·.oneCell') = true := by rw [HT0.out]; exact tb_one _ _ _ _ _ rfl rfl
  have hi0 : (Try.prog.info? 98).map (·.size) = some T0.size := by rw [hsz0]; exact HI.out
  have hst0 := store_cells_row (P := Try.prog) (blk_new w1 98 Z) hi0 (by rw [HS.out, hsz0]) ht1
  have hk5 : Blk ((w1.alloc (.cells Z 98)).setRow w1.heap.size T0) w1.heap.size 98 T0 := setRow_heap _ _ _ _ _ _ (blk_new w1 98 Z)
  have hb5 : Below w1.heap.size w1 ((w1.alloc (.cells Z 98)).setRow w1.heap.size T0) := below_setRow ((Below.refl _ _).alloc (Nat.le_refl _) _) (Nat.le_refl _) _
  have HK5 := Lib.hid hk5
  have HB5 := Lib.hid hb5
  have hq0 : ((w1.alloc (.cells Z 98)).setRow w1.heap.size T0).cell? ⟨w1.heap.size, 0, none⟩ = some (.slice A n c) := by
    rw [blk_cell hk5, HT0.out, tb_head]
  have hkz5 := (step_of_below hb5).blk HK.out List.not_mem_nil List.not_mem_nil
  have HKZ5 := Lib.hid hkz5
  have HLZ5 := Lib.hid (HLZ.out.below hb5)
  have HBW := Lib.hid (HB1.out.trans (hb5.mono (by have := HSW1.out; omega)))
  have hsz5 : w1.heap.size < ((w1.alloc (.cells Z 98)).setRow w1.heap.size T0).heap.size := by rw [size_setRow]; simp
  clear ht1 hi0 hk5 hb5 hkz5
  go_upto_region 5 with fail
  clear hst0
  generalize (w1.alloc (.cells Z 98)).setRow w1.heap.size T0 = w5 at *
  have HCNT := Lib.hid (count_any w5 A n c L HLZ5.out HOK.out)
  rw [← HL.out] at HCNT
  clear hz
  go_wp2_with fail
  refine HCNT.out.mono ?_
  rintro e w6 ⟨rfl, hb6⟩
  have hk6 := (step_of_below hb6).blk HK5.out List.not_mem_nil List.not_mem_nil
  have hkz6 := (step_of_below hb6).blk HKZ5.out List.not_mem_nil List.not_mem_nil
  have hbw6 := HBW.out.trans (hb6.mono HBW.out.size)
  have hsz6 : w1.heap.size < w6.heap.size := Nat.lt_of_lt_of_le hsz5 hb6.size
  rw [HT0.out] at hk6
  have hth := tb_there hk6 1 21 (by omega)
  have hst6 := run_storeCells_cells (P := Try.prog) w1.heap.size 1 (arrP (cntL l)).toList 0 w6 (fun j hj => by
    have : (arrP (cntL l)).toList.length = 21 := arrP_size _
    have := (hth j (by omega)).1
    simpa using this) (fun j hj => by
    have : (arrP (cntL l)).toList.length = 21 := arrP_size _
    have := (hth j (by omega)).2
    simpa using this) (fun v hv => (Array.all_eq_true_iff_forall_mem.1 (arrP_one (cntL l))) v (by simpa using hv))
  simp only [Nat.add_zero] at hst6
  have hk7 := blk_setCells (arrP (cntL l)).toList _ 1 w6 hk6
  rw [tb_set_cnt] at hk7
  have HK7 := Lib.hid hk7
  have HKZ7 := Lib.hid (blk_setCells_apart (k := w1.heap.size) (by have := HSW1.out; omega) (arrP (cntL l)).toList 1 w6 hkz6)
  have HB7 := Lib.hid (below_setCells (g := w1.heap.size) (by have := HSW1.out; omega) (arrP (cntL l)).toList 1 w6 hbw6)
  have hsize : (arrP (cntL l)).size = 21 := arrP_size _
  clear hk6 hkz6 hbw6 hb6 hth hk7 HCNT HK5 HKZ5 HB5 HBW hq0
  generalize arrP (cntL l) = TK at *
  go_upto_region 6 with fail
  clear hst6
  have hsz7 : w1.heap.size < (w6.setCells w1.heap.size 1 TK.toList).heap.size := Nat.lt_of_lt_of_le hsz6 (below_setCells (g := w1.heap.size) (Nat.le_refl _) TK.toList 1 w6 (Below.refl w1.heap.size w6 |>.mono (Nat.le_refl _))).size
  generalize w6.setCells w1.heap.size 1 TK.toList = w7 at *
  obtain ⟨g5, hg5⟩ : ∃ g5, g5 = w1.heap.size := ⟨_, rfl⟩
  rw [← hg5] at HK7 hsz7 ⊢
  have hgl : w.heap.size < g5 := by have := HSW1.out; omega
  clear hsz5 hsz6 HSW1 HK HLZ HLZ5 HB1 HBT HO HC hsz0 hg5
  obtain ⟨K, hK⟩ : ∃ K, K = cntL l := ⟨_, rfl⟩
  rw [← hK] at HK7
  go_wp2_with fail
  go_loopw [6, 19] (fun s6 x wx => ∃ k : Nat, k ≤ 20 ∧ x = .int .i64 k ∧ Blk wx g5 98 (tb (.slice A n c) K (fun i => if i ≤ k then cd l i 0 else 0) (fun i => if i ≤ k then plcL l i else 0) (.slice none 0 0)) ∧ Blk wx w.heap.size 98 Z ∧ Below w.heap.size w wx ∧ g5 < wx.heap.size) (fun _ x _ => 20 - (intOf x).toNat)
  case atStart =>
    refine ⟨0, Nat.zero_le _, rfl, ?_, HKZ7.out, HB7.out, hsz7⟩
    have e1 := place_none (fun i => cd l i 0) (cd_nought l)
    have e2 := place_none (plcL l) (plc_zero l)
    rw [e1, e2]
    exact HK7.out
  case round =>
    obtain ⟨k, hk, rfl, hb1, hbz, hb, hsz8⟩ := hrel
    have H1 := Lib.hid hb1
    have HZ := Lib.hid hbz
    have HB := Lib.hid hb
    by_cases e : k < 20
    · have d0 : decide ((k : Int) < 20) = true := decide_eq_true (by omega)
      obtain ⟨k1, hk1⟩ : ∃ k1, k1 = k + 1 := ⟨_, rfl⟩
      have hkz : (k : Int) + 1 = (k1 : Int) := by omega
      have q1 := (blk_cell hb1 (22 + k)).trans (tb_first _ _ _ _ _ k (by omega))
      rw [if_pos (Nat.le_refl _)] at q1
      have q2 := (blk_cell hb1 (1 + k)).trans (tb_cnt _ _ _ _ _ k (by omega))
      have q3 := (blk_cell hb1 (22 + k1)).trans (tb_first _ _ _ _ _ k1 (by omega))
      have f3 := blk_frozen hb1 (22 + k1)
      have hf1 := cd_next l e
      rw [← hk1, ← hK] at hf1
      have hfle := cd_le HFIT.out (show k1 ≤ 20 by omega) 0
      have hcle := cnt_le l k
      rw [← hK] at hcle
      obtain ⟨x1, hx1⟩ : ∃ x1, x1 = cd l k 0 := ⟨_, rfl⟩
      obtain ⟨y1, hy1⟩ : ∃ y1, y1 = K k := ⟨_, rfl⟩
      obtain ⟨z1, hz1⟩ : ∃ z1, z1 = cd l k1 0 := ⟨_, rfl⟩
      rw [← hx1] at q1 hf1
      rw [← hy1] at q2 hf1 hcle
      rw [← hz1] at hf1 hfle
      have hzz : ((x1 : Int) + (y1 : Int)) * 2 = (z1 : Int) := by omega
      have hxb : x1 ≤ 1048576 := by omega
      have hyb : y1 ≤ 1048576 := by omega
      have HX1 := Lib.hid hx1
      have HY1 := Lib.hid hy1
      have HZ1 := Lib.hid hz1
      clear hb1 hbz hb hf1 hx1 hy1 hz1
      have hk20 : (k : Int) < 21 := by omega
      have hk120 : (k1 : Int) < 21 := by omega
      go_upto_region 9 with fail
      have h1d : Blk wr.drew g5 98 (tb (.slice A n c) K (fun i => if i ≤ k then cd l i 0 else 0) (fun i => if i ≤ k then plcL l i else 0) (.slice none 0 0)) := H1.out
      have hzd : Blk wr.drew w.heap.size 98 Z := HZ.out
      have hbd : Below w.heap.size w wr.drew := HB.out.drew
      have HH1 := Lib.hid h1d
      have HHZ := Lib.hid hzd
      have HHB := Lib.hid hbd
      have hszd : g5 < wr.drew.heap.size := hsz8
      have HSD := Lib.hid hszd
      clear h1d hzd hbd hszd
      have q3d : wr.drew.cell? ⟨g5, 22 + k1, none⟩ = some (.int .i64 ((if k1 ≤ k then cd l k1 0 else 0 : Nat) : Int)) := q3
      have f3d : wr.drew.frozen? ⟨g5, 22 + k1, none⟩ = false := f3
      have t1 : ({ heap := wr.heap, tape := wr.tape, drawn := wr.drawn + 1, os := wr.os, output := wr.output } : World).cell? ⟨g5, 22 + k, none⟩ = some (.int .i64 (x1 : Nat)) := q1
      have t2 : ({ heap := wr.heap, tape := wr.tape, drawn := wr.drawn + 1, os := wr.os, output := wr.output } : World).cell? ⟨g5, 1 + k, none⟩ = some (.int .i64 (y1 : Nat)) := q2
      obtain ⟨s1, hs1⟩ : ∃ s1, s1 = x1 + y1 := ⟨_, rfl⟩
      have hsI : (x1 : Int) + (y1 : Int) = (s1 : Int) := by omega
      have hs2 : (s1 : Int) * 2 = (z1 : Int) := by omega
      have w1' : IntKind.i64.wrap (k1 : Int) = (k1 : Int) := by rw [IntKind.wrap_i64]; omega
      have w2' : IntKind.i64.wrap (s1 : Int) = (s1 : Int) := by rw [IntKind.wrap_i64]; omega
      have w3' : IntKind.i64.wrap (z1 : Int) = (z1 : Int) := by rw [IntKind.wrap_i64]; omega
      have HK1 := Lib.hid hk1
      clear hzz hs1 hk1
      go_still_tail 14, (by kernel_rfl)
      change wpList _ _ _ _ _ wr.drew
      generalize wr.drew = wy at *
      clear q1 q2 q3 f3 t1 t2
      have hb2 := blk_set HH1.out (22 + k1) (.int .i64 (z1 : Nat))
      rw [tb_set_first _ _ _ _ _ k1 z1 (by omega)] at hb2
      have hpl : (fun i => if i = k1 then z1 else if i ≤ k then cd l i 0 else 0) = fun i => if i ≤ k1 then cd l i 0 else 0 := by
        rw [HK1.out]
        exact place_less (fun i => cd l i 0) k z1 (by rw [HZ1.out, HK1.out])
      rw [hpl] at hb2
      have HH2 := Lib.hid hb2
      have HHZ2 := Lib.hid (blk_beside HHZ.out (k := g5) (by omega) (22 + k1) (.int .i64 (z1 : Nat)))
      have HHB2 := Lib.hid (HHB.out.setCell (p := ⟨g5, 22 + k1, none⟩) (by show _ ≤ g5; omega) (.int .i64 (z1 : Nat)))
      have HSD2 : Hid (g5 < (wy.setCell ⟨g5, 22 + k1, none⟩ (.int .i64 (z1 : Nat))).heap.size) := Lib.hid (by simpa using HSD.out)
      clear hb2 hpl
      go_upto_region 10 with fail
      generalize wy.setCell ⟨g5, 22 + k1, none⟩ (.int .i64 (z1 : Nat)) = wz at *
      clear q3d f3d HH1 HHZ HHB HSD H1 HZ HB hxb hsI hs2 w2' w3'
      have r1 := (blk_cell HH2.out (43 + k)).trans (tb_place _ _ _ _ _ k (by omega))
      rw [if_pos (Nat.le_refl _)] at r1
      have r2 := (blk_cell HH2.out (1 + k)).trans (tb_cnt _ _ _ _ _ k (by omega))
      have r3 := (blk_cell HH2.out (43 + k1)).trans (tb_place _ _ _ _ _ k1 (by omega))
      have g3 := blk_frozen HH2.out (43 + k1)
      have hp1 := plc_up l k
      rw [← HK1.out, ← hK, ← HY1.out] at hp1
      have hple := plc_le l k1
      rw [HLL.out] at hple
      obtain ⟨x2, hx2⟩ : ∃ x2, x2 = plcL l k := ⟨_, rfl⟩
      obtain ⟨z2, hz2⟩ : ∃ z2, z2 = plcL l k1 := ⟨_, rfl⟩
      rw [← hx2] at r1 hp1
      rw [← hz2] at hp1 hple
      rw [← HY1.out] at r2
      have hsI : (x2 : Int) + (y1 : Int) = (z2 : Int) := by omega
      have w2' : IntKind.i64.wrap (z2 : Int) = (z2 : Int) := by rw [IntKind.wrap_i64]; omega
      have HZ2 := Lib.hid hz2
      clear hp1 hx2 hz2
      have h1d : Blk wz.drew g5 98 (tb (.slice A n c) K (fun i => if i ≤ k1 then cd l i 0 else 0) (fun i => if i ≤ k then plcL l i else 0) (.slice none 0 0)) := HH2.out
      have hzd : Blk wz.drew w.heap.size 98 Z := HHZ2.out
      have hbd : Below w.heap.size w wz.drew := HHB2.out.drew
      have HH3 := Lib.hid h1d
      have HHZ3 := Lib.hid hzd
      have HHB3 := Lib.hid hbd
      have hszd : g5 < wz.drew.heap.size := HSD2.out
      have HSD3 := Lib.hid hszd
      clear h1d hzd hbd hszd
      have q3d : wz.drew.cell? ⟨g5, 43 + k1, none⟩ = some (.int .i64 ((if k1 ≤ k then plcL l k1 else 0 : Nat) : Int)) := r3
      have f3d : wz.drew.frozen? ⟨g5, 43 + k1, none⟩ = false := g3
      have t1 : ({ heap := wz.heap, tape := wz.tape, drawn := wz.drawn + 1, os := wz.os, output := wz.output } : World).cell? ⟨g5, 43 + k, none⟩ = some (.int .i64 (x2 : Nat)) := r1
      have t2 : ({ heap := wz.heap, tape := wz.tape, drawn := wz.drawn + 1, os := wz.os, output := wz.output } : World).cell? ⟨g5, 1 + k, none⟩ = some (.int .i64 (y1 : Nat)) := r2
      go_still_tail 13, (by kernel_rfl)
      change wpList _ _ _ _ _ wz.drew
      generalize wz.drew = wq at *
      clear r1 r2 r3 g3 t1 t2
      go_wp2_with fail
      go_roundw
      case rel =>
        refine ⟨k1, by have := HK1.out; omega, by first | rfl | go_num, ?_, blk_beside HHZ3.out (k := g5) (by omega) _ _, HHB3.out.setCell (p := ⟨g5, 43 + k1, none⟩) (by show _ ≤ g5; omega) _, by simpa using HSD3.out⟩
        have hb3 := blk_set HH3.out (43 + k1) (.int .i64 (z2 : Nat))
        rw [tb_set_place _ _ _ _ _ k1 z2 (by omega)] at hb3
        have hpl : (fun i => if i = k1 then z2 else if i ≤ k then plcL l i else 0) = fun i => if i ≤ k1 then plcL l i else 0 := by
          rw [HK1.out]
          exact place_less (plcL l) k z2 (by rw [HZ2.out, HK1.out])
        rw [hpl] at hb3
        exact hb3
      case measure =>
        have := HK1.out
        simp [intOf]
        omega
    · obtain rfl : k = 20 := by omega
      have d0 : decide ((20 : Int) < 20) = false := decide_eq_false (by omega)
      have hsame : tb (.slice A n c) K (fun i => if i ≤ 20 then cd l i 0 else 0) (fun i => if i ≤ 20 then plcL l i else 0) (.slice none 0 0) = tb (.slice A n c) K (fun i => cd l i 0) (plcL l) (.slice none 0 0) := tb_same (fun _ _ => rfl) (fun i hi => if_pos (by omega)) (fun i hi => if_pos (by omega))
      rw [hsame] at hb1
      have H2 := Lib.hid hb1
      have hq0 := (blk_cell hb1 0).trans (tb_head _ _ _ _ _)
      have HZIN := Lib.hid (HLZ0.out.below hb)
      have HORD := Lib.hid (order_any wr A n c L HZIN.out HOK.out)
      rw [← HL.out] at HORD
      have hit : (Try.prog.info? 96).map (·.size) = some (arrP (plcL l)).toList.length := by
        rw [show (arrP (plcL l)).toList.length = 21 from arrP_size _]
        exact zeroP.2
      have HIT := Lib.hid hit
      have HRG := Lib.hid (tb_places hb1)
      clear hsame H1 hb1 hb hbz hit HKZ7 HB7 HK7 hsz7
      go_upto_region 12 with fail
      apply wp_region_lit
      iterate 9 go_step
      refine wpList_load_mid rfl _ _ rfl g5 43 rfl (arrP (plcL l)).toList _ HRG.out Try.underlying96 rfl HIT.out ?_
      rw [Array.toArray_toList]
      go_wp2_with fail
      refine HORD.out.mono ?_
      rintro e w8 ⟨g, F, rfl, hrow, hsym, hb8⟩
      have hgg : g5 < g := by have := hrow.lt.1; omega
      have hk8 := (step_of_below hb8).blk H2.out List.not_mem_nil List.not_mem_nil
      have hz8 := (step_of_below hb8).blk HZ.out List.not_mem_nil List.not_mem_nil
      have q8 := (blk_cell hk8 64).trans (tb_last _ _ _ _ _)
      have f8 := blk_frozen hk8 64
      obtain ⟨T9, hT9⟩ : ∃ T9, T9 = tb (.slice A n c) K (fun i => cd l i 0) (plcL l) (.slice (some ⟨g, 0, none⟩) n n) := ⟨_, rfl⟩
      have hk9 := blk_set hk8 64 (.slice (some ⟨g, 0, none⟩) n n)
      rw [tb_set_last, ← hT9] at hk9
      have hs9 : T9.size = 65 := by rw [hT9, tb_size]
      have ho9 : T9.all (·.oneCell') = true := by rw [hT9]; exact tb_one _ _ _ _ _ rfl rfl
      have hi9 : (Try.prog.info? 98).map (·.size) = some T9.size := by rw [hs9]; exact HI.out
      have hi9' : (Try.prog.info? 98).map (·.size) = some T9.toList.length := hi9
      have HK9 := Lib.hid hk9
      have hz9 := blk_beside hz8 (k := g5) (by omega) 64 (.slice (some ⟨g, 0, none⟩) n n)
      have HR9 := Lib.hid ((hrow.other (g2 := g5) (by omega) 64 (.slice (some ⟨g, 0, none⟩) n n)).setRow (k := w.heap.size) (by omega) T9)
      have HB9 := Lib.hid (below_setRow ((HB.out.trans (hb8.mono HB.out.size)).setCell (p := ⟨g5, 64, none⟩) (by show _ ≤ g5; omega) (.slice (some ⟨g, 0, none⟩) n n)) (Nat.le_refl _) T9)
      have hst9 := store_cells_row (P := Try.prog) hz9 hi9 (by rw [HS.out, hs9]) ho9
      have HZ9 := Lib.hid hz9
      have HI9 := Lib.hid hi9'
      have HI9' := Lib.hid hi9
      have HT9 := Lib.hid hT9
      have HSYM := Lib.hid hsym
      have hlow := HB.out.size
      clear hk8 hz8 hk9 hi9 hi9' hz9 hrow hsym hT9 ho9 hb8
      go_upto_region 13 with fail
      refine wp_region_lit (wpList_load_mid rfl _ _ rfl g5 0 rfl T9.toList _ (rangeAt_of_blk HK9.out) Try.underlying98 rfl HI9.out ?_)
      rw [Array.toArray_toList]
      go_wp2_with fail
      refine bodyPost_ret (v := .tuple #[.agg T9, .int .i64 0]) (results_row_tmp rfl _ _ _ _ _ _ _ rfl (setRow_heap _ _ _ _ _ _ HZ9.out) Try.underlying98 rfl HI9'.out _ rfl) rfl ⟨g, F, by rw [HT9.out, hK], World.ownsRow.mono HR9.out hlow, HSYM.out, HB9.out⟩

end Go.Proofs.Ytmgmgmbpldboiaa
namespace Go.Proofs.Ytmgmgmbpldboiaa
open Go.RowKit


end Go.Proofs.Ytmgmgmbpldboiaa
namespace Go.Proofs.Ytmgmgmbpldboiaa
open Go.RowKit

/-- At block g lies the table of lengths. -/
def TabIs (w : World) (g : Nat) (A : Option Addr) (n c : Nat) (l : List Nat) : Prop := ∃ gs F B, Blk w g 98 (tb (.slice A n c) (cntL l) (fun k => cd l k 0) (plcL l) (.slice (some ⟨gs, 0, none⟩) n n)) ∧ FRow w B gs n n F ∧ SymOk l F n
theorem TabIs.below {w w' : World} {g : Nat} {A : Option Addr} {n c : Nat} {l : List Nat} (h : TabIs w g A n c l) (hb : Below w.heap.size w w') : TabIs w' g A n c l := by
  obtain ⟨gs, F, B, h1, h2, h3⟩ := h
  exact ⟨gs, F, B, (step_of_below hb).blk h1 List.not_mem_nil List.not_mem_nil, FRow.below h2 hb h2.lt.2, h3⟩
theorem TabIs.lt {w : World} {g : Nat} {A : Option Addr} {n c : Nat} {l : List Nat} (h : TabIs w g A n c l) : g < w.heap.size := by
  obtain ⟨gs, F, B, h1, h2, h3⟩ := h
  exact (Array.getElem?_eq_some_iff.1 h1).1

set_option maxHeartbeats 1600000 in
set_option maxRecDepth 100000 in
theorem cbegins_any (w : World) (g : Nat) (A : Option Addr) (n c : Nat) (l : List Nat) (hT : TabIs w g A n c l) (hfit : Fits l) (x k : Nat) (hk : k ≤ 20) (hx : x < 2 ^ k) : Calls Try.prog 75 #[.pointer (some ⟨g, 0, none⟩), .int .i64 x, .int .i64 k] w fun e w' => e = .returned (.bool (decide (x * pw k < sumP l))) ∧ ∃ d, w' = w.drewN d := by
  obtain ⟨gs, F, B, hb, _, _⟩ := hT
  have q1 := (blk_cell hb (22 + 20)).trans (tb_first _ _ _ _ _ 20 (by omega))
  have q2 := (blk_cell hb (1 + 20)).trans (tb_cnt _ _ _ _ _ 20 (by omega))
  have hl := cd_last hfit
  have hsum := hfit.sum
  obtain ⟨a, ha⟩ : ∃ a, a = cd l 20 0 := ⟨_, rfl⟩
  obtain ⟨b, hb2⟩ : ∃ b, b = cntL l 20 := ⟨_, rfl⟩
  rw [← ha] at q1 hl
  rw [← hb2] at q2 hl
  obtain ⟨S, hS⟩ : ∃ S, S = sumP l := ⟨_, rfl⟩
  rw [← hS] at hl hsum ⊢
  have hab : (a : Int) + (b : Int) = (S : Int) := by omega
  have hw : IntKind.i64.wrap (S : Int) = (S : Int) := by rw [IntKind.wrap_i64]; omega
  have hxp : x * pw k < 1048576 := by
    rw [← pw_whole hk]
    exact Nat.mul_lt_mul_of_pos_right hx (pw_pos k)
  obtain ⟨j, hj⟩ : ∃ j, j = 20 - k := ⟨_, rfl⟩
  have hjk : (20 : Int) - (k : Int) = (j : Int) := by omega
  have hpk : pw k = 2 ^ j := by rw [hj]; rfl
  rw [hpk] at hxp ⊢
  have HXP := Lib.hid hxp
  clear hb ha hb2 hS hl hpk hx hfit hsum hj hxp hk
  go_enter Try.func75, Try.ntmps75
  go_upto_region 1 with fail
  go_quiet (fail)
  go_wp2_with fail
  have hww : wrap64 ((x : Int) * 2 ^ j) = ((x * 2 ^ j : Nat) : Int) := by
    have h1 : ((x : Int) * 2 ^ j) = ((x * 2 ^ j : Nat) : Int) := by
      rw [Int.natCast_mul, Int.natCast_pow]
      rfl
    rw [h1]
    have := HXP.out
    generalize x * 2 ^ j = y at *
    unfold wrap64
    omega
  rw [hww]
  have hd : decide (((x * 2 ^ j : Nat) : Int) < (S : Int)) = decide (x * 2 ^ j < S) := by
    generalize x * 2 ^ j = y
    by_cases h : y < S
    · rw [decide_eq_true h, decide_eq_true (by omega)]
    · rw [decide_eq_false h, decide_eq_false (by omega)]
  rw [hd]
  go_ret
  exact ⟨rfl, _, rfl⟩

end Go.Proofs.Ytmgmgmbpldboiaa
