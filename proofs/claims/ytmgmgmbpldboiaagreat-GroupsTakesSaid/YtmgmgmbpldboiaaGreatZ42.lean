/- Grg Gre Grh: texts laid together, what is not used left out. -/
import Derived.Test.YtmgmgmbpldboiaaGreatZ41
import Derived.Test.YtmgmgmbpldboiaaGreatZ21
import Derived.Laws.BitsAllLaws
import Derived.Deep.RegionLaw
import Derived.Test.YtmgmgmbpldboiaaGreatZ26
import Derived.Test.YtmgmgmbpldboiaaGreatZ09
import Derived.Deep.QuietTactic
import Derived.BigQuiet
namespace Go.Proofs.YtmgmgmbpldboiaaGreat
open Go.RowKit

theorem and_low (n : Nat) (h : n ≤ 1000) : bits BinOp.and IntKind.u64 (n : Int) 4294967295 = (n : Int) := by
  have e := u64_and_nat n 4294967295 (by omega) (by omega)
  rw [show ((4294967295 : Nat) : Int) = 4294967295 from rfl] at e
  rw [e, show (4294967295 : Nat) = 2 ^ 32 - 1 by rfl, Nat.and_two_pow_sub_one_eq_mod, Nat.mod_eq_of_lt (by omega)]

set_option maxHeartbeats 1600000 in
set_option maxRecDepth 100000 in
theorem cmul64_any (w : World) (n : Nat) (hn : n ≤ 1000) :
    Calls Tryz.prog 136 #[.int .u64 1, .int .u64 n] w fun e w' => e = .returned (.tuple #[.int .u64 0, .int .u64 n]) ∧ w' = w := by
  have h1 : bits BinOp.and IntKind.u64 1 4294967295 = 1 := and_low 1 (by omega)
  have h0 : bits BinOp.and IntKind.u64 0 4294967295 = 0 := and_low 0 (by omega)
  have h2 := and_low n hn
  have h3 : (n : Int) / 4294967296 = 0 := by omega
  have h4 : (n : Int) / 2 ^ 32 = 0 := by omega
  have h5 : (1 : Int) * (n : Int) = (n : Int) := by omega
  have h6 : (0 : Int) * (n : Int) = 0 := by omega
  go_enter Tryz.func136, Tryz.ntmps136
  go_wp2_with fail
  go_ret2
  exact ⟨rfl, rfl⟩

set_option maxHeartbeats 1600000 in
set_option maxRecDepth 100000 in
theorem cmul_any (w : World) (n : Nat) (hn : n ≤ 1000) :
    Calls Tryz.prog 117 #[.int .u64 1, .int .u64 n] w fun e w' => e = .returned (.tuple #[.int .u64 0, .int .u64 n]) ∧ w' = w := by
  have HM := Lib.hid (cmul64_any w n hn)
  go_enter Tryz.func117, Tryz.ntmps117
  go_wp2_with fail
  refine HM.out.mono ?_
  rintro e w1 ⟨rfl, rfl⟩
  go_wp2_with fail
  go_ret2
  exact ⟨rfl, rfl⟩

/-- A copy within one row, of the first numbers to behind them. -/
theorem copy_row (w : World) (B g n k m : Nat) (f : Nat → Nat) (hf : FRow w B g n n f) (hk : k < n) (_ : 1 ≤ k) (hm : m = min (n - k) k) (ty : TypeId) :
    (Builtin.copy_ #[22, 22] ty #[.slice (some ⟨g, k, none⟩) (n - k) (n - k), .slice (some ⟨g, 0, none⟩) k n]).run Tryz.prog w = .ok (goInt m) (w.setCells g k (rowF m f)) := by
  obtain ⟨i5, h5, hz0, hz1, hz2⟩ := info_parts Tryz.info3
  have hcs : (rowF m f).length = m := rowF_length m f
  have hi : (Tryz.prog.info? 3).map (·.size) = some 1 := by rw [h5]; exact congrArg some hz1
  have := run_copy_cells (P := Tryz.prog) w 22 22 ty 3 g k (n - k) (n - k) ⟨g, 0, none⟩ k n (rowF m f) Tryz.underlying22 hi (by rw [hcs, hm, Nat.min_comm])
    (fun j v hv => by
      have hj : j < m := by have := (List.getElem?_eq_some_iff.1 hv).1; omega
      rw [gcell_lit, Nat.zero_add, hf.cell j (by omega), ← hv, rowF_get m f j hj]
      rfl)
    (fun j hj => by
      rw [hcs] at hj
      rw [hf.cell (k + j) (by omega)]
      rfl) (fun j hj => hf.frozen (k + j)) (fun v hv => by
      unfold rowF at hv
      obtain ⟨x, _, rfl⟩ := List.mem_map.1 hv
      rfl)
  rw [hcs] at this
  exact this

/-- A row that is the call's own, with room for no more. -/
def OwnRow (w : World) (n : Nat) (f : Nat → Nat) (e : Ending) (w' : World) : Prop :=
  ∃ g, e = .returned (.slice (some ⟨g, 0, none⟩) n n) ∧ w.heap.size ≤ g ∧ FRow w' w.heap.size g n n f ∧ Below w.heap.size w w'

set_option maxHeartbeats 3200000 in
set_option maxRecDepth 100000 in
theorem crepeat_any (w : World) (A : Option Addr) (c x n : Nat) (hA : IntsIn w A 1 [x]) (h1 : 1 ≤ n) (hn : n ≤ 1000) :
    Calls Tryz.prog 74 #[.slice A 1 c, .int .i64 n] w (OwnRow w n fun _ => x) := by
  have HM := Lib.hid (cmul_any w n hn)
  have hmk := make_noughts w n (by omega)
  have hrow0 := made_noughts w w.heap.size n (Nat.le_refl _) (by omega)
  have hb0 : Below w.heap.size w (w.alloc (.cells (madeCells #[.int .i64 0] n) 3)) := (Below.refl w.heap.size w).alloc (Nat.le_refl _) _
  have hA1 := ints_low hA hb0
  obtain ⟨b, off, rfl, hc⟩ := hA1.2 (by omega)
  have hcell := hc 0 (by omega)
  rw [Nat.add_zero] at hcell
  have hxv : ([x] : List Nat).getD 0 0 = x := rfl
  rw [hxv] at hcell
  have hcp1 : ∀ ty, (Builtin.copy_ #[22, 22] ty #[.slice (some ⟨w.heap.size, 0, none⟩) n n, .slice (some ⟨b, off, none⟩) 1 c]).run Tryz.prog (w.alloc (.cells (madeCells #[.int .i64 0] n) 3)) = .ok (goInt 1) ((w.alloc (.cells (madeCells #[.int .i64 0] n) 3)).setCells w.heap.size 0 [iv x]) := by
    intro ty
    obtain ⟨i5, h5, hz0, hz1, hz2⟩ := info_parts Tryz.info3
    have hi : (Tryz.prog.info? 3).map (·.size) = some 1 := by rw [h5]; exact congrArg some hz1
    exact run_copy_cells (P := Tryz.prog) _ 22 22 ty 3 w.heap.size 0 n n ⟨b, off, none⟩ 1 c [iv x] Tryz.underlying22 hi (by show 1 = min 1 n; omega)
      (fun j v hv => by
        have hj : j < 1 := by have := (List.getElem?_eq_some_iff.1 hv).1; simpa using this
        obtain rfl : j = 0 := by omega
        rw [gcell_lit, Nat.add_zero, hcell, ← hv]
        rfl)
      (fun j hj => by
        rw [show j = 0 by simpa using hj, hrow0.cell (0 + 0) (by omega)]
        rfl) (fun j _ => hrow0.frozen (0 + j)) (fun v hv => by
        rw [List.mem_singleton.1 hv]
        rfl)
  have hrow1 := frow_setCells [x] 0 _ _ hrow0
  have e1 : (fun j => if 0 ≤ j ∧ j < 0 + [x].length then ([x] : List Nat).getD (j - 0) 0 else 0) = fun j => if j < 1 then x else 0 := by
    funext j
    by_cases e : j < 1
    · rw [if_pos (by simp; omega), if_pos e, show j = 0 by omega]
      rfl
    · rw [if_neg (by simp; omega), if_neg e]
  rw [e1] at hrow1
  have hb1 : Below w.heap.size w ((w.alloc (.cells (madeCells #[.int .i64 0] n) 3)).setCells w.heap.size 0 ([x].map iv)) := below_gcells (Nat.le_refl _) _ _ _ hb0
  have HR1 := Lib.hid hrow1
  have HB1 := Lib.hid hb1
  have HCP := Lib.hid hcp1
  have HP : Hid (∀ g w', w.heap.size ≤ g → FRow w' w.heap.size g n n (fun _ => x) → Below w.heap.size w w' → OwnRow w n (fun _ => x) (.returned (.slice (some ⟨g, 0, none⟩) n n)) w') := Lib.hid fun g w' h0 h2 h3 => ⟨g, rfl, h0, h2, h3⟩
  have d0 : decide ((n : Int) < 0) = false := decide_eq_false (by omega)
  have d1 : decide ((9223372036854775807 : Int) < (n : Int)) = false := decide_eq_false (by omega)
  generalize OwnRow w n (fun _ => x) = PO at *
  clear hA hA1 hc hcell hxv hrow0 hb0 hcp1 hrow1 e1 hb1
  go_enter Tryz.func74, Tryz.ntmps74
  go_wp2_with fail
  refine HM.out.mono ?_
  rintro e w1 ⟨rfl, rfl⟩
  go_upto_region 7 with fail
  go_wp2_with (refine gcopy_run rfl _ _ 22 22 rfl _ _ 1 rfl rfl (HCP.out _) ?_)
  clear hmk HM
  generalize w1.heap.size = g at *
  have hR1 := HR1.out
  have hB1 := HB1.out
  rw [show ([x] : List Nat).map iv = [iv x] from rfl] at hR1 hB1
  clear HR1 HB1 HCP
  go_wp2_with fail
  go_loopw [8] (fun kv wx => ∃ k : Nat, 1 ≤ k ∧ k ≤ n ∧ kv = .int .i64 k ∧ FRow wx g g n n (fun j => if j < k then x else 0) ∧ Below g w1 wx) (fun kv _ => n - (intOf kv).toNat)
  case atStart => exact ⟨1, Nat.le_refl _, h1, rfl, hR1, hB1⟩
  case round =>
    clear hR1 hB1
    rename World => w2
    obtain ⟨k, hk1, hk, rfl, hf, hb⟩ := hrel
    by_cases e : k < n
    · have dk : decide ((k : Int) < (n : Int)) = true := decide_eq_true (by omega)
      obtain ⟨m, hm⟩ : ∃ m, m = min (n - k) k := ⟨_, rfl⟩
      have hrun := fun ty => copy_row w2.drew g g n k m _ (hf.drew 1) e hk1 hm ty
      have hfm : rowF m (fun j => if j < k then x else 0) = (List.replicate m x).map iv := by
        rw [rowF_same m _ (fun _ => x) fun j hj => if_pos (by omega)]
        unfold rowF
        rw [List.map_replicate, List.map_const', List.length_range]
      rw [hfm] at hrun
      have hf2 := frow_setCells (List.replicate m x) k _ _ (hf.drew 1)
      have hb2 : Below g w1 (w2.drew.setCells g k ((List.replicate m x).map iv)) := below_gcells (Nat.le_refl _) _ _ _ hb.drew
      have efn : (fun j => if k ≤ j ∧ j < k + (List.replicate m x).length then (List.replicate m x).getD (j - k) 0 else if j < k then x else 0) = fun j => if j < k + m then x else 0 := by
        funext j
        rw [List.length_replicate]
        by_cases e1 : j < k
        · rw [if_neg (by omega), if_pos e1, if_pos (by omega)]
        · by_cases e2 : j < k + m
          · rw [if_pos (by omega), if_pos e2, List.getD_eq_getElem?_getD, List.getElem?_replicate, if_pos (by omega)]
            rfl
          · rw [if_neg (by omega), if_neg e1, if_neg e2]
      rw [efn] at hf2
      obtain ⟨km, hkm⟩ : ∃ km, km = k + m := ⟨_, rfl⟩
      rw [← hkm] at hf2
      have hkz : (k : Int) + (m : Int) = (km : Int) := by omega
      have hkmn : km ≤ n := by omega
      have hkmk : k < km := by omega
      have hk0 : (0 : Int) ≤ (k : Int) := by omega
      have hkn : (k : Int) ≤ (n : Int) := by omega
      have hnk : ¬ n = k := by omega
      have hnk2 : ¬ k = n := by omega
      obtain ⟨w3, hw3⟩ : ∃ w3, w3 = w2.drew.setCells g k ((List.replicate m x).map iv) := ⟨_, rfl⟩
      rw [← hw3] at hrun hb2
      have hf3 : FRow w3 g g n n (fun j => if j < km then x else 0) := by rw [hw3]; exact hf2
      have HRUN := Lib.hid hrun
      have HF2 := Lib.hid hf3
      have HB2 := Lib.hid hb2
      clear hrun hfm hf2 hb2 efn hf hb hkm hm hw3 hf3
      go_upto_region 9 with fail
      have hr : (Builtin.copy_ #[22, 22] 3 #[.slice (some ⟨g, k, none⟩) (n - k) (n - k), .slice (some ⟨g, 0, none⟩) k n]).run Tryz.prog w2.drew = .ok (.int .i64 m) w3 := HRUN.out _
      go_region
      go_wp2_with fail
      go_roundw
      case rel => exact ⟨km, by omega, hkmn, by go_num, HF2.out, HB2.out⟩
      case measure => simp [intOf]; omega
    · obtain rfl : k = n := by omega
      have dk : decide ((k : Int) < (k : Int)) = false := decide_eq_false (by omega)
      have h3 : w2.ownsRow g 3 1 (.slice (some ⟨g, 0, none⟩) k k) k (rowF k fun j => if j < k then x else 0) := hf
      rw [rowF_same k _ (fun _ => x) fun j hj => if_pos hj] at h3
      have HE := Lib.hid (HP.out g w2 (Nat.le_refl _) h3 hb)
      clear hf hb h3
      go_wp2_with fail
      exact HE.out

/-- What the rows hold when s symbols were gone over. -/
def startC (n T s t x : Nat) : Nat := if x < s then startR n T t x else 15
set_option maxHeartbeats 3200000 in
set_option maxRecDepth 100000 in
theorem cfirst_any (w : World) (T n : Nat) (hT1 : 1 ≤ T) (hT6 : T ≤ 6) (hn3 : 3 ≤ n) (hn : n ≤ 258) :
    Calls Tryz.prog 32 #[.int .i64 T, .int .i64 n] w fun e w' => e = .returned (.slice (some ⟨w.heap.size, 0, none⟩) T T) ∧ TabW w' w.heap.size w.heap.size T (fun t => (List.range n).map (startR n T t)) ∧ Below w.heap.size w w' := by
  have hmk := make_tab w T (by omega)
  have HT0 := Lib.hid (tabD_new w w.heap.size T n (Nat.le_refl _) (by omega) (fun _ => 0) (fun _ _ => 15))
  have HB0 : Hid (Below w.heap.size w (w.alloc (.cells (madeCells #[.slice none 0 0] T) 22))) := Lib.hid ((Below.refl _ _).alloc (Nat.le_refl _) _)
  go_enter Tryz.func32, Tryz.ntmps32
  go_wp2_with fail
  clear hmk
  go_loopw [6, 12] (fun s6 tv wx => ∃ (t : Nat) (G : Nat → Nat), t ≤ T ∧ tv = .int .i64 t ∧ TabD wx w.heap.size w.heap.size T n t G (fun _ _ => 15) ∧ Below w.heap.size w wx) (fun _ tv _ => T - (intOf tv).toNat)
  case atStart => exact ⟨0, fun _ => 0, Nat.zero_le _, rfl, HT0.out, HB0.out⟩
  case round =>
    clear HT0 HB0
    rename World => w1
    obtain ⟨t, G, ht, rfl, hD, hb⟩ := hrel
    by_cases e : t < T
    · have dt : decide ((t : Int) < (T : Int)) = true := decide_eq_true (by omega)
      have htI : (0 : Int) ≤ (t : Int) := by omega
      have htT : (t : Int) < (T : Int) := by omega
      have hlt := hD.lt
      have hb2 : Below w1.heap.size w1 (w1.alloc (.cells #[.int .i64 15] 3)) := (Below.refl _ _).alloc (Nat.le_refl _) _
      have HR := Lib.hid (crepeat_any (w1.alloc (.cells #[.int .i64 15] 3)) (some ⟨w1.heap.size, 0, none⟩) 1 15 n (lit_ints w1 [15]) (by omega) (by omega))
      have HD := Lib.hid hD
      have HB := Lib.hid hb
      have HB2 := Lib.hid hb2
      have hz2 : (w1.alloc (.cells #[.int .i64 15] 3)).heap.size = w1.heap.size + 1 := by simp
      have HZ2 := Lib.hid hz2
      clear hD hb hb2 hz2
      go_wp2_with fail
      refine HR.out.mono ?_
      rintro e w3 ⟨gN, rfl, hgN, hf, hb3⟩
      have hb23 := HB2.out.trans (hb3.mono HB2.out.size)
      have hp := HD.out.push hb23 (by rw [HZ2.out]; omega) hf (by rw [HZ2.out] at hgN; omega)
      have hfz : w3.frozen? ⟨w.heap.size, t, none⟩ = false := (HD.out.step (step_of_below hb23)).frozen t
      have hce : ∃ v, w3.cell? ⟨w.heap.size, t, none⟩ = some v := by
        have := World.ownsRow.cellAt (HD.out.step (step_of_below hb23)).own t (by omega)
        rw [List.getElem?_map, List.getElem?_range e] at this
        exact ⟨_, this⟩
      obtain ⟨v, hce⟩ := hce
      have hbw := (HB.out.trans (hb23.mono HB.out.size)).setCell (p := ⟨w.heap.size, t, none⟩) (Nat.le_refl _) (.slice (some ⟨gN, 0, none⟩) n n)
      have HP := Lib.hid (hp.same (D := fun _ _ => 15) fun j _ => by
        by_cases ej : j = t
        · rw [if_pos ej]
        · rw [if_neg ej])
      have HBW := Lib.hid hbw
      clear hp hbw hf hb3 hb23 HR HD HB HB2
      go_wp2_with fail
      go_roundw
      case rel => exact ⟨t + 1, _, by omega, by go_num, HP.out, HBW.out⟩
      case measure => simp [intOf]; omega
    · obtain rfl : T = t := by omega
      have dt : decide ((T : Int) < (T : Int)) = false := decide_eq_false (by omega)
      have HD := Lib.hid hD
      have HB := Lib.hid hb
      have hlt := hD.lt
      clear hD hb
      go_wp2_with fail
      go_loopw [7, 23] (fun s7 sv wx => ∃ (s : Nat), s ≤ n ∧ sv = .int .i64 s ∧ TabD wx w.heap.size w.heap.size T n T G (startC n T s) ∧ Below w.heap.size w wx) (fun _ sv _ => n - (intOf sv).toNat)
      case atStart =>
        refine ⟨0, Nat.zero_le _, rfl, HD.out.same fun j _ => ?_, HB.out⟩
        funext x
        unfold startC
        rw [if_neg (by omega)]
      case round =>
        clear HD HB hlt
        rename World => w4
        obtain ⟨s, hs, rfl, hD, hb⟩ := hrel
        by_cases e2 : s < n
        · have ds : decide ((s : Int) < (n : Int)) = true := decide_eq_true (by omega)
          obtain ⟨p, hp⟩ : ∃ p : Nat, p = s * T := ⟨_, rfl⟩
          have hpz : (s : Int) * (T : Int) = (p : Int) := by rw [hp]; simp
          have hpb : p ≤ 258 * 6 := by rw [hp]; exact Nat.mul_le_mul (by omega) hT6
          obtain ⟨q, hq⟩ : ∃ q : Nat, q = p / n := ⟨_, rfl⟩
          have hqT : q < T := by
            rw [hq, hp]
            refine Nat.div_lt_of_lt_mul ?_
            exact Nat.mul_lt_mul_of_pos_right e2 (by omega)
          have hqz : (p : Int) / (n : Int) = (q : Int) := by rw [hq]; simp
          have hn0 : ¬ (n : Int) = 0 := by omega
          have hn0b : ((n : Int) == 0) = false := by rw [beq_eq_false_iff_ne]; omega
          have hqI : (0 : Int) ≤ (q : Int) := by omega
          have hqTI : (q : Int) < (T : Int) := by omega
          have hsI : (0 : Int) ≤ (s : Int) := by omega
          have hsn : (s : Int) < (n : Int) := by omega
          have c1 := hD.cell q hqT hqT
          have hrow := hD.rows q hqT
          have c2 := hrow.cell s e2
          have f2 := hrow.frozen s
          have hset := hrow.set s 1
          have hupd := hD.upd hqT hset ((Step.refl w.heap.size [G q] [] w4).set (p := ⟨G q, s, none⟩) hrow.lt.1 (List.mem_singleton.2 rfl) _)
          have hbw := hb.setCell (p := ⟨G q, s, none⟩) hrow.lt.1 (.int .i64 ((1 : Nat) : Int))
          have hqq : s * T / n = q := by rw [← hp, ← hq]
          have hfn1 : ∀ x, (if x = s then 1 else startC n T s q x) = startC n T (s + 1) q x := fun x => by
            unfold startC startR
            by_cases ex : x = s
            · have h1 : x < s + 1 := by omega
              rw [if_pos ex, if_pos h1, ex, hqq, if_pos rfl]
            · rw [if_neg ex]
              by_cases ex2 : x < s
              · have h1 : x < s + 1 := by omega
                rw [if_pos ex2, if_pos h1]
              · have h1 : ¬ x < s + 1 := by omega
                rw [if_neg ex2, if_neg h1]
          have hfn2 : ∀ j x, j ≠ q → startC n T s j x = startC n T (s + 1) j x := fun j x ej => by
            unfold startC startR
            by_cases ex2 : x < s
            · have h1 : x < s + 1 := by omega
              rw [if_pos ex2, if_pos h1]
            · rw [if_neg ex2]
              by_cases ex : x = s
              · have h1 : x < s + 1 := by omega
                have h2 : ¬ q = j := fun h => ej h.symm
                rw [if_pos h1, ex, hqq, if_neg h2]
              · have h1 : ¬ x < s + 1 := by omega
                rw [if_neg h1]
          have HU := Lib.hid (hupd.same (D := startC n T (s + 1)) fun j hj => by
            by_cases ej : j = q
            · rw [if_pos ej, ej]
              funext x
              exact hfn1 x
            · rw [if_neg ej]
              funext x
              exact hfn2 j x ej)
          have HBW := Lib.hid hbw
          obtain ⟨gq, hgq⟩ : ∃ gq, gq = G q := ⟨_, rfl⟩
          obtain ⟨v2, hv2⟩ : ∃ v2 : Nat, v2 = startC n T s q s := ⟨_, rfl⟩
          rw [← hgq] at c1 c2 f2 HU HBW
          rw [← hv2] at c2
          clear hD hb hrow hset hupd hbw hp hq hgq hv2 hqq hfn1 hfn2
          go_wp2_with fail
          go_roundw
          case rel => exact ⟨s + 1, by omega, by go_num, HU.out, HBW.out⟩
          case measure => simp [intOf]; omega
        · obtain rfl : n = s := by omega
          have ds : decide ((n : Int) < (n : Int)) = false := decide_eq_false (by omega)
          have HE := Lib.hid hD.tabW
          have HBE := Lib.hid hb
          clear hD hb
          go_wp2_with fail
          go_ret
          refine ⟨rfl, HE.out.same fun j _ => ?_, HBE.out⟩
          apply List.map_congr_left
          intro x hx
          unfold startC
          rw [if_pos (List.mem_range.1 hx)]

end Go.Proofs.YtmgmgmbpldboiaaGreat
namespace Go.Proofs.YtmgmgmbpldboiaaGreat
open Go.RowKit

/-- The closure that tells what a group costs in a table. -/
abbrev costV (bT bG : Nat) : Value := .func (.func 137) #[] #[.pointer (some ⟨bT, 0, none⟩), .pointer (some ⟨bG, 0, none⟩)]

set_option maxHeartbeats 1600000 in
set_option maxRecDepth 100000 in
theorem ccost_any (w : World) (bT bG g T n : Nat) (C : Nat → List Nat) (hbT : Blk w bT 24 #[.slice (some ⟨g, 0, none⟩) T T]) (hT : TabR w g T C) (hn : n ≤ 258) (hC : ∀ t, t < T → (C t).length = n ∧ ∀ x ∈ C t, x ≤ 1000)
    (A : Option Addr) (m c : Nat) (G : List Nat) (hbG : Blk w bG 22 #[.slice A m c]) (hG : IntsIn w A m G) (hm : m ≤ 50) (hGn : ∀ x ∈ G, x < n) (t : Nat) (ht : t < T) :
    Calls Tryz.prog 137 #[.int .i64 t, .pointer (some ⟨bT, 0, none⟩), .pointer (some ⟨bG, 0, none⟩)] w fun e w' => e = .returned (.int .i64 (gsum (C t) G : Nat)) ∧ ∃ d, w' = w.drewN d := by
  have hgl := hG.1
  have p0 : w.cell? ⟨bT, 0, none⟩ = some (.slice (some ⟨g, 0, none⟩) T T) := (blk_cell hbT 0).trans rfl
  have p1 : w.cell? ⟨bG, 0, none⟩ = some (.slice A m c) := (blk_cell hbG 0).trans rfl
  obtain ⟨A1, k1, hc1, hc2, hc3⟩ := hT t ht
  have hCt := hC t ht
  have hkn : (C t).length = n := hCt.1
  have HC1 := Lib.hid hCt.2
  rw [hkn] at hc1 hc2 hc3
  have HY := Lib.hid hc2
  have HG := Lib.hid hG
  have HGN := Lib.hid hGn
  have HGL := Lib.hid hgl
  have HKN := Lib.hid hkn
  have htI : (0 : Int) ≤ (t : Int) := by omega
  have htT : (t : Int) < (T : Int) := by omega
  obtain ⟨K, hK⟩ : ∃ K, K = C t := ⟨_, rfl⟩
  rw [← hK] at HC1 HY HKN ⊢
  clear hT hC hbT hbG hG hGn hgl hkn hCt hc2 hK
  go_enter Tryz.func137, Tryz.ntmps137
  go_upto_region 1 with fail
  go_quiet (fail)
  go_wp2_with fail
  have p1b : (w.drewN nq).cell? ⟨bG, 0, none⟩ = some (.slice A m c) := p1
  go_loopw [5, 8, 15] (fun sv s8 iv' wx => ∃ (i s : Nat), i ≤ m ∧ iv' = .int .i64 i ∧ sv = .int .i64 s ∧ Hid (s = gsum K (G.take i)) ∧ s ≤ 1000 * i ∧ ∃ d, wx = w.drewN d) (fun _ _ iv' _ => m - (intOf iv').toNat)
  case atStart => exact ⟨0, 0, Nat.zero_le _, rfl, rfl, rfl, Nat.zero_le _, nq, rfl⟩
  case round =>
    rename World => w2
    obtain ⟨i, s, hi, rfl, rfl, hs, hsb, hd2⟩ := hrel
    have HD2 := Lib.hid hd2
    by_cases e2 : i < m
    · have di : decide ((i : Int) < (m : Int)) = true := decide_eq_true (by omega)
      have hiI : (0 : Int) ≤ (i : Int) := by omega
      have him : (i : Int) < (m : Int) := by omega
      obtain ⟨gb, go, rfl, hgc⟩ := HG.out.2 (by omega)
      have hx := hgc i e2
      have hxn : G.getD i 0 < n := HGN.out _ (by
        rw [List.getD_eq_getElem?_getD, List.getElem?_eq_getElem (by rw [HGL.out]; exact e2)]
        exact List.getElem_mem _)
      have hsn : gsum K (G.take (i + 1)) = gsum K (G.take i) + K.getD (G.getD i 0) 0 := by rw [drop_one (by rw [HGL.out]; exact e2), gsum_snoc]
      generalize G.getD i 0 = x at *
      obtain ⟨cb, co, rfl, hcc⟩ := HY.out.2 (by omega)
      have hy := hcc x (by omega)
      have hyb : K.getD x 0 ≤ 1000 := HC1.out _ (by
        rw [List.getD_eq_getElem?_getD, List.getElem?_eq_getElem (by rw [HKN.out]; exact hxn)]
        exact List.getElem_mem _)
      generalize K.getD x 0 = y at *
      have q1 : w2.cell? ⟨gb, go + i, none⟩ = some (.int .i64 x) := by obtain ⟨d, rfl⟩ := hd2; exact hx
      have q2 : w2.cell? ⟨cb, co + x, none⟩ = some (.int .i64 y) := by obtain ⟨d, rfl⟩ := hd2; exact hy
      obtain ⟨s2, hs2⟩ : ∃ s2 : Nat, s2 = s + y := ⟨_, rfl⟩
      have hsz : (s : Int) + (y : Int) = (s2 : Int) := by omega
      have hs2b : s2 ≤ 1000 * (i + 1) := by omega
      have HS2 : Hid (s2 = gsum K (G.take (i + 1))) := Lib.hid (by rw [hsn, hs2, hs.out])
      have hxI : (0 : Int) ≤ (x : Int) := by omega
      have hxk : (x : Int) < (n : Int) := by omega
      have HSB := Lib.hid hs2b
      have hs2c : s2 ≤ 60000 := by omega
      clear hc1 hc3 hgc hx hsn hcc hy hs2 hd2 hs2b p0 p1 p1b
      go_wp2_with fail
      go_roundw
      case rel => exact ⟨i + 1, s2, by omega, by go_num, rfl, HS2, HSB.out, HD2.out⟩
      case measure => simp [intOf]; omega
    · obtain rfl : i = m := by omega
      have di : decide ((i : Int) < (i : Int)) = false := decide_eq_false (by omega)
      have hs2 := hs.out
      rw [List.take_of_length_le (Nat.le_of_eq HGL.out)] at hs2
      subst hs2
      clear hd2 hs
      go_wp2_with fail
      go_ret
      exact ⟨rfl, HD2.out⟩

set_option maxRecDepth 100000 in
theorem ccoster_any (w : World) (A B : Option Addr) (n c m d : Nat) :
    Calls Tryz.prog 118 #[.slice A n c, .slice B m d] w fun e w' => e = .returned (costV w.heap.size (w.heap.size + 1)) ∧ w' = (w.alloc (.cells #[.slice A n c] 24)).alloc (.cells #[.slice B m d] 22) := by
  go_enter Tryz.func118, Tryz.ntmps118
  go_wp2_with fail
  go_ret
  exact ⟨by simp [costV], rfl⟩

set_option maxHeartbeats 1600000 in
set_option maxRecDepth 100000 in
theorem ccheapest_any (w : World) (g T n : Nat) (C : Nat → List Nat) (hT : TabR w g T C) (h1 : 1 ≤ T) (hT6 : T ≤ 6) (hn : n ≤ 258) (hC : ∀ t, t < T → (C t).length = n ∧ ∀ x ∈ C t, x ≤ 1000)
    (A : Option Addr) (m c : Nat) (G : List Nat) (hG : IntsIn w A m G) (hm : m ≤ 50) (hGn : ∀ x ∈ G, x < n) :
    Calls Tryz.prog 75 #[.slice (some ⟨g, 0, none⟩) T T, .slice A m c] w fun e w' => e = .returned (.int .i64 (pickG ((List.range T).map C) G : Nat)) ∧ Below w.heap.size w w' := by
  have hb0 : Below w.heap.size w (w.alloc (.cells #[.slice (some ⟨g, 0, none⟩) T T] 24)) := (Below.refl _ _).alloc (Nat.le_refl _) _
  have hk0 := blk_new w 24 #[.slice (some ⟨g, 0, none⟩) T T]
  obtain ⟨w0, hw0⟩ : ∃ w0, w0 = w.alloc (.cells #[.slice (some ⟨g, 0, none⟩) T T] 24) := ⟨_, rfl⟩
  have hz0 : w0.heap.size = w.heap.size + 1 := by rw [hw0]; simp
  rw [← hw0] at hb0 hk0
  have hb1 : Below w0.heap.size w0 (w0.alloc (.cells #[.slice A m c] 22)) := (Below.refl _ _).alloc (Nat.le_refl _) _
  have hk1 := blk_new w0 22 #[.slice A m c]
  have hk0b := (step_of_below hb1).blk hk0 List.not_mem_nil List.not_mem_nil
  have hbb := hb0.trans (hb1.mono hb0.size)
  obtain ⟨w1, hw1⟩ : ∃ w1, w1 = w0.alloc (.cells #[.slice A m c] 22) := ⟨_, rfl⟩
  rw [← hw1] at hb1 hk1 hk0b hbb
  have hT1 := hT.below hbb
  have hG1 := ints_low hG hbb
  rw [hz0] at hk1
  have HCO := Lib.hid fun (t : Nat) (ht : t < T) => ccost_any w1 w.heap.size (w.heap.size + 1) g T n C hk0b hT1 hn hC A m c G hk1 hG1 hm hGn t ht
  have HCO2 : Hid (∀ d t, t < T → Calls Tryz.prog 137 #[.int .i64 t, .pointer (some ⟨w.heap.size, 0, none⟩), .pointer (some ⟨w.heap.size + 1, 0, none⟩)] (w1.drewN d) fun e w' => e = .returned (.int .i64 (gsum (C t) G : Nat)) ∧ ∃ d2, w' = w1.drewN d2) := Lib.hid fun d t ht => by
    have hd : Below w1.heap.size w1 (w1.drewN d) := below_drewN (Below.refl _ _) d
    refine (ccost_any (w1.drewN d) w.heap.size (w.heap.size + 1) g T n C hk0b (hT1.below hd) hn hC A m c G hk1 (ints_low hG1 hd) hm hGn t ht).mono ?_
    rintro e w' ⟨rfl, d2, rfl⟩
    exact ⟨rfl, d + d2, by simp [World.drewN, Nat.add_assoc]⟩
  have HR := Lib.hid (ccoster_any w (some ⟨g, 0, none⟩) A T T m c)
  rw [← hw0, ← hw1] at HR
  have HBB := Lib.hid hbb
  obtain ⟨p, hp⟩ : ∃ p : Nat → Nat × Nat, p = pickN ((List.range T).map C) G := ⟨_, rfl⟩
  have hans : pickG ((List.range T).map C) G = (p T).1 := by
    unfold pickG
    rw [hp]
    simp
  rw [hans]
  have HNEXT : Hid (∀ t, t < T → p (t + 1) = if t = 0 ∨ gsum (C t) G < (p t).2 then (t, gsum (C t) G) else p t) := Lib.hid fun t ht => by
    rw [hp, pickN, mapC_get C T t ht]
  have hgb : ∀ t, t < T → gsum (C t) G ≤ 50000 := fun t ht => by
    have h3 := gsum_le (C t) G 1000 (fun x hx => (hC t ht).2 _ (by
        rw [List.getD_eq_getElem?_getD, List.getElem?_eq_getElem (by rw [(hC t ht).1]; exact hGn x hx)]
        exact List.getElem_mem _))
    have h4 : 1000 * G.length ≤ 1000 * 50 := Nat.mul_le_mul_left _ (by rw [hG.1]; exact hm)
    omega
  have HGB := Lib.hid hgb
  have HP0 : Hid (p 1 = (0, gsum (C 0) G)) := Lib.hid (by rw [HNEXT.out 0 (by omega), if_pos (.inl rfl)])
  clear hT hG hC hGn hp hans hgb hk0b hk1 hT1 hG1 hbb hw0 hw1 hz0 hb0 hk0 hb1
  generalize w.heap.size = g0 at *
  go_enter Tryz.func75, Tryz.ntmps75
  go_wp2_with fail
  refine HR.out.mono ?_
  rintro e w1 ⟨rfl, rfl⟩
  go_wp2_with fail
  refine (HCO2.out 0 0 (by omega)).mono ?_
  rintro e w2 ⟨rfl, d1, rfl⟩
  obtain ⟨s0, hs0⟩ : ∃ s0, s0 = gsum (C 0) G := ⟨_, rfl⟩
  rw [← hs0] at HP0 ⊢
  have hs0b : s0 ≤ 50000 := by rw [hs0]; exact HGB.out 0 (by omega)
  clear hs0
  go_wp2_with fail
  go_loopw [6, 7, 8, 9] (fun bv lv tv cv wx => ∃ (t b l : Nat), 1 ≤ t ∧ t ≤ T ∧ tv = .int .i64 t ∧ bv = .int .i64 b ∧ lv = .int .i64 l ∧ l ≤ 50000 ∧ Hid (p t = (b, l)) ∧ ∃ d, wx = w1.drewN d) (fun _ _ tv _ _ => T - (intOf tv).toNat)
  case atStart => exact ⟨1, 0, s0, Nat.le_refl _, h1, rfl, rfl, rfl, hs0b, HP0, d1, rfl⟩
  case round =>
    rename World => w3
    obtain ⟨t, b, l, ht1, ht, rfl, rfl, rfl, hlb, hpt, hd⟩ := hrel
    obtain ⟨d, rfl⟩ := hd
    by_cases e : t < T
    · have dt : decide ((t : Int) < (T : Int)) = true := decide_eq_true (by omega)
      have hnx := HNEXT.out t e
      rw [hpt.out] at hnx
      dsimp only at hnx
      have HCT := Lib.hid (HCO2.out d t e)
      have hsb := HGB.out t e
      obtain ⟨s, hs⟩ : ∃ s, s = gsum (C t) G := ⟨_, rfl⟩
      rw [← hs] at hnx HCT hsb
      have HNX := Lib.hid hnx
      clear hs hnx
      go_wp2_with fail
      refine HCT.out.mono ?_
      rintro e w4 ⟨rfl, d4, rfl⟩
      by_cases h3 : s < l
      · have d3 : decide ((s : Int) < (l : Int)) = true := decide_eq_true (by omega)
        have HP : Hid (p (t + 1) = (t, s)) := Lib.hid (by rw [HNX.out, if_pos (.inr h3)])
        clear HNX
        go_wp2_with fail
        go_roundw
        case rel => exact ⟨t + 1, t, s, by omega, by omega, by go_num, rfl, rfl, hsb, HP, d4, rfl⟩
        case measure => simp [intOf]; omega
      · have d3 : decide ((s : Int) < (l : Int)) = false := decide_eq_false (by omega)
        have HP : Hid (p (t + 1) = (b, l)) := Lib.hid (by rw [HNX.out, if_neg (by omega)])
        clear HNX
        go_wp2_with fail
        go_roundw
        case rel => exact ⟨t + 1, b, l, by omega, by omega, by go_num, rfl, rfl, hlb, HP, d4, rfl⟩
        case measure => simp [intOf]; omega
    · obtain rfl : t = T := by omega
      have dt : decide ((t : Int) < (t : Int)) = false := decide_eq_false (by omega)
      have HE := Lib.hid (below_drewN HBB.out d)
      go_wp2_with fail
      go_ret
      exact ⟨by rw [hpt.out]; rfl, HE.out⟩

end Go.Proofs.YtmgmgmbpldboiaaGreat
namespace Go.Proofs.YtmgmgmbpldboiaaGreat
open Go.RowKit

set_option maxHeartbeats 3200000 in
set_option maxRecDepth 100000 in
theorem cpickall_any (w : World) (A : Option Addr) (n c : Nat) (L : List Nat) (hL : IntsIn w A n L) (hnc : n ≤ c) (hn : n ≤ 2000000) (g T m : Nat) (C : Nat → List Nat) (hT : TabR w g T C) (h1 : 1 ≤ T) (hT6 : T ≤ 6) (hm : m ≤ 258)
    (hC : ∀ t, t < T → (C t).length = m ∧ ∀ x ∈ C t, x ≤ 1000) (hLm : ∀ x ∈ L, x < m) (G : Nat) (hG : G = groupsN n) :
    Calls Tryz.prog 33 #[.slice (some ⟨g, 0, none⟩) T T, .slice A n c] w fun e w' => e = .returned (.slice (some ⟨w.heap.size, 0, none⟩) G G) ∧ FRow w' w.heap.size w.heap.size G G (fun k => pickG ((List.range T).map C) (partG L k)) ∧ Below w.heap.size w w' := by
  have hGn : G ≤ 40001 ∧ n ≤ 50 * G ∧ 50 * G < n + 50 := by rw [hG]; unfold groupsN; omega
  have HGR := Lib.hid (cgroups_any w n (by omega))
  rw [← hG] at HGR
  have hmk := make_noughts w G (by omega)
  have HM := Lib.hid (made_noughts w w.heap.size G (Nat.le_refl _) (by omega))
  have HB0 := Lib.hid ((Below.refl w.heap.size w).alloc (Nat.le_refl _) (.cells (madeCells #[.int .i64 0] G) 3))
  have HL := Lib.hid fun (w1 : World) (hb : Below w.heap.size w w1) => ints_low hL hb
  have HT := Lib.hid fun (w1 : World) (hb : Below w.heap.size w w1) => hT.below hb
  have HC := Lib.hid hC
  have HLM := Lib.hid hLm
  obtain ⟨pf, hpf⟩ : ∃ pf : Nat → Nat, pf = fun k => pickG ((List.range T).map C) (partG L k) := ⟨_, rfl⟩
  have HPF : Hid (∀ k, pickG ((List.range T).map C) (partG L k) = pf k) := Lib.hid fun k => by rw [hpf]
  rw [← hpf]
  clear hL hT hC hLm hG hpf
  go_enter Tryz.func33, Tryz.ntmps33
  go_wp2_with fail
  refine HGR.out.mono ?_
  rintro e w0 ⟨rfl, rfl⟩
  go_wp2_with fail
  clear hmk HGR
  go_loopw [6, 13] (fun s6 kv wx => ∃ k : Nat, k ≤ G ∧ kv = .int .i64 k ∧ FRow wx w.heap.size w.heap.size G G (fun j => if j < k then pf j else 0) ∧ Below w.heap.size w wx) (fun _ kv _ => G - (intOf kv).toNat)
  case atStart =>
    refine ⟨0, Nat.zero_le _, rfl, ?_, HB0.out⟩
    have e : (fun j => if j < 0 then pf j else 0) = fun _ => 0 := by
      funext j
      rw [if_neg (by omega)]
    rw [e]
    exact HM.out
  case round =>
    clear HM HB0
    rename World => w6
    obtain ⟨k, hk, rfl, hf, hb⟩ := hrel
    by_cases e4 : k < G
    · have dk : decide ((k : Int) < (G : Int)) = true := decide_eq_true (by omega)
      have hkI : (0 : Int) ≤ (k : Int) := by omega
      have hkG : (k : Int) < (G : Int) := by omega
      have HPART := Lib.hid (cpartN_any w6 A n c L k (HL.out w6 hb) hnc hn (by omega))
      have HPICK := Lib.hid fun (A2 : Option Addr) (c2 : Nat) (hG2 : IntsIn w6 A2 (partG L k).length (partG L k)) => ccheapest_any w6 g T m C (HT.out w6 hb) h1 hT6 hm HC.out A2 (partG L k).length c2 (partG L k) hG2 (by rw [partG_length]; omega) (fun x hx => HLM.out x (List.mem_of_mem_drop (List.mem_of_mem_take hx)))
      rw [HPF.out k] at HPICK
      have HF := Lib.hid hf
      have HB := Lib.hid hb
      clear hf hb
      go_wp2_with fail
      refine HPART.out.mono ?_
      rintro e w7 ⟨A2, c2, rfl, hi2, hc2, _, rfl⟩
      have HP2 := Lib.hid (HPICK.out A2 c2 hi2)
      clear hi2 hc2 HPART HPICK
      generalize (partG L k).length = pl at *
      go_wp2_with fail
      refine HP2.out.mono ?_
      rintro e w8 ⟨rfl, hb8⟩
      have hf8 : FRow w8 w.heap.size w.heap.size G G (fun j => if j < k then pf j else 0) := (step_of_below hb8).row HF.out (fun _ _ => List.not_mem_nil) List.not_mem_nil
      obtain ⟨pk, hpk⟩ : ∃ pk, pk = pf k := ⟨_, rfl⟩
      rw [← hpk]
      have c8 := hf8.cell k e4
      have f8 := hf8.frozen k
      have hs8 := hf8.set k pk
      have hfn : (fun j => if j = k then pk else if j < k then pf j else 0) = fun j => if j < k + 1 then pf j else 0 := by
        funext j
        by_cases ej : j = k
        · rw [if_pos ej, if_pos (by omega), ej, hpk]
        · rw [if_neg ej]
          by_cases ej2 : j < k
          · rw [if_pos ej2, if_pos (by omega)]
          · rw [if_neg ej2, if_neg (by omega)]
      rw [hfn] at hs8
      have HS8 := Lib.hid hs8
      have HB8 := Lib.hid ((HB.out.trans (hb8.mono HB.out.size)).setCell (p := ⟨w.heap.size, k, none⟩) (Nat.le_refl _) (.int .i64 (pk : Nat)))
      clear hf8 hs8 hfn HF HB HP2 hb8 hpk
      go_wp2_with fail
      go_roundw
      case rel => exact ⟨k + 1, by omega, by go_num, HS8.out, HB8.out⟩
      case measure => simp [intOf]; omega
    · obtain rfl : k = G := by omega
      have dk : decide ((k : Int) < (k : Int)) = false := decide_eq_false (by omega)
      have h3 : w6.ownsRow w.heap.size 3 1 (.slice (some ⟨w.heap.size, 0, none⟩) k k) k (rowF k fun j => if j < k then pf j else 0) := hf
      rw [rowF_same k _ pf fun j hj => if_pos hj] at h3
      have HE := Lib.hid h3
      have HB := Lib.hid hb
      clear hf hb h3
      go_wp2_with fail
      go_ret
      exact ⟨rfl, HE.out, HB.out⟩

end Go.Proofs.YtmgmgmbpldboiaaGreat
