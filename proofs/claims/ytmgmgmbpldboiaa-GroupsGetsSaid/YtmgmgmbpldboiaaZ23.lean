/- Grk Grd: texts laid together, what is not used left out. -/
import Derived.Test.YtmgmgmbpldboiaaZ19
import Derived.Test.YtmgmgmbpldboiaaZ10
import Derived.Test.YtmgmgmbpldboiaaZ06
import Derived.Test.YtmgmgmbpldboiaaZ22
import Derived.Deep.RegionHeld3
import Derived.Deep.QuietTactic
import Derived.BigQuiet
namespace Go.Proofs.Ytmgmgmbpldboiaa
open Go.RowKit

set_option maxHeartbeats 3200000 in
set_option maxRecDepth 100000 in
theorem cgflat_out (w : World) (A : Option Addr) (n c : Nat) (L : List Int) (m : Int) (hL : ZIn w A n L) (hn : n ≤ maxLen) (h : ¬ MayG L m) :
    Calls Try.prog 16 #[.slice A n c, .int .i64 m] w (PlanPost w (flatAns L m)) := by
  have hans : flatAns L m = ([], [], 2) := if_neg h
  rw [hans]
  have HM := Lib.hid fun (w1 : World) (hb : ZIn w1 A n L) => clist_any w1 A n c L m hb hn
  rw [show decide (MayG L m) = false from decide_eq_false h] at HM
  have hb0 : Below w.heap.size w (w.alloc (.cells #[.slice none 0 0, .slice none 0 0] 32)) := (Below.refl _ _).alloc (Nat.le_refl _) _
  have HL := Lib.hid (hL.below hb0)
  have hk0 := blk_new w 32 #[.slice none 0 0, .slice none 0 0]
  have HK0 := Lib.hid hk0
  have HB0 := Lib.hid hb0
  clear hL h hans hk0 hb0
  go_enter Try.func16, Try.ntmps16
  go_wp2_with fail
  refine (HM.out _ HL.out).mono ?_
  rintro e w' ⟨rfl, rfl⟩
  have q0 := (blk_cell HK0.out 0).trans rfl
  have q1 := (blk_cell HK0.out 1).trans rfl
  have f0 := blk_frozen HK0.out 0
  have f1 := blk_frozen HK0.out 1
  generalize w.alloc (.cells #[.slice none 0 0, .slice none 0 0] 32) = w1 at *
  go_wp2_with fail
  refine bodyPost_ret (v := .tuple #[.agg #[.slice none 0 0, .slice none 0 0], .int .i64 2]) ?_ rfl ⟨_, rfl, plan_none _, (HB0.out.setCell (p := ⟨w.heap.size, 0, none⟩) (Nat.le_refl _) _).setCell (p := ⟨w.heap.size, 1, none⟩) (Nat.le_refl _) _⟩
  simp [results, Try.results16, go_sem, q0, q1]

set_option maxRecDepth 100000 in
theorem count_nought (L : List Nat) (g s : Nat) : ∀ q, q ≤ L.length → countQ L (List.replicate g 0) 0 s q = (L.take q).count s
  | 0, _ => by simp [countQ]
  | q + 1, h => by
    rw [countQ_next, count_nought L g s q (by omega), count_next L q 0 (by omega) s]
    have e : (List.replicate g 0).getD (q / 50) 0 = 0 := by
      rw [List.getD_eq_getElem?_getD, List.getElem?_replicate]
      split <;> rfl
    simp only [e, true_and]
theorem count_flat (L : List Nat) (g s : Nat) : countF L (List.replicate g 0) 0 s = L.count s := by
  unfold countF
  rw [count_nought L g s L.length (Nat.le_refl _), List.take_of_length_le (Nat.le_refl _)]
set_option maxRecDepth 100000 in
theorem range_self (R : List Nat) (m : Nat) (h : R.length = m) : (List.range m).map (fun j => ((zL R).getD j 0).toNat) = R := by
  subst h
  apply List.ext_getElem?
  intro j
  by_cases hj : j < R.length
  · rw [List.getElem?_map, List.getElem?_range hj, List.getElem?_eq_getElem hj]
    unfold zL
    rw [Option.map_some, List.getD_eq_getElem?_getD, List.getElem?_map, List.getElem?_eq_getElem hj]
    simp
  · rw [List.getElem?_eq_none (by simp; omega), List.getElem?_eq_none (by omega)]

set_option maxHeartbeats 6400000 in
set_option maxRecDepth 100000 in
theorem cgflat_any (w : World) (A : Option Addr) (n c : Nat) (L : List Int) (m : Nat) (hL : ZIn w A n L) (hM : MayG L m) :
    Calls Try.prog 16 #[.slice A n c, .int .i64 m] w (PlanPost w (flatAns L m)) := by
  have hln := hL.1
  have h1n : 1 ≤ n := by have := hM.2.2.1; omega
  have hn : n ≤ 1638350 := by have := hM.2.2.2.1; omega
  have hm3 : 3 ≤ m := by have := hM.1; omega
  have hm258 : m ≤ 258 := by have := hM.2.1; omega
  obtain ⟨l, hl⟩ : ∃ l, l = natL L := ⟨_, rfl⟩
  have hll : l.length = n := by rw [hl]; unfold natL; rw [List.length_map, hln]
  have hlm : ∀ x ∈ l, x < m := by
    intro x hx
    rw [hl] at hx
    obtain ⟨y, hy, rfl⟩ := List.mem_map.1 hx
    have := hM.2.2.2.2 y hy
    omega
  have hin : IntsIn w A n l := by rw [hl]; exact ints_of_zin hL fun x hx => (hM.2.2.2.2 x hx).1
  have hAb : ∀ a, A = some a → a.block < w.heap.size := fun a ha => by
    obtain ⟨b, off, he, hc⟩ := hin.2 (by omega)
    rw [he] at ha
    cases ha
    exact World.block_lt_of_cell? w _ (hc 0 (by omega))
  obtain ⟨G, hG⟩ : ∃ G, G = groupsN n := ⟨_, rfl⟩
  have hGn : G ≤ 40000 ∧ n ≤ 50 * G ∧ 50 * G < n + 50 := by rw [hG]; unfold groupsN; omega
  obtain ⟨R, hR⟩ : ∃ R, R = flatPl l m := ⟨_, rfl⟩
  have hans : flatAns L m = ([zL R, zL R], zL (List.replicate G 0), 0) := by
    unfold flatAns
    rw [if_pos hM, ← hl, Int.toNat_natCast, hln, ← hG, hR]
  rw [hans]
  have HPO : Hid (∀ v w', PlanIn w' v [zL R, zL R] (zL (List.replicate G 0)) → Below w.heap.size w w' → PlanPost w ([zL R, zL R], zL (List.replicate G 0), 0) (.returned (.tuple #[v, .int .i64 0])) w') := Lib.hid fun v w' h1 h2 => ⟨v, rfl, h1, h2⟩
  generalize PlanPost w ([zL R, zL R], zL (List.replicate G 0), 0) = PO at *
  have HML := Lib.hid fun (w1 : World) (hb : ZIn w1 A n L) => clist_any w1 A n c L m hb (by unfold maxLen; omega)
  rw [show decide (MayG L m) = true from decide_eq_true hM] at HML
  have HGR := Lib.hid fun (w1 : World) => cgroups_any w1 n (by omega)
  rw [← hG] at HGR
  have hb0 : Below w.heap.size w (w.alloc (.cells #[.slice none 0 0, .slice none 0 0] 32)) := (Below.refl _ _).alloc (Nat.le_refl _) _
  have hr0 : Blk (w.alloc (.cells #[.slice none 0 0, .slice none 0 0] 32)) w.heap.size 32 #[.slice none 0 0, .slice none 0 0] := blk_new w _ _
  have HL := Lib.hid (hL.below hb0)
  have HIN := Lib.hid fun (w1 : World) (hb : Below w.heap.size w w1) => ints_low hin hb
  have HLL := Lib.hid hll
  have HLMM := Lib.hid hlm
  have HAB := Lib.hid hAb
  have HRE : Hid (R = flatG ((List.range m).map fun s => 0 + l.count s)) := Lib.hid (by
    rw [hR]
    unfold flatPl countsG
    congr 1
    apply List.map_congr_left
    intro s _
    rw [count_flat, Nat.zero_add])
  have HK0 := Lib.hid hr0
  have HB0 := Lib.hid hb0
  clear hL hin hM hln hl hll hlm hans hG hR hb0 hr0 hAb
  go_enter Try.func16, Try.ntmps16
  go_wp2_with fail
  refine (HML.out _ HL.out).mono ?_
  rintro e w1 ⟨rfl, rfl⟩
  generalize w.alloc (.cells #[.slice none 0 0, .slice none 0 0] 32) = w1 at *
  have hz1 : w.heap.size < w1.heap.size := blk_lt HK0.out
  clear HL HML
  have hmk := make_noughts w1 m (by omega)
  have hrow := made_noughts w1 w.heap.size m (Nat.le_of_lt hz1) (by omega)
  have hb2 : Below w1.heap.size w1 (w1.alloc (.cells (madeCells #[.int .i64 0] m) 3)) := (Below.refl _ _).alloc (Nat.le_refl _) _
  have hbw2 := HB0.out.trans (hb2.mono HB0.out.size)
  have HADD := Lib.hid (cadd_any w1.heap.size (w1.alloc (.cells (madeCells #[.int .i64 0] m) 3)) w1.heap.size m m _ (made_noughts w1 w1.heap.size m (Nat.le_refl _) (by omega)) A n c l (HIN.out _ hbw2) (fun a ha => by
    have := HAB.out a ha
    omega) (by omega) HLMM.out (fun s _ => Nat.zero_le _))
  have HK2 := Lib.hid ((step_of_below hb2).blk HK0.out List.not_mem_nil List.not_mem_nil)
  have HB2 := Lib.hid hbw2
  clear hrow hb2 hbw2 HK0 HB0
  go_wp2_with fail
  clear hmk
  refine HADD.out.mono ?_
  rintro e w3 ⟨rfl, hf3, hs3⟩
  have hk3 := hs3.blk HK2.out (by simp; omega) List.not_mem_nil
  have hz3 := hf3.lt
  have hbw3 := HB2.out.trans (hs3.below.mono (Nat.le_of_lt hz1))
  have hz := zin_of hf3.ints
  have hMay : MayW (((List.range m).map fun s => 0 + l.count s).map fun (x : Nat) => (x : Int)) := by
    refine ⟨by simp; omega, by simp; omega, fun x hx => ?_⟩
    obtain ⟨y, hy, rfl⟩ := List.mem_map.1 hx
    obtain ⟨s, _, rfl⟩ := List.mem_map.1 hy
    have h1 : l.count s ≤ l.length := List.count_le_length
    have := HLL.out
    omega
  have HFL := Lib.hid (cflat_any w3 (some ⟨w1.heap.size, 0, none⟩) m m _ hz hMay)
  have HMAY := Lib.hid hMay
  have HK3 := Lib.hid hk3
  have HB3 := Lib.hid hbw3
  clear hf3 hs3 hk3 hbw3 hz hMay HADD HK2 HB2
  go_wp2_with fail
  refine HFL.out.mono ?_
  intro e w5 hfp
  rcases hfp with ⟨hno, _⟩ | ⟨_, v, k, hk1, hk2, rfl, hown, hb5⟩
  · exact absurd HMAY.out hno
  · have hWl : (((List.range m).map fun s => 0 + l.count s).map fun (x : Nat) => (x : Int)).length = m := by simp
    rw [hWl] at hown hk1 hk2
    rw [oneW_cast] at hown
    have hkl := log_one hk1 hk2
    have hrow : w5.ownsRow w3.heap.size 3 1 v m (R.map iv) := by
      rw [HRE.out]
      unfold flatG
      rw [show ((List.range m).map fun s => 0 + l.count s).length = m by simp, ← hkl, List.map_map]
      exact hown
    have hRl : R.length = m := by rw [HRE.out]; unfold flatG; simp
    obtain ⟨A5, c5, rfl, hc5, hm5, hA5⟩ := own_slice hrow
    have hi5 : IntsIn w5 A5 m R := ints_of_own hrow
    have hbw5 := HB3.out.trans (hb5.mono HB3.out.size)
    have hk5 := (step_of_below hb5).blk HK3.out List.not_mem_nil List.not_mem_nil
    have HCL := Lib.hid (clone_any w5 A5 m c5 (zL R) (zin_of hi5) (fun x hx => by
      unfold zL at hx
      obtain ⟨y, _, rfl⟩ := List.mem_map.1 hx
      omega) (by omega) (by omega))
    have HI5 := Lib.hid hi5
    have HB5 := Lib.hid hbw5
    have HK5 := Lib.hid hk5
    have HRL := Lib.hid hRl
    have HROW5 := Lib.hid hrow
    have HZ3 := Lib.hid (show w.heap.size < w3.heap.size by omega)
    have HZ5 := Lib.hid (show w3.heap.size ≤ w5.heap.size from hb5.size)
    clear hown hkl hrow hRl hA5 hi5 hbw5 hk5 hb5 hWl HFL HMAY HK3 HB3
    go_wp2_with fail
    refine HCL.out.mono ?_
    rintro e w6 ⟨gC, cC, rfl, hfC, hb6⟩
    have hcC : m ≤ cC := by
      obtain ⟨A9, c9, he, hc9, _, _⟩ := own_slice hfC
      simp only [Value.slice.injEq] at he
      omega
    have hb7 : Below w6.heap.size w6 (w6.alloc (.cells #[.slice A5 m c5, .slice (some ⟨gC, 0, none⟩) m cC] 30)) := (Below.refl _ _).alloc (Nat.le_refl _) _
    have hk7 : Blk (w6.alloc (.cells #[.slice A5 m c5, .slice (some ⟨gC, 0, none⟩) m cC] 30)) w6.heap.size 30 #[.slice A5 m c5, .slice (some ⟨gC, 0, none⟩) m cC] := blk_new w6 _ _
    have hbw6 := HB5.out.trans (hb6.mono HB5.out.size)
    have hbw7 := hbw6.trans (hb7.mono hbw6.size)
    have hr7 := (step_of_below hb7).blk ((step_of_below hb6).blk HK5.out List.not_mem_nil List.not_mem_nil) List.not_mem_nil List.not_mem_nil
    have HI7 := Lib.hid ((step_of_below hb7).row ((step_of_below hb6).row HROW5.out (fun _ _ => List.not_mem_nil) List.not_mem_nil) (fun _ _ => List.not_mem_nil) List.not_mem_nil)
    have HC7 := Lib.hid ((step_of_below hb7).row hfC (fun _ _ => List.not_mem_nil) List.not_mem_nil)
    have HT7 := Lib.hid hk7
    have HR7 := Lib.hid hr7
    have HB7 := Lib.hid hbw7
    clear hfC hb6 hb7 hk7 hbw6 hbw7 hr7 HCL HI5 HB5 HK5 HROW5
    go_wp2_with fail
    refine (HGR.out _).mono ?_
    rintro e w8 ⟨rfl, rfl⟩
    generalize w6.alloc (.cells #[.slice A5 m c5, .slice (some ⟨gC, 0, none⟩) m cC] 30) = w7 at *
    generalize w6.heap.size = g7 at *
    have hrb := blk_lt HR7.out
    have k0 := (blk_cell HR7.out 0).trans (rfl : _ = some (Value.slice none 0 0))
    have k1 := (blk_cell HR7.out 1).trans (rfl : _ = some (Value.slice none 0 0))
    have f0 := blk_frozen HR7.out 0
    have f1 := blk_frozen HR7.out 1
    have hmk := make_noughts w7 G (by omega)
    have hm8 := made_noughts w7 w7.heap.size G (Nat.le_refl _) (by omega)
    have hb8 : Below w7.heap.size w7 (w7.alloc (.cells (madeCells #[.int .i64 0] G) 3)) := (Below.refl _ _).alloc (Nat.le_refl _) _
    have hst : Step w.heap.size [w.heap.size] [] (w7.alloc (.cells (madeCells #[.int .i64 0] G) 3)) (((w7.alloc (.cells (madeCells #[.int .i64 0] G) 3)).setCell ⟨w.heap.size, 0, none⟩ (.slice (some ⟨g7, 0, none⟩) 2 2)).setCell ⟨w.heap.size, 1, none⟩ (.slice (some ⟨w7.heap.size, 0, none⟩) G G)) :=
      ((Step.refl _ _ _ _).set (p := ⟨w.heap.size, 0, none⟩) (Nat.le_refl _) (by simp) _).set (p := ⟨w.heap.size, 1, none⟩) (Nat.le_refl _) (by simp) _
    have hr8 := (step_of_below hb8).blk HR7.out List.not_mem_nil List.not_mem_nil
    have hz3b := HZ3.out
    have hz5b := HZ5.out
    have hx8 := hst.row (HI7.out.alloc (.cells (madeCells #[.int .i64 0] G) 3)) (fun k hk => by
      have := (World.ownsRow.lt HI7.out k hk).1
      simp
      omega) List.not_mem_nil
    have hy8 := hst.row (World.ownsRow.alloc HC7.out (.cells (madeCells #[.int .i64 0] G) 3)) (fun k hk => by
      have := (World.ownsRow.lt HC7.out k hk).1
      simp
      omega) List.not_mem_nil
    have hT8 := hst.blk ((step_of_below hb8).blk HT7.out List.not_mem_nil List.not_mem_nil) (by
      have := blk_lt HT7.out
      simp
      intro e
      have h1 := HT7.out
      have h2 := HR7.out
      unfold Blk at h1 h2
      rw [e, h2] at h1
      simp at h1) List.not_mem_nil
    have hp8 : FRow _ w7.heap.size w7.heap.size G G fun _ => 0 := hst.row hm8 (fun k hk => by simp [Value.ownBlock] at hk; simp; omega) List.not_mem_nil
    have hpz := zin_of hp8.ints
    rw [show (List.range G).map (fun _ => 0) = List.replicate G 0 by rw [List.map_const', List.length_range]] at hpz
    have hfC8 := FRow.ints hy8
    rw [range_self R m HRL.out] at hfC8
    have hpl : PlanIn _ (.agg #[.slice (some ⟨g7, 0, none⟩) 2 2, .slice (some ⟨w7.heap.size, 0, none⟩) G G]) [zL R, zL R] (zL (List.replicate G 0)) :=
      ⟨_, 2, 2, _, G, G, rfl, tabZ_two hT8 (ints_of_own hx8) hc5 hfC8 hcC (by unfold maxLen; omega), Nat.le_refl _, by unfold maxLen; omega, hpz, Nat.le_refl _, by unfold maxLen; omega⟩
    have hend := HPO.out _ _ hpl ((HB7.out.trans (hb8.mono HB7.out.size)).trans hst.below)
    rw [World.setCell_alloc_past _ _ _ _ hrb, World.setCell_alloc_past _ _ _ _ (by simpa using hrb)] at hend
    have hrf := blk_set (blk_set hr8 0 (.slice (some ⟨g7, 0, none⟩) 2 2)) 1 (.slice (some ⟨w7.heap.size, 0, none⟩) G G)
    rw [World.setCell_alloc_past _ _ _ _ hrb, World.setCell_alloc_past _ _ _ _ (by simpa using hrb)] at hrf
    have q0 := (blk_cell hrf 0).trans (rfl : _ = some (Value.slice (some ⟨g7, 0, none⟩) 2 2))
    have q1 := (blk_cell hrf 1).trans (rfl : _ = some (Value.slice (some ⟨w7.heap.size, 0, none⟩) G G))
    have HEND := Lib.hid hend
    clear hrf hm8 hb8 hst hr8 hz3b hz5b hx8 hy8 hT8 hp8 hpz hfC8 hpl hend HI7 HC7 HT7 HR7 HB7 HPO HGR
    go_wp2_with fail
    clear hmk
    refine bodyPost_ret (v := .tuple #[.agg #[.slice (some ⟨g7, 0, none⟩) 2 2, .slice (some ⟨w7.heap.size, 0, none⟩) G G], .int .i64 0]) ?_ rfl HEND.out
    simp [results, Try.results16, go_sem, q0, q1]

end Go.Proofs.Ytmgmgmbpldboiaa
namespace Go.Proofs.Ytmgmgmbpldboiaa
open Go.RowKit

theorem min_there (f : Nat → Int) : ∀ k, 1 ≤ k → ∃ b : Int, (∀ i, i < k → b ≤ f i) ∧ ∃ i, i < k ∧ f i = b
  | 0, h => by omega
  | k + 1, _ => by
    by_cases e : k = 0
    · subst e
      exact ⟨f 0, fun i hi => by rw [show i = 0 by omega]; exact Int.le_refl _, 0, by omega, rfl⟩
    · obtain ⟨b, hb, j, hj, hjb⟩ := min_there f k (by omega)
      by_cases e2 : b ≤ f k
      · refine ⟨b, fun i hi => ?_, j, by omega, hjb⟩
        by_cases e3 : i = k
        · rw [e3]; exact e2
        · exact hb i (by omega)
      · refine ⟨f k, fun i hi => ?_, k, by omega, rfl⟩
        by_cases e3 : i = k
        · rw [e3]; exact Int.le_refl _
        · have := hb i (by omega)
          omega
theorem max_there (f : Nat → Int) (k : Nat) (h : 1 ≤ k) : ∃ b : Int, (∀ i, i < k → f i ≤ b) ∧ ∃ i, i < k ∧ f i = b := by
  obtain ⟨b, hb, i, hi, hib⟩ := min_there (fun i => - f i) k h
  exact ⟨-b, fun j hj => by have := hb j hj; omega, i, hi, by omega⟩
theorem min_at (w : World) (A : Option Addr) (n c : Nat) (L : List Int) (hL : ZIn w A n L) (h1 : 1 ≤ n) (hn : n ≤ maxLen) (a : Int) (ha : (∀ i, i < n → a ≤ L.getD i 0) ∧ ∃ i, i < n ∧ L.getD i 0 = a) :
    Calls Try.prog 39 #[.slice A n c] w fun e w' => e = .returned (.int .i64 a) ∧ w' = w := by
  refine (min_any w A n c L hL h1 hn).mono ?_
  rintro e w' ⟨b, rfl, hb, rfl⟩
  have : b = a := by
    obtain ⟨i, hi, hia⟩ := ha.2
    obtain ⟨j, hj, hjb⟩ := hb.2
    have h1 := ha.1 j hj
    have h2 := hb.1 i hi
    omega
  rw [this]
  exact ⟨rfl, rfl⟩
theorem max_at (w : World) (A : Option Addr) (n c : Nat) (L : List Int) (hL : ZIn w A n L) (h1 : 1 ≤ n) (hn : n ≤ maxLen) (a : Int) (ha : (∀ i, i < n → L.getD i 0 ≤ a) ∧ ∃ i, i < n ∧ L.getD i 0 = a) :
    Calls Try.prog 40 #[.slice A n c] w fun e w' => e = .returned (.int .i64 a) ∧ w' = w := by
  refine (max_any w A n c L hL h1 hn).mono ?_
  rintro e w' ⟨b, rfl, hb, rfl⟩
  have : b = a := by
    obtain ⟨i, hi, hia⟩ := ha.2
    obtain ⟨j, hj, hjb⟩ := hb.2
    have h1 := ha.1 j hj
    have h2 := hb.1 i hi
    omega
  rw [this]
  exact ⟨rfl, rfl⟩
theorem mayPlan_tab {T : List (List Int)} {P : List Int} : MayPlan T P ↔ TabOk T ∧ 1 ≤ P.length ∧ P.length ≤ 32767 ∧ ∀ x ∈ P, 0 ≤ x ∧ x < (T.length : Int) :=
  ⟨fun h => ⟨⟨h.1, h.2.1, h.2.2.2.2.2.2, h.2.2.2.2.1⟩, h.2.2.1, h.2.2.2.1, h.2.2.2.2.2.1⟩, fun h => ⟨h.1.1, h.1.2.1, h.2.1, h.2.2.1, h.1.2.2.2, h.2.2.2, h.1.2.2.1⟩⟩

set_option maxHeartbeats 1600000 in
set_option maxRecDepth 100000 in
theorem cmay_any (w : World) (v : Value) (T : List (List Int)) (P : List Int) (hv : PlanIn w v T P) :
    Calls Try.prog 19 #[v] w fun e w' => e = .returned (.bool (decide (MayPlan T P))) ∧ Below w.heap.size w w' := by
  obtain ⟨A, q, c, B, m, d, rfl, hT, hqc, hq, hP, hmd, hm⟩ := hv
  obtain ⟨ans, hans⟩ : ∃ ans, ans = decide (MayPlan T P) := ⟨_, rfl⟩
  rw [← hans]
  have hb1 : Below w.heap.size w (w.alloc (.cells #[.slice A q c, .slice B m d] 32)) := (Below.refl _ _).alloc (Nat.le_refl _) _
  have hk1 : Blk (w.alloc (.cells #[.slice A q c, .slice B m d] 32)) w.heap.size 32 #[.slice A q c, .slice B m d] := blk_new w _ _
  have HT := Lib.hid (ctablesMay_any _ A q c T (hT.below hb1) hqc hq)
  have hP1 := hP.below hb1
  have hlT := hT.1
  have hlP := hP.1
  have hm9 := hm
  unfold maxLen at hm hq
  by_cases h1 : TabOk T
  · rw [decide_eq_true h1] at HT
    by_cases h2 : m < 1
    · have d2 : decide ((m : Int) < 1) = true := decide_eq_true (by omega)
      have ha : ans = false := by rw [hans]; exact decide_eq_false fun h => by have := (mayPlan_tab.1 h).2.1; omega
      subst ha
      have HB := Lib.hid hb1
      have HK := Lib.hid hk1
      clear hans hT hP hb1 hk1 hP1 h1 hlT hlP hm9
      go_enter Try.func19, Try.ntmps19
      go_upto_region 1 with fail
      generalize w.alloc (.cells #[.slice A q c, .slice B m d] 32) = w1 at *
      have q0 : w1.cell? ⟨w.heap.size, 0, none⟩ = some (.slice A q c) := (blk_cell HK.out 0).trans rfl
      go_wp2_with fail
      refine HT.out.mono ?_
      rintro e w2 ⟨rfl, hb2⟩
      have hk2 := (step_of_below hb2).blk HK.out List.not_mem_nil List.not_mem_nil
      have q1 : w2.cell? ⟨w.heap.size, 1, none⟩ = some (.slice B m d) := (blk_cell hk2 1).trans rfl
      have HB2 := Lib.hid (HB.out.trans (hb2.mono HB.out.size))
      clear hk2 hb2 HB HK
      go_wp2_with fail
      go_ret
      exact ⟨rfl, HB2.out⟩
    · have d2 : decide ((m : Int) < 1) = false := decide_eq_false (by omega)
      by_cases h3 : 32767 < m
      · have d3 : decide ((32767 : Int) < (m : Int)) = true := decide_eq_true (by omega)
        have ha : ans = false := by rw [hans]; exact decide_eq_false fun h => by have := (mayPlan_tab.1 h).2.2.1; omega
        subst ha
        have HB := Lib.hid hb1
        have HK := Lib.hid hk1
        clear hans hT hP hb1 hk1 hP1 h1 hlT hlP hm9 h3
        go_enter Try.func19, Try.ntmps19
        go_upto_region 1 with fail
        generalize w.alloc (.cells #[.slice A q c, .slice B m d] 32) = w1 at *
        have q0 : w1.cell? ⟨w.heap.size, 0, none⟩ = some (.slice A q c) := (blk_cell HK.out 0).trans rfl
        go_wp2_with fail
        refine HT.out.mono ?_
        rintro e w2 ⟨rfl, hb2⟩
        have hk2 := (step_of_below hb2).blk HK.out List.not_mem_nil List.not_mem_nil
        have q1 : w2.cell? ⟨w.heap.size, 1, none⟩ = some (.slice B m d) := (blk_cell hk2 1).trans rfl
        have HB2 := Lib.hid (HB.out.trans (hb2.mono HB.out.size))
        clear hk2 hb2 HB HK
        go_wp2_with fail
        go_ret
        exact ⟨rfl, HB2.out⟩
      · have d3 : decide ((32767 : Int) < (m : Int)) = false := decide_eq_false (by omega)
        obtain ⟨a, ha⟩ := min_there (fun i => P.getD i 0) m (by omega)
        obtain ⟨b, hb⟩ := max_there (fun i => P.getD i 0) m (by omega)
        have HMN := Lib.hid fun (w1 : World) (h : ZIn w1 B m P) => min_at w1 B m d P h (by omega) hm9 a ha
        have HMX := Lib.hid fun (w1 : World) (h : ZIn w1 B m P) => max_at w1 B m d P h (by omega) hm9 b hb
        have hbet := all_between (m := (q : Int)) hlP ha hb
        have HANS : Hid (ans = decide (0 ≤ a ∧ b < (q : Int))) := Lib.hid (by
          rw [hans]
          refine decide_eq_decide.2 ⟨fun h => ?_, fun h => ?_⟩
          · rw [← hbet, ← hlT]
            exact (mayPlan_tab.1 h).2.2.2
          · exact mayPlan_tab.2 ⟨h1, by omega, by omega, by rw [hlT]; exact hbet.2 h⟩)
        have HB := Lib.hid hb1
        have HK := Lib.hid hk1
        have HP1 := Lib.hid hP1
        clear hans hT hP hb1 hk1 hP1 h1 hlT hlP hm9 h3 ha hb hbet
        by_cases h4 : 0 ≤ a
        · have d4 : decide (0 ≤ a) = true := decide_eq_true h4
          have hcut : ans = decide (b < (q : Int)) := by
            rw [HANS.out]
            exact decide_eq_decide.2 ⟨fun h => h.2, fun h => ⟨h4, h⟩⟩
          subst hcut
          clear HANS
          go_enter Try.func19, Try.ntmps19
          go_upto_region 1 with fail
          generalize w.alloc (.cells #[.slice A q c, .slice B m d] 32) = w1 at *
          have q0 : w1.cell? ⟨w.heap.size, 0, none⟩ = some (.slice A q c) := (blk_cell HK.out 0).trans rfl
          go_wp2_with fail
          refine HT.out.mono ?_
          rintro e w2 ⟨rfl, hb2⟩
          have hk2 := (step_of_below hb2).blk HK.out List.not_mem_nil List.not_mem_nil
          have q1 : w2.cell? ⟨w.heap.size, 1, none⟩ = some (.slice B m d) := (blk_cell hk2 1).trans rfl
          have q2 : w2.cell? ⟨w.heap.size, 0, none⟩ = some (.slice A q c) := (blk_cell hk2 0).trans rfl
          have HB2 := Lib.hid (HB.out.trans (hb2.mono HB.out.size))
          have HZ2 := Lib.hid (HP1.out.below hb2)
          clear hk2 hb2 HB HK HP1 HT q0
          go_upto_region 3 with fail
          go_quiet (first | (go_at_call 39; exact Calls.quiet_of_same (HMN.out _ (HZ2.out.below (below_drewN (Below.refl _ _) _)))) | (go_at_call 40; exact Calls.quiet_of_same (HMX.out _ (HZ2.out.below (below_drewN (Below.refl _ _) _)))))
          go_wp2_with fail
          go_ret
          exact ⟨rfl, below_drewN HB2.out _⟩
        · have d4 : decide (0 ≤ a) = false := decide_eq_false h4
          have ha : ans = false := by rw [HANS.out]; exact decide_eq_false fun h => h4 h.1
          subst ha
          clear HANS
          go_enter Try.func19, Try.ntmps19
          go_upto_region 1 with fail
          generalize w.alloc (.cells #[.slice A q c, .slice B m d] 32) = w1 at *
          have q0 : w1.cell? ⟨w.heap.size, 0, none⟩ = some (.slice A q c) := (blk_cell HK.out 0).trans rfl
          go_wp2_with fail
          refine HT.out.mono ?_
          rintro e w2 ⟨rfl, hb2⟩
          have hk2 := (step_of_below hb2).blk HK.out List.not_mem_nil List.not_mem_nil
          have q1 : w2.cell? ⟨w.heap.size, 1, none⟩ = some (.slice B m d) := (blk_cell hk2 1).trans rfl
          have q2 : w2.cell? ⟨w.heap.size, 0, none⟩ = some (.slice A q c) := (blk_cell hk2 0).trans rfl
          have HB2 := Lib.hid (HB.out.trans (hb2.mono HB.out.size))
          have HZ2 := Lib.hid (HP1.out.below hb2)
          clear hk2 hb2 HB HK HP1 HT q0
          go_upto_region 3 with fail
          go_quiet (first | (go_at_call 39; exact Calls.quiet_of_same (HMN.out _ (HZ2.out.below (below_drewN (Below.refl _ _) _)))) | (go_at_call 40; exact Calls.quiet_of_same (HMX.out _ (HZ2.out.below (below_drewN (Below.refl _ _) _)))))
          go_wp2_with fail
          go_ret
          exact ⟨rfl, below_drewN HB2.out _⟩
  · rw [decide_eq_false h1] at HT
    have ha : ans = false := by rw [hans]; exact decide_eq_false fun h => h1 (mayPlan_tab.1 h).1
    subst ha
    have HB := Lib.hid hb1
    have HK := Lib.hid hk1
    clear hans hT hP hb1 hk1 hP1 h1 hlT hlP hm9
    go_enter Try.func19, Try.ntmps19
    go_upto_region 1 with fail
    generalize w.alloc (.cells #[.slice A q c, .slice B m d] 32) = w1 at *
    have q0 : w1.cell? ⟨w.heap.size, 0, none⟩ = some (.slice A q c) := (blk_cell HK.out 0).trans rfl
    go_wp2_with fail
    refine HT.out.mono ?_
    rintro e w2 ⟨rfl, hb2⟩
    have HB2 := Lib.hid (HB.out.trans (hb2.mono HB.out.size))
    clear hb2 HB HK
    go_wp2_with fail
    go_ret
    exact ⟨rfl, HB2.out⟩

end Go.Proofs.Ytmgmgmbpldboiaa
