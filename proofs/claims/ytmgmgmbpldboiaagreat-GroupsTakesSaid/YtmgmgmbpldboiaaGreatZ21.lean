/- Yh Md Me Mf Mg: texts laid together, what is not used left out. -/
import Derived.Test.YtmgmgmbpldboiaaGreatZ06
import Derived.Test.YtmgmgmbpldboiaaGreatZ20
namespace Go.Proofs.YtmgmgmbpldboiaaGreat
open Go.RowKit

def zv (x : Int) : Value := .int .i64 x
set_option maxRecDepth 100000 in
theorem zs_of_own {w : World} {B n cap : Nat} {A : Option Addr} {L : List Int} (h : w.ownsRow B 3 1 (.slice A n cap) n (L.map zv)) : ZIn w A n L := by
  have hl : L.length = n := by have := h.1; rw [List.length_map, Nat.mul_one] at this; exact this
  refine ⟨hl, fun hn => ?_⟩
  obtain ⟨A2, c2, he, _, _, hA⟩ := own_slice h
  simp only [Value.slice.injEq] at he
  obtain ⟨rfl, _, rfl⟩ := he
  obtain ⟨g, rfl⟩ := hA hn
  refine ⟨g, 0, rfl, fun i hi => ?_⟩
  rw [Nat.zero_add, World.ownsRow.cellAt h i (by omega), List.getElem?_map, List.getD_eq_getElem?_getD, List.getElem?_eq_getElem (by omega)]
  rfl
set_option maxRecDepth 100000 in
/-- A copy of whole numbers that is made behind nothing. -/
theorem append_zs (w : World) (B : Nat) (v : Value) (xs : List Value) (k0 : Nat) (hown : w.ownsRow B 3 1 v k0 xs) (A : Option Addr) (k c : Nat) (L : List Int) (hi : ZIn w A k L) (hnk : k0 + k ≤ 1000000000) (hB : B ≤ w.heap.size) :
    ∃ v' w', (Builtin.append_ #[22, 22] 22 #[v, .slice A k c]).run Tryz.prog w = .ok v' w' ∧ w'.ownsRow B 3 1 v' (k0 + k) (xs ++ L.map zv) ∧ w.grownBy w' v.ownBlock := by
  obtain ⟨i3, h3, hz0, hz1, hz2⟩ := info_parts Tryz.info3
  have hl := hi.1
  rcases A with _ | ad
  · have hk : k = 0 := by
      rcases Nat.eq_zero_or_pos k with h0 | h0
      · exact h0
      · obtain ⟨b, off, h, _⟩ := hi.2 h0
        cases h
    subst hk
    have hL : L = [] := List.eq_nil_of_length_eq_zero hl
    subst hL
    obtain ⟨v', w', h1, h2, h4⟩ := append_ints w B v k0 xs hown none 0 c [] ⟨rfl, fun h => absurd h (Nat.lt_irrefl 0)⟩ hnk hB
    exact ⟨v', w', h1, h2, h4⟩
  · have hnews : ∀ j u, (L.map zv)[j]? = some u → w.cell? (ad.add j) = some u := by
      intro j u hu
      have hjk : j < k := by
        have := (List.getElem?_eq_some_iff.1 hu).1
        rw [List.length_map] at this
        omega
      obtain ⟨b, off, he, hc⟩ := hi.2 (by omega)
      injection he with he
      subst he
      rw [Addr.add_lit, hc j hjk, ← hu, List.getElem?_map, List.getD_eq_getElem?_getD, List.getElem?_eq_getElem (by omega)]
      rfl
    obtain ⟨v', w', h1, h2, h4, _⟩ := run_append_own (P := Tryz.prog) w B 22 22 3 i3 (.int .i64 0) 1 8 Tryz.underlying22 h3 hz0 hz1 hz2 rfl (by decide) v k0 xs hown ad k c (L.map zv) (by rw [List.length_map, hl, Nat.mul_one]) hnews
      (fun u hu => by obtain ⟨q, _, rfl⟩ := List.mem_map.1 hu; rfl) (by unfold maxLen; omega) (by omega) hB
    exact ⟨v', w', h1, h2, h4⟩

set_option maxHeartbeats 1600000 in
set_option maxRecDepth 100000 in
theorem zs_same (w : World) (A B : Option Addr) (n c d : Nat) (L : List Int) (h : ZIn w A n L) (k : ZIn w B n L) (hn : n ≤ 2000000) :
    Calls Tryz.prog 13 #[.slice A n c, .slice B n d] w fun e w' => e = .returned (.bool true) ∧ ∃ m, w' = w.drewN m := by
  have d0 : ((n : Int) != (n : Int)) = false := by simp
  have H := Lib.hid h
  have K := Lib.hid k
  clear h k
  go_enter Tryz.func13, Tryz.ntmps13
  go_wp2_with fail
  go_loopw [5] (fun x wr => ∃ q : Nat, q ≤ n ∧ x = .int .i64 q ∧ ∃ m, wr = w.drewN m) (fun x _ => n - (intOf x).toNat)
  case atStart => exact ⟨0, Nat.zero_le _, rfl, 0, rfl⟩
  case round =>
    obtain ⟨q, hq, rfl, hd⟩ := hrel
    have HD := Lib.hid hd
    by_cases e : q < n
    · obtain ⟨b1, o1, rfl, hc1⟩ := H.out.2 (by omega)
      obtain ⟨b2, o2, rfl, hc2⟩ := K.out.2 (by omega)
      have c1 : wr.cell? ⟨b1, o1 + q, none⟩ = some (.int .i64 (L.getD q 0)) := by obtain ⟨m, rfl⟩ := hd; exact hc1 q e
      have c2 : wr.cell? ⟨b2, o2 + q, none⟩ = some (.int .i64 (L.getD q 0)) := by obtain ⟨m, rfl⟩ := hd; exact hc2 q e
      obtain ⟨v, hv⟩ : ∃ v, v = L.getD q 0 := ⟨_, rfl⟩
      rw [← hv] at c1 c2
      clear hv hd hc1 hc2
      have d1 : decide ((q : Int) < (n : Int)) = true := decide_eq_true (by omega)
      have d2 : (v != v) = false := by simp
      go_wp2_with fail
      go_quiet (fail)
      go_wp2_with fail
      go_roundw
      case rel =>
        obtain ⟨m, hm⟩ := HD.out
        exact ⟨q + 1, by omega, by go_num, m + nq, by rw [hm]; simp⟩
      case measure => simp [intOf]; omega
    · have d1 : decide ((q : Int) < (n : Int)) = false := decide_eq_false (by omega)
      clear hd
      go_wp2_with fail
      go_ret
      exact ⟨rfl, HD.out⟩

set_option maxRecDepth 100000 in
theorem lit_ints (w : World) (L : List Nat) : IntsIn (w.alloc (.cells (L.map iv).toArray 3)) (some ⟨w.heap.size, 0, none⟩) L.length L := by
  refine ⟨rfl, fun _ => ⟨w.heap.size, 0, rfl, fun i hi => ?_⟩⟩
  rw [Nat.zero_add, blk_cell (blk_new w 3 _)]
  simp [iv, hi]

/-- What is asked of the code's functions; Make and Flat for at most N weights. -/
structure LenDone (N : Nat) : Prop where
  make : ∀ (w : World) (A : Option Addr) (n c : Nat) (L : List Int) (most : Int), ZIn w A n L → n ≤ c → n ≤ N → n ≤ maxLen → -9223372036854775808 ≤ most → most ≤ 9223372036854775807 → Calls Tryz.prog 76 #[.slice A n c, .int .i64 most] w (MakePost w L most)
  flat : ∀ (w : World) (A : Option Addr) (n c : Nat) (L : List Int), ZIn w A n L → n ≤ c → n ≤ N → n ≤ maxLen → Calls Tryz.prog 44 #[.slice A n c] w (FlatPost w L)
  check : ∀ (w : World) (A : Option Addr) (n c : Nat) (L : List Int), ZIn w A n L → n ≤ c → n ≤ maxLen → Calls Tryz.prog 91 #[.slice A n c] w fun e w' => e = .returned (.int .i64 (if LenOk L then 0 else 80)) ∧ Below w.heap.size w w'
  full : ∀ (w : World) (A : Option Addr) (n c : Nat) (L : List Int), ZIn w A n L → n ≤ c → n ≤ maxLen → Calls Tryz.prog 28 #[.slice A n c] w fun e w' => e = .returned (.bool (decide (LenOk L ∧ kraftL L = 1048576))) ∧ Below w.heap.size w w'

end Go.Proofs.YtmgmgmbpldboiaaGreat
namespace Go.Proofs.YtmgmgmbpldboiaaGreat
open Go.RowKit

theorem rchoose_all (w : World) (A : Option Addr) (n c : Nat) (L : List Int) (m : Int) (hL : ZIn w A n L) (hnc : n ≤ c) (hn : n ≤ 1000000) : Calls Tryz.prog 11 #[.slice A n c, .int .i64 m] w (PlanPost w (chooseAns L m)) := by
  by_cases h : MayG L m
  · obtain ⟨k, rfl⟩ : ∃ k : Nat, m = k := ⟨m.toNat, by have := h.1; omega⟩
    exact rchoose_any w A n c L k hL hnc hn h
  · exact rchoose_out w A n c L m hL (by unfold maxLen; omega) h
theorem rflat_all (w : World) (A : Option Addr) (n c : Nat) (L : List Int) (m : Int) (hL : ZIn w A n L) (hn : n ≤ 1000000) : Calls Tryz.prog 15 #[.slice A n c, .int .i64 m] w (PlanPost w (flatAns L m)) := by
  by_cases h : MayG L m
  · obtain ⟨k, rfl⟩ : ∃ k : Nat, m = k := ⟨m.toNat, by have := h.1; omega⟩
    exact rflat_any w A n c L k hL hn h
  · exact rflat_out w A n c L m hL (by unfold maxLen; omega) h
theorem rbest_all (w : World) (A : Option Addr) (n c : Nat) (L : List Int) (m : Int) (hL : ZIn w A n L) (hnc : n ≤ c) (hn : n ≤ 1000000) : Calls Tryz.prog 17 #[.slice A n c, .int .i64 m] w (PlanPost w (bestAns L m)) := by
  by_cases h : MayG L m
  · obtain ⟨k, rfl⟩ : ∃ k : Nat, m = k := ⟨m.toNat, by have := h.1; omega⟩
    exact rbest_any w A n c L k hL hnc hn h
  · exact rbest_out w A n c L m hL (by unfold maxLen; omega) h
/-- A plan that a cell of its own holds. -/
def Held (w : World) (g : Nat) (T : List (List Int)) (P : List Int) (u v : Value) : Prop := Blk w g 26 #[u, v] ∧ PlanIn w (.agg #[u, v]) T P
theorem Held.below {w w' : World} {g : Nat} {T : List (List Int)} {P : List Int} {u v : Value} (h : Held w g T P u v) (hb : Below w.heap.size w w') : Held w' g T P u v :=
  ⟨(step_of_below hb).blk h.1 List.not_mem_nil List.not_mem_nil, h.2.below hb⟩
theorem Held.cells {w : World} {g : Nat} {T : List (List Int)} {P : List Int} {u v : Value} (h : Held w g T P u v) : w.cell? ⟨g, 0, none⟩ = some u ∧ w.cell? ⟨g, 1, none⟩ = some v :=
  ⟨(blk_cell h.1 0).trans rfl, (blk_cell h.1 1).trans rfl⟩
theorem held_new {w : World} {u v : Value} {T : List (List Int)} {P : List Int} (h : PlanIn w (.agg #[u, v]) T P) : Held (w.alloc (.cells #[u, v] 26)) w.heap.size T P u v ∧ Below w.heap.size w (w.alloc (.cells #[u, v] 26)) :=
  ⟨⟨blk_new w _ _, h.below ((Below.refl _ _).alloc (Nat.le_refl _) _)⟩, (Below.refl _ _).alloc (Nat.le_refl _) _⟩

section
variable (R : GroupsDone)
include R
set_option maxHeartbeats 3200000 in
set_option maxRecDepth 100000 in
theorem chooses_law (w : World) (A : Option Addr) (n c : Nat) (L : List Int) (m : Int) (hL : ZIn w A n L) (hnc : n ≤ c) (hn : n ≤ maxLen) (h1 : -9223372036854775808 ≤ m) (h2 : m ≤ 9223372036854775807) : Calls Tryz.prog 3 #[.slice A n c, .int .i64 m] w fun e w' => e = .returned (.bool true) ∧ Below w.heap.size w w' := by
  have HAW := Lib.hid (awake_any R)
  unfold maxLen at hn
  by_cases hbig : 3000 < n
  · have d0 : decide ((3000 : Int) < (n : Int)) = true := decide_eq_true (by omega)
    clear hL R
    go_enter Tryz.func3, Tryz.ntmps3
    go_wp2_with fail
    refine (HAW.out _).mono ?_
    rintro e w7 ⟨rfl, hb7⟩
    have HB7 := Lib.hid hb7
    clear hb7
    go_wp2_with fail
    go_ret
    exact ⟨rfl, HB7.out⟩
  · have d0 : decide ((3000 : Int) < (n : Int)) = false := decide_eq_false (by omega)
    have hown0 : (w.alloc (.cells #[] 3)).ownsRow w.heap.size 3 1 (.slice (some ⟨w.heap.size, 0, none⟩) 0 0) 0 [] := World.ownsRow_made w #[] 0 (Nat.le_refl _) (Nat.zero_le _) rfl
    have hb0 : Below w.heap.size w (w.alloc (.cells #[] 3)) := (Below.refl _ w).alloc (Nat.le_refl _) _
    obtain ⟨v3, w3, hr3, ho3, hg3⟩ := append_zs (w.alloc (.cells #[] 3)) w.heap.size _ [] 0 hown0 A n c L (hL.below hb0) (by omega) (by simp)
    have hb3 : Below w.heap.size w w3 := hb0.grown hg3 (by simp) (fun k hk => (hown0.lt k hk).1)
    obtain ⟨A3, c3, rfl, hc3, _, _⟩ := own_slice ho3
    rw [Nat.zero_add] at ho3 hr3 hc3
    have hz3 : ZIn w3 A3 n L := zs_of_own ho3
    have HC := Lib.hid (R.choose w3 A3 n c3 L m hz3 hc3 (by omega) h1 h2)
    have HR := Lib.hid fun (wx : World) (h : ZIn wx A n L) => rchoose_all wx A n c L m h hnc (by omega)
    have HL3 := Lib.hid (hL.below hb3)
    have HZ3 := Lib.hid hz3
    have HB3 := Lib.hid hb3
    have HR3 := Lib.hid hr3
    generalize chooseAns L m = ca at *
    obtain ⟨T, P, k⟩ := ca
    clear hL hown0 hb0 hr3 ho3 hg3 hb3 hz3 hc3 R
    go_enter Tryz.func3, Tryz.ntmps3
    go_wp2_with (at_builtin; refine Lib.wpList_append_run _ rfl (.tmp 14) (.tmp 15) 22 22 rfl (.slice (some ⟨w.heap.size, 0, none⟩) 0 0) (.slice A n c) rfl rfl _ w3 HR3.out ?_)
    refine HC.out.mono ?_
    rintro e w4 ⟨v4, rfl, hp4, hb4⟩
    obtain ⟨A4, n4, c4, B4, m4, d4, rfl, hpl4⟩ := hp4.parts
    obtain ⟨hh5, hb45⟩ := held_new hpl4
    have hb5 := hb4.trans (hb45.mono hb4.size)
    have HH5 := Lib.hid hh5
    have HB5 := Lib.hid (HB3.out.trans (hb5.mono HB3.out.size))
    have HL5 := Lib.hid (HL3.out.below hb5)
    have HZ5 := Lib.hid (HZ3.out.below hb5)
    clear hp4 hpl4 hh5 hb45 hb4 hb5 HC
    (try dsimp only)
    go_upto_region 5 with fail
    generalize w4.alloc (.cells #[.slice A4 n4 c4, .slice B4 m4 d4] 26) = w5 at *
    generalize w4.heap.size = g4 at *
    have HR5 := Lib.hid (HR.out w5 HL5.out)
    go_wp2_with fail
    refine HR5.out.mono ?_
    rintro e w6 ⟨v6, rfl, hp6, hb6⟩
    obtain ⟨A6, n6, c6, B6, m6, d6, rfl, hpl6⟩ := hp6.parts
    obtain ⟨hh7, hb67⟩ := held_new hpl6
    have hb7 := hb6.trans (hb67.mono hb6.size)
    have hh5 := HH5.out.below hb7
    have HB7 := Lib.hid (HB5.out.trans (hb7.mono HB5.out.size))
    have HL7 := Lib.hid (HL5.out.below hb7)
    have HZ7 := Lib.hid (HZ5.out.below hb7)
    have HS := Lib.hid (rplans_any _ _ _ _ _ _ _ hh5.2 hh7.2)
    obtain ⟨q0, q1⟩ := hh5.cells
    obtain ⟨r0, r1⟩ := hh7.cells
    clear hp6 hpl6 hh7 hb67 hb6 hb7 hh5 HR5 HH5
    (try dsimp only)
    go_upto_region 6 with fail
    generalize w6.alloc (.cells #[.slice A6 n6 c6, .slice B6 m6 d6] 26) = w7 at *
    generalize w6.heap.size = g6 at *
    have ht : decide (T = T ∧ P = P) = true := decide_eq_true ⟨rfl, rfl⟩
    rw [ht] at HS
    have dk : ((k : Int) == (k : Int)) = true := beq_self_eq_true _
    clear ht
    go_wp2_with fail
    refine HS.out.mono ?_
    rintro e w8 ⟨rfl, hb8⟩
    have HS2 := Lib.hid (zs_same w8 A3 A n c3 c L (HZ7.out.below hb8) (HL7.out.below hb8) (by omega))
    have HB8 := Lib.hid (HB7.out.trans (hb8.mono HB7.out.size))
    clear hb8 q0 q1 r0 r1
    go_wp2_with fail
    refine HS2.out.mono ?_
    rintro e w9 ⟨rfl, m9, rfl⟩
    have HB9 := Lib.hid (below_drewN HB8.out m9)
    generalize w8.drewN m9 = w9 at *
    go_wp2_with fail
    refine (HAW.out w9).mono ?_
    rintro e w10 ⟨rfl, hb10⟩
    have HB10 := Lib.hid (HB9.out.trans (hb10.mono HB9.out.size))
    clear hb10
    go_wp2_with fail
    go_ret
    exact ⟨rfl, HB10.out⟩
end

end Go.Proofs.YtmgmgmbpldboiaaGreat
namespace Go.Proofs.YtmgmgmbpldboiaaGreat
open Go.RowKit

theorem plan3_parts {w : World} {ans : List (List Int) × List Int × Nat × Nat} {e : Ending} {w' : World} (h : Plan3 w ans e w') : ∃ A n c B m d, e = .returned (.tuple #[.agg #[.slice A n c, .slice B m d], .int .i64 ans.2.2.1, .int .i64 ans.2.2.2]) ∧ PlanIn w' (.agg #[.slice A n c, .slice B m d]) ans.1 ans.2.1 ∧ Below w.heap.size w w' := by
  obtain ⟨v, rfl, hp, hb⟩ := h
  obtain ⟨A, n, c, B, m, d, rfl, hpl⟩ := hp.parts
  exact ⟨A, n, c, B, m, d, rfl, hpl, hb⟩

section
variable (R : GroupsDone)
include R
set_option maxHeartbeats 3200000 in
set_option maxRecDepth 100000 in
theorem flats_law (w : World) (A : Option Addr) (n c : Nat) (L : List Int) (m : Int) (hL : ZIn w A n L) (hnc : n ≤ c) (hn : n ≤ maxLen) (h1 : -9223372036854775808 ≤ m) (h2 : m ≤ 9223372036854775807) : Calls Tryz.prog 4 #[.slice A n c, .int .i64 m] w fun e w' => e = .returned (.bool true) ∧ Below w.heap.size w w' := by
  have HAW := Lib.hid (awake_any R)
  unfold maxLen at hn
  by_cases hbig : 3000 < n
  · have d0 : decide ((3000 : Int) < (n : Int)) = true := decide_eq_true (by omega)
    clear hL R
    go_enter Tryz.func4, Tryz.ntmps4
    go_wp2_with fail
    refine (HAW.out _).mono ?_
    rintro e w7 ⟨rfl, hb7⟩
    have HB7 := Lib.hid hb7
    clear hb7
    go_wp2_with fail
    go_ret
    exact ⟨rfl, HB7.out⟩
  · have d0 : decide ((3000 : Int) < (n : Int)) = false := decide_eq_false (by omega)
    have HC1 := Lib.hid (R.flat w A n c L m hL hnc (by omega) h1 h2)
    have HR1 := Lib.hid fun (wx : World) (h : ZIn wx A n L) => rflat_all wx A n c L m h (by omega)
    have HC2 := Lib.hid fun (wx : World) (h : ZIn wx A n L) => R.best wx A n c L m h hnc (by omega) h1 h2
    have HR2 := Lib.hid fun (wx : World) (h : ZIn wx A n L) => rbest_all wx A n c L m h hnc (by omega)
    have HL0 := Lib.hid hL
    have HB0 := Lib.hid (Below.refl w.heap.size w)
    generalize flatAns L m = fa at *
    generalize bestAns L m = ba at *
    obtain ⟨T, P, k⟩ := fa
    obtain ⟨U, Q, j⟩ := ba
    clear hL R
    go_enter Tryz.func4, Tryz.ntmps4
    go_wp2_with fail
    refine HC1.out.mono ?_
    rintro e w1 ⟨v1, rfl, hp1, hb1⟩
    obtain ⟨A1, n1, c1, B1, m1, d1, rfl, hpl1⟩ := hp1.parts
    obtain ⟨hh2, hb12⟩ := held_new hpl1
    have hb2 := hb1.trans (hb12.mono hb1.size)
    have HH2 := Lib.hid hh2
    have HB2 := Lib.hid (HB0.out.trans (hb2.mono HB0.out.size))
    have HL2 := Lib.hid (HL0.out.below hb2)
    clear hp1 hpl1 hh2 hb12 hb1 hb2
    (try dsimp only)
    go_upto_region 4 with fail
    generalize w1.alloc (.cells #[.slice A1 n1 c1, .slice B1 m1 d1] 26) = w2 at *
    generalize w1.heap.size = g1 at *
    have HX := Lib.hid (HR1.out w2 HL2.out)
    go_wp2_with fail
    refine HX.out.mono ?_
    rintro e w3 ⟨v3, rfl, hp3, hb3⟩
    obtain ⟨A3, n3, c3, B3, m3, d3, rfl, hpl3⟩ := hp3.parts
    obtain ⟨hh4, hb34⟩ := held_new hpl3
    have hb4 := hb3.trans (hb34.mono hb3.size)
    have HH4 := Lib.hid hh4
    have HB4 := Lib.hid (HB2.out.trans (hb4.mono HB2.out.size))
    have HL4 := Lib.hid (HL2.out.below hb4)
    have HH2x4 := Lib.hid (HH2.out.below hb4)
    clear hp3 hpl3 hh4 hb34 hb3 hb4 HH2
    (try dsimp only)
    go_upto_region 5 with fail
    generalize w3.alloc (.cells #[.slice A3 n3 c3, .slice B3 m3 d3] 26) = w4 at *
    generalize w3.heap.size = g3 at *
    have HY := Lib.hid (HC2.out w4 HL4.out)
    go_wp2_with fail
    refine HY.out.mono ?_
    rintro e w5 ⟨v5, rfl, hp5, hb5⟩
    obtain ⟨A5, n5, c5, B5, m5, d5, rfl, hpl5⟩ := hp5.parts
    obtain ⟨hh6, hb56⟩ := held_new hpl5
    have hb6 := hb5.trans (hb56.mono hb5.size)
    have HH6 := Lib.hid hh6
    have HB6 := Lib.hid (HB4.out.trans (hb6.mono HB4.out.size))
    have HL6 := Lib.hid (HL4.out.below hb6)
    have HH2x4x6 := Lib.hid (HH2x4.out.below hb6)
    have HH4x6 := Lib.hid (HH4.out.below hb6)
    clear hp5 hpl5 hh6 hb56 hb5 hb6 HH2x4 HH4
    (try dsimp only)
    go_upto_region 6 with fail
    generalize w5.alloc (.cells #[.slice A5 n5 c5, .slice B5 m5 d5] 26) = w6 at *
    generalize w5.heap.size = g5 at *
    have HV := Lib.hid (HR2.out w6 HL6.out)
    go_wp2_with fail
    refine HV.out.mono ?_
    rintro e w7 ⟨v7, rfl, hp7, hb7⟩
    obtain ⟨A7, n7, c7, B7, m7, d7, rfl, hpl7⟩ := hp7.parts
    obtain ⟨hh8, hb78⟩ := held_new hpl7
    have hb8 := hb7.trans (hb78.mono hb7.size)
    have HB8 := Lib.hid (HB6.out.trans (hb8.mono HB6.out.size))
    have i1 := HH2x4x6.out.below hb8
    have i2 := HH4x6.out.below hb8
    have i3 := HH6.out.below hb8
    have HI3 := Lib.hid i3
    have HI4 := Lib.hid hh8
    have HS := Lib.hid (rplans_any _ _ _ _ _ _ _ i1.2 i2.2)
    obtain ⟨q0, q1⟩ := i1.cells
    obtain ⟨r0, r1⟩ := i2.cells
    clear hp7 hpl7 hh8 hb78 hb7 hb8 i1 i2 i3 HV HH2x4x6 HH4x6 HH6
    (try dsimp only)
    go_upto_region 7 with fail
    generalize w7.alloc (.cells #[.slice A7 n7 c7, .slice B7 m7 d7] 26) = w8 at *
    generalize w7.heap.size = g7 at *
    have ht : decide (T = T ∧ P = P) = true := decide_eq_true ⟨rfl, rfl⟩
    rw [ht] at HS
    have dk : ((k : Int) == (k : Int)) = true := beq_self_eq_true _
    have dj : ((j : Int) == (j : Int)) = true := beq_self_eq_true _
    clear ht
    go_wp2_with fail
    refine HS.out.mono ?_
    rintro e w9 ⟨rfl, hb9⟩
    have i3 := HI3.out.below hb9
    have i4 := HI4.out.below hb9
    have HS2 := Lib.hid (rplans_any _ _ _ _ _ _ _ i3.2 i4.2)
    rw [show decide (U = U ∧ Q = Q) = true from decide_eq_true ⟨rfl, rfl⟩] at HS2
    have HB9 := Lib.hid (HB8.out.trans (hb9.mono HB8.out.size))
    clear q0 q1 r0 r1
    obtain ⟨q0, q1⟩ := i3.cells
    obtain ⟨r0, r1⟩ := i4.cells
    clear i3 i4 hb9 HS
    go_wp2_with fail
    refine HS2.out.mono ?_
    rintro e w10 ⟨rfl, hb10⟩
    have HB10 := Lib.hid (HB9.out.trans (hb10.mono HB9.out.size))
    clear hb10 q0 q1 r0 r1
    go_wp2_with fail
    refine (HAW.out w10).mono ?_
    rintro e w11 ⟨rfl, hb11⟩
    have HB11 := Lib.hid (HB10.out.trans (hb11.mono HB10.out.size))
    clear hb11
    go_wp2_with fail
    go_ret
    exact ⟨rfl, HB11.out⟩

set_option maxHeartbeats 3200000 in
set_option maxRecDepth 100000 in
theorem takes_law (w : World) (s : ByteArray) (a m : Int) (hs : s.size ≤ maxLen) (h1 : -9223372036854775808 ≤ a) (h2 : a ≤ 9223372036854775807) (h3 : -9223372036854775808 ≤ m) (h4 : m ≤ 9223372036854775807) : Calls Tryz.prog 5 #[.string s, .int .i64 a, .int .i64 m] w fun e w' => e = .returned (.bool true) ∧ Below w.heap.size w w' := by
  have HAW := Lib.hid (awake_any R)
  unfold maxLen at hs
  by_cases hbig : 3000 < s.size
  · have d0 : decide ((3000 : Int) < (s.size : Int)) = true := decide_eq_true (by omega)
    clear R
    go_enter Tryz.func5, Tryz.ntmps5
    go_wp2_with fail
    refine (HAW.out _).mono ?_
    rintro e w7 ⟨rfl, hb7⟩
    have HB7 := Lib.hid hb7
    clear hb7
    go_wp2_with fail
    go_ret
    exact ⟨rfl, HB7.out⟩
  · have d0 : decide ((3000 : Int) < (s.size : Int)) = false := decide_eq_false (by omega)
    have HC1 := Lib.hid (R.takes w s a m (by omega) h1 h2 h3 h4)
    have HOF := Lib.hid fun (wx : World) => of_any wx s (by omega)
    have HR := Lib.hid fun (wx : World) (B : Option Addr) (q d : Nat) (h : IntsIn wx B q (bitsB s.data.toList)) (hqd : q ≤ d) (hq : q ≤ 1000000) (hd : d ≤ maxLen) => rtakeg_all wx B q d (bitsB s.data.toList) a m h hqd hq hd (bit01_bitsB _)
    have HLEN := Lib.hid (bitsB_length s.data.toList)
    generalize takeG (bitsB s.data.toList) a m = ta at *
    obtain ⟨T, P, x, k⟩ := ta
    have HB0 := Lib.hid (Below.refl w.heap.size w)
    clear R
    go_enter Tryz.func5, Tryz.ntmps5
    go_wp2_with fail
    refine HC1.out.mono ?_
    intro e w1 h
    obtain ⟨A1, n1, c1, B1, m1, d1, rfl, hpl1, hb1⟩ := plan3_parts h
    obtain ⟨hh2, hb12⟩ := held_new hpl1
    have hb2 := hb1.trans (hb12.mono hb1.size)
    have HH2 := Lib.hid hh2
    have HB2 := Lib.hid (HB0.out.trans (hb2.mono HB0.out.size))
    clear h hpl1 hh2 hb12 hb1 hb2
    (try dsimp only)
    go_upto_region 4 with fail
    generalize w1.alloc (.cells #[.slice A1 n1 c1, .slice B1 m1 d1] 26) = w2 at *
    generalize w1.heap.size = g1 at *
    go_wp2_with fail
    refine (HOF.out w2).mono ?_
    rintro e w3 ⟨v3, rfl, ho3, hb3⟩
    obtain ⟨A3, c3, rfl, hc3, hm3, _⟩ := own_slice ho3
    have hi3 : IntsIn w3 A3 (8 * s.size) (bitsB s.data.toList) := ints_of_own ho3
    have HR3 := Lib.hid (HR.out w3 A3 (8 * s.size) c3 hi3 hc3 (by omega) hm3)
    have HB3 := Lib.hid (HB2.out.trans (hb3.mono HB2.out.size))
    have HH3 := Lib.hid (HH2.out.below hb3)
    clear ho3 hi3 hb3 HH2
    go_wp2_with fail
    refine HR3.out.mono ?_
    intro e w4 h
    obtain ⟨A4, n4, c4, B4, m4, d4, rfl, hpl4, hb4⟩ := plan3_parts h
    obtain ⟨hh5, hb45⟩ := held_new hpl4
    have hb5 := hb4.trans (hb45.mono hb4.size)
    have i1 := HH3.out.below hb5
    have HB5 := Lib.hid (HB3.out.trans (hb5.mono HB3.out.size))
    have HS := Lib.hid (rplans_any _ _ _ _ _ _ _ i1.2 hh5.2)
    obtain ⟨q0, q1⟩ := i1.cells
    obtain ⟨r0, r1⟩ := hh5.cells
    clear h hpl4 hh5 hb45 hb4 hb5 i1 HR3 HH3
    (try dsimp only)
    go_upto_region 5 with fail
    generalize w4.alloc (.cells #[.slice A4 n4 c4, .slice B4 m4 d4] 26) = w5 at *
    generalize w4.heap.size = g4 at *
    rw [show decide (T = T ∧ P = P) = true from decide_eq_true ⟨rfl, rfl⟩] at HS
    have dk : ((k : Int) == (k : Int)) = true := beq_self_eq_true _
    have dx : ((x : Int) == (x : Int)) = true := beq_self_eq_true _
    go_wp2_with fail
    refine HS.out.mono ?_
    rintro e w6 ⟨rfl, hb6⟩
    have HB6 := Lib.hid (HB5.out.trans (hb6.mono HB5.out.size))
    clear hb6 q0 q1 r0 r1
    go_wp2_with fail
    refine (HAW.out w6).mono ?_
    rintro e w7 ⟨rfl, hb7⟩
    have HB7 := Lib.hid (HB6.out.trans (hb7.mono HB6.out.size))
    clear hb7
    go_wp2_with fail
    go_ret
    exact ⟨rfl, HB7.out⟩
end

end Go.Proofs.YtmgmgmbpldboiaaGreat
namespace Go.Proofs.YtmgmgmbpldboiaaGreat
open Go.RowKit

section
variable (R : GroupsDone)
include R
set_option maxHeartbeats 3200000 in
set_option maxRecDepth 100000 in
theorem puts_law (w : World) (v : Value) (T : List (List Int)) (P : List Int) (h : PlanIn w v T P) (hs : SmallP T P) (A' : Option Addr) (n' c' : Nat) (L : List Int) (hL : ZIn w A' n' L) (hnc : n' ≤ c') (hn : n' ≤ maxLen) : Calls Tryz.prog 6 #[v, .slice A' n' c'] w fun e w' => e = .returned (.bool true) ∧ Below w.heap.size w w' := by
  unfold maxLen at hn
  obtain ⟨A, n, c, B, m, d, rfl, hpl⟩ := h.parts
  clear h
  obtain ⟨w1, hw1⟩ : ∃ w1, w1 = w.alloc (.cells #[.slice A n c, .slice B m d] 26) := ⟨_, rfl⟩
  obtain ⟨hh1, hb1⟩ := held_new hpl
  rw [← hw1] at hh1 hb1
  obtain ⟨q0, q1⟩ := hh1.cells
  have HLI := Lib.hid (llight_any w1 _ T P hh1.2 hs)
  have HAW := Lib.hid (awake_any R)
  have HH1 := Lib.hid hh1
  have HB1 := Lib.hid hb1
  rw [hw1] at q0 q1
  have HL1 := Lib.hid (hL.below hb1)
  clear hb1 hh1 hpl hs hL
  by_cases hl : IsLight T P
  · rw [decide_eq_true hl] at HLI
    have HLP := Lib.hid (light_of hl)
    clear hl
    by_cases hbig : 3000 < n'
    · have d0 : decide ((3000 : Int) < (n' : Int)) = true := decide_eq_true (by omega)
      clear R
      go_enter Tryz.func6, Tryz.ntmps6
      go_wp2_with fail
      rw [← hw1]
      clear hw1 q0 q1
      refine HLI.out.mono ?_
      rintro e w2 ⟨rfl, hb2⟩
      have HB2 := Lib.hid (HB1.out.trans (hb2.mono HB1.out.size))
      have HH2 := Lib.hid (HH1.out.below hb2)
      clear hb2 HLI
      go_wp2_with fail
      refine (HAW.out _).mono ?_
      rintro e w7 ⟨rfl, hb7⟩
      have HB7 := Lib.hid (HB2.out.trans (hb7.mono HB2.out.size))
      clear hb7
      go_wp2_with fail
      go_ret
      exact ⟨rfl, HB7.out⟩
    · have d0 : decide ((3000 : Int) < (n' : Int)) = false := decide_eq_false (by omega)
      have HPU := Lib.hid fun (wx : World) (h : PlanIn wx (.agg #[.slice A n c, .slice B m d]) T P) (k : ZIn wx A' n' L) => R.puts wx _ T P A' n' c' L h HLP.out k hnc (by omega)
      have HRP := Lib.hid fun (wx : World) (h : PlanIn wx (.agg #[.slice A n c, .slice B m d]) T P) (k : ZIn wx A' n' L) => rputg_any wx _ T P h A' n' c' L k (by omega)
      have HSI := Lib.hid fun (wx : World) (h : PlanIn wx (.agg #[.slice A n c, .slice B m d]) T P) (k : ZIn wx A' n' L) => R.size wx _ T P A' n' c' L h HLP.out k hnc (by omega)
      have HRS := Lib.hid fun (wx : World) (h : PlanIn wx (.agg #[.slice A n c, .slice B m d]) T P) (k : ZIn wx A' n' L) => rsize_any wx _ T P h A' n' c' L k (by omega)
      generalize codesG T P L = cs at *
      generalize sizeG T P L = sz at *
      obtain ⟨bl, k⟩ := cs
      obtain ⟨x, j⟩ := sz
      clear R
      go_enter Tryz.func6, Tryz.ntmps6
      go_wp2_with fail
      rw [← hw1]
      clear hw1 q0 q1
      refine HLI.out.mono ?_
      rintro e w2 ⟨rfl, hb2⟩
      have HB2 := Lib.hid (HB1.out.trans (hb2.mono HB1.out.size))
      have HH2 := Lib.hid (HH1.out.below hb2)
      have HL2 := Lib.hid (HL1.out.below hb2)
      clear hb2 HLI
      obtain ⟨q0, q1⟩ := HH2.out.cells
      have HP2 := Lib.hid (HPU.out w2 HH2.out.2 HL2.out)
      go_wp2_with fail
      clear q0 q1
      refine HP2.out.mono ?_
      rintro e w3 ⟨rfl, hb3⟩
      dsimp only
      obtain ⟨X, hX⟩ : ∃ X, X = (⟨(pack bl).toArray⟩ : ByteArray) := ⟨_, rfl⟩
      obtain ⟨N, hN⟩ : ∃ N, N = bl.length := ⟨_, rfl⟩
      rw [← hX, ← hN]
      have HX := Lib.hid hX
      have HN := Lib.hid hN
      have hb34 : Below w3.heap.size w3 (w3.alloc (.cells #[.string X, .int .i64 N] 43)) := (Below.refl _ _).alloc (Nat.le_refl _) _
      have HK4 := Lib.hid (blk_new w3 43 #[.string X, .int .i64 N])
      have hb4 := hb3.trans (hb34.mono hb3.size)
      have HB4 := Lib.hid (HB2.out.trans (hb4.mono HB2.out.size))
      have HH4 := Lib.hid (HH2.out.below hb4)
      have HL4 := Lib.hid (HL2.out.below hb4)
      clear hb3 hb34 hb4 hX hN HP2 HH2 HL2
      go_upto_region 4 with fail
      generalize w3.alloc (.cells #[.string X, .int .i64 N] 43) = w4 at *
      generalize w3.heap.size = g3 at *
      obtain ⟨q0, q1⟩ := HH4.out.cells
      have HP4 := Lib.hid (HRP.out w4 HH4.out.2 HL4.out)
      go_wp2_with fail
      clear q0 q1
      refine HP4.out.mono ?_
      rintro e w5 ⟨rfl, hb5⟩
      dsimp only
      rw [← HX.out, ← HN.out]
      have hb56 : Below w5.heap.size w5 (w5.alloc (.cells #[.string X, .int .i64 N] 43)) := (Below.refl _ _).alloc (Nat.le_refl _) _
      have HK6 := Lib.hid (blk_new w5 43 #[.string X, .int .i64 N])
      have hb6 := hb5.trans (hb56.mono hb5.size)
      have HK46 := Lib.hid ((step_of_below hb6).blk HK4.out List.not_mem_nil List.not_mem_nil)
      have HB6 := Lib.hid (HB4.out.trans (hb6.mono HB4.out.size))
      have HH6 := Lib.hid (HH4.out.below hb6)
      have HL6 := Lib.hid (HL4.out.below hb6)
      clear hb5 hb56 hb6 HP4 HH4 HL4 HK4
      go_upto_region 5 with fail
      generalize w5.alloc (.cells #[.string X, .int .i64 N] 43) = w6 at *
      generalize w5.heap.size = g5 at *
      obtain ⟨q0, q1⟩ := HH6.out.cells
      have HS6 := Lib.hid (HSI.out w6 HH6.out.2 HL6.out)
      go_wp2_with fail
      clear q0 q1
      refine HS6.out.mono ?_
      rintro e w8 ⟨rfl, hb8⟩
      have HK48 := Lib.hid ((step_of_below hb8).blk HK46.out List.not_mem_nil List.not_mem_nil)
      have HK68 := Lib.hid ((step_of_below hb8).blk HK6.out List.not_mem_nil List.not_mem_nil)
      have HB8 := Lib.hid (HB6.out.trans (hb8.mono HB6.out.size))
      have HH8 := Lib.hid (HH6.out.below hb8)
      have HL8 := Lib.hid (HL6.out.below hb8)
      clear hb8 HS6 HH6 HL6 HK46 HK6
      obtain ⟨q0, q1⟩ := HH8.out.cells
      have HS8 := Lib.hid (HRS.out w8 HH8.out.2 HL8.out)
      go_wp2_with fail
      clear q0 q1
      refine HS8.out.mono ?_
      rintro e w9 ⟨rfl, hb9⟩
      have hk4 := (step_of_below hb9).blk HK48.out List.not_mem_nil List.not_mem_nil
      have hk6 := (step_of_below hb9).blk HK68.out List.not_mem_nil List.not_mem_nil
      have r0 := (blk_cell hk4 0).trans rfl
      have r1 := (blk_cell hk4 1).trans rfl
      have s0 := (blk_cell hk6 0).trans rfl
      have s1 := (blk_cell hk6 1).trans rfl
      have HB9 := Lib.hid (HB8.out.trans (hb9.mono HB8.out.size))
      have heq := bits_eql X N
      have hg := guardB
      clear hb9 hk4 hk6 HS8 HK48 HK68
      go_wp2_with fail
      refine (HAW.out _).mono ?_
      rintro e w10 ⟨rfl, hb10⟩
      have HB10 := Lib.hid (HB9.out.trans (hb10.mono HB9.out.size))
      clear hb10
      go_wp2_with fail
      go_ret
      exact ⟨rfl, HB10.out⟩
  · rw [decide_eq_false hl] at HLI
    clear hl R
    go_enter Tryz.func6, Tryz.ntmps6
    go_wp2_with fail
    rw [← hw1]
    clear hw1 q0 q1
    refine HLI.out.mono ?_
    rintro e w2 ⟨rfl, hb2⟩
    have HB2 := Lib.hid (HB1.out.trans (hb2.mono HB1.out.size))
    have HH2 := Lib.hid (HH1.out.below hb2)
    clear hb2 HLI
    go_wp2_with fail
    refine (HAW.out _).mono ?_
    rintro e w7 ⟨rfl, hb7⟩
    have HB7 := Lib.hid (HB2.out.trans (hb7.mono HB2.out.size))
    clear hb7
    go_wp2_with fail
    go_ret
    exact ⟨rfl, HB7.out⟩
end

end Go.Proofs.YtmgmgmbpldboiaaGreat
namespace Go.Proofs.YtmgmgmbpldboiaaGreat
open Go.RowKit

theorem all_slice {w : World} {a : List Nat × Nat × Nat} {e : Ending} {w' : World} (h : AllPost w a e w') : ∃ A c, e = .returned (.tuple #[.slice A a.1.length c, .int .i64 a.2.1, .int .i64 a.2.2]) ∧ a.1.length ≤ c ∧ IntsIn w' A a.1.length a.1 ∧ Below w.heap.size w w' := by
  obtain ⟨v, rfl, ho, hb⟩ := h
  obtain ⟨A, c, rfl, hc, _, _⟩ := own_slice ho
  exact ⟨A, c, rfl, hc, ints_of_own ho, hb⟩
section
variable (R : GroupsDone)
include R
end

end Go.Proofs.YtmgmgmbpldboiaaGreat
