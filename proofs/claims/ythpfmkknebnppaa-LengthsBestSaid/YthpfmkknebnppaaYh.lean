/- Slices of whole numbers: appended, held against each other; what is asked of the code's functions. Conditions: as the fields say. -/
import Derived.Test.YthpfmkknebnppaaYg
import Derived.Test.YthpfmkknebnppaaIn
namespace Go.Proofs.Ythpfmkknebnppaa
open Go.RowKit

def zv (x : Int) : Value := .int .i64 x
theorem zs_of_own {w : World} {B n cap : Nat} {A : Option Addr} {L : List Int} (h : w.ownsRow B 3 1 (.slice A n cap) n (L.map zv)) : ZIn w A n L := by
  have hl : L.length = n := by have := h.1; rw [List.length_map, Nat.mul_one] at this; exact this
  refine ⟨hl, fun hn => ?_⟩
  obtain ⟨A2, c2, he, _, _, hA⟩ := own_slice h
  simp only [Value.slice.injEq] at he
  obtain ⟨rfl, _, rfl⟩ := he
  obtain ⟨g, rfl⟩ := hA hn
  refine ⟨g, 0, rfl, fun i hi => ?_⟩
  rw [Nat.zero_add, World.ownsRow.cellAt h i (by omega), List.getElem?_map, List.getD_eq_getElem?_getD, List.getElem?_eq_getElem (by omega)]
  rfl
/-- A copy of whole numbers that is made behind nothing. -/
theorem append_zs (w : World) (B : Nat) (v : Value) (xs : List Value) (k0 : Nat) (hown : w.ownsRow B 3 1 v k0 xs) (A : Option Addr) (k c : Nat) (L : List Int) (hi : ZIn w A k L) (hnk : k0 + k ≤ 1000000000) (hB : B ≤ w.heap.size) :
    ∃ v' w', (Builtin.append_ #[22, 22] 22 #[v, .slice A k c]).run Try.prog w = .ok v' w' ∧ w'.ownsRow B 3 1 v' (k0 + k) (xs ++ L.map zv) ∧ w.grownBy w' v.ownBlock := by
  obtain ⟨i3, h3, hz0, hz1, hz2⟩ := info_parts Try.info3
  have hl := hi.1
  rcases A with _ | ad
  · have hk : k = 0 := by
      rcases Nat.eq_zero_or_pos k with h0 | h0
      · exact h0
      · obtain ⟨b, off, h, _⟩ := hi.2 h0
        cases h
    subst hk
    have hL : L = [] := List.eq_nil_of_length_eq_zero hl
    subst hL
    obtain ⟨v', w', h1, h2, h4⟩ := append_ints w B v k0 xs hown none 0 c [] ⟨rfl, fun h => absurd h (Nat.lt_irrefl 0)⟩ hnk hB
    exact ⟨v', w', h1, h2, h4⟩
  · have hnews : ∀ j u, (L.map zv)[j]? = some u → w.cell? (ad.add j) = some u := by
      intro j u hu
      have hjk : j < k := by
        have := (List.getElem?_eq_some_iff.1 hu).1
        rw [List.length_map] at this
        omega
      obtain ⟨b, off, he, hc⟩ := hi.2 (by omega)
      injection he with he
      subst he
      rw [Addr.add_lit, hc j hjk, ← hu, List.getElem?_map, List.getD_eq_getElem?_getD, List.getElem?_eq_getElem (by omega)]
      rfl
    obtain ⟨v', w', h1, h2, h4, _⟩ := run_append_own (P := Try.prog) w B 22 22 3 i3 (.int .i64 0) 1 8 Try.underlying22 h3 hz0 hz1 hz2 rfl (by decide) v k0 xs hown ad k c (L.map zv) (by rw [List.length_map, hl, Nat.mul_one]) hnews
      (fun u hu => by obtain ⟨q, _, rfl⟩ := List.mem_map.1 hu; rfl) (by unfold maxLen; omega) (by omega) hB
    exact ⟨v', w', h1, h2, h4⟩

set_option maxHeartbeats 1600000 in
set_option maxRecDepth 100000 in
theorem zs_same (w : World) (A B : Option Addr) (n c d : Nat) (L : List Int) (h : ZIn w A n L) (k : ZIn w B n L) (hn : n ≤ 2000000) :
    Calls Try.prog 12 #[.slice A n c, .slice B n d] w fun e w' => e = .returned (.bool true) ∧ ∃ m, w' = w.drewN m := by
  have d0 : ((n : Int) != (n : Int)) = false := by simp
  have H := Lib.hid h
  have K := Lib.hid k
  clear h k
  go_enter Try.func12, Try.ntmps12
  go_wp2_with fail
  go_loopw [5] (fun x wr => ∃ q : Nat, q ≤ n ∧ x = .int .i64 q ∧ ∃ m, wr = w.drewN m) (fun x _ => n - (intOf x).toNat)
  case atStart => exact ⟨0, Nat.zero_le _, rfl, 0, rfl⟩
  case round =>
    obtain ⟨q, hq, rfl, hd⟩ := hrel
    have HD := Lib.hid hd
    by_cases e : q < n
    · obtain ⟨b1, o1, rfl, hc1⟩ := H.out.2 (by omega)
      obtain ⟨b2, o2, rfl, hc2⟩ := K.out.2 (by omega)
      have c1 : wr.cell? ⟨b1, o1 + q, none⟩ = some (.int .i64 (L.getD q 0)) := by obtain ⟨m, rfl⟩ := hd; exact hc1 q e
      have c2 : wr.cell? ⟨b2, o2 + q, none⟩ = some (.int .i64 (L.getD q 0)) := by obtain ⟨m, rfl⟩ := hd; exact hc2 q e
      obtain ⟨v, hv⟩ : ∃ v, v = L.getD q 0 := ⟨_, rfl⟩
      rw [← hv] at c1 c2
      clear hv hd hc1 hc2
      have d1 : decide ((q : Int) < (n : Int)) = true := decide_eq_true (by omega)
      have d2 : (v != v) = false := by simp
      go_wp2_with fail
      go_quiet (fail)
      go_wp2_with fail
      go_roundw
      case rel =>
        obtain ⟨m, hm⟩ := HD.out
        exact ⟨q + 1, by omega, by go_num, m + nq, by rw [hm]; simp⟩
      case measure => simp [intOf]; omega
    · have d1 : decide ((q : Int) < (n : Int)) = false := decide_eq_false (by omega)
      clear hd
      go_wp2_with fail
      go_ret
      exact ⟨rfl, HD.out⟩

theorem lit_zs (w : World) (L : List Int) : ZIn (w.alloc (.cells (L.map zv).toArray 3)) (some ⟨w.heap.size, 0, none⟩) L.length L := by
  refine ⟨rfl, fun _ => ⟨w.heap.size, 0, rfl, fun i hi => ?_⟩⟩
  rw [Nat.zero_add, blk_cell (blk_new w 3 _)]
  simp [zv, hi]

theorem lit_ints (w : World) (L : List Nat) : IntsIn (w.alloc (.cells (L.map iv).toArray 3)) (some ⟨w.heap.size, 0, none⟩) L.length L := by
  refine ⟨rfl, fun _ => ⟨w.heap.size, 0, rfl, fun i hi => ?_⟩⟩
  rw [Nat.zero_add, blk_cell (blk_new w 3 _)]
  simp [iv, hi]

/-- What is asked of the code's functions; Make and Flat for at most N weights. -/
structure LenDone (N : Nat) : Prop where
  make : ∀ (w : World) (A : Option Addr) (n c : Nat) (L : List Int) (most : Int), ZIn w A n L → n ≤ c → n ≤ N → n ≤ maxLen → -9223372036854775808 ≤ most → most ≤ 9223372036854775807 → Calls Try.prog 10 #[.slice A n c, .int .i64 most] w (MakePost w L most)
  flat : ∀ (w : World) (A : Option Addr) (n c : Nat) (L : List Int), ZIn w A n L → n ≤ c → n ≤ N → n ≤ maxLen → Calls Try.prog 14 #[.slice A n c] w (FlatPost w L)
  check : ∀ (w : World) (A : Option Addr) (n c : Nat) (L : List Int), ZIn w A n L → n ≤ c → n ≤ maxLen → Calls Try.prog 16 #[.slice A n c] w fun e w' => e = .returned (.int .i64 (if LenOk L then 0 else 80)) ∧ Below w.heap.size w w'
  full : ∀ (w : World) (A : Option Addr) (n c : Nat) (L : List Int), ZIn w A n L → n ≤ c → n ≤ maxLen → Calls Try.prog 18 #[.slice A n c] w fun e w' => e = .returned (.bool (decide (LenOk L ∧ kraftL L = 1048576))) ∧ Below w.heap.size w w'
  cost : ∀ (w : World) (A B : Option Addr) (n c m d : Nat) (W L : List Int), ZIn w A n W → n ≤ c → n ≤ maxLen → ZIn w B m L → m ≤ d → m ≤ maxLen → Calls Try.prog 20 #[.slice A n c, .slice B m d] w fun e w' => e = .returned (.tuple #[.int .i64 (costAns W L).1, .int .i64 (costAns W L).2]) ∧ Below w.heap.size w w'

/-- The lengths of 5, 1, 1, 1. -/
theorem hlen_four : HLen [5, 1, 1, 1] (more [3, 1, 2, 0] (more [3, 1, 2] (more [1, 2] fun _ => 0))) := by
  have t0 : leaves [5, 1, 1, 1] = [⟨5, 0, [0]⟩, ⟨1, 1, [1]⟩, ⟨1, 2, [2]⟩, ⟨1, 3, [3]⟩] := rfl
  unfold HLen
  rw [t0]
  refine .step (a := ⟨1, 1, [1]⟩) (b := ⟨1, 2, [2]⟩) (r := [⟨5, 0, [0]⟩, ⟨1, 3, [3]⟩]) ?_ ?_ ?_ ?_
  · exact (List.Perm.swap _ _ _).trans ((List.Perm.swap _ _ _).cons _)
  · intro t ht
    simp at ht
    unfold Ahead
    rcases ht with rfl | rfl | rfl <;> decide
  · intro t ht
    simp at ht
    unfold Ahead
    rcases ht with rfl | rfl <;> decide
  · refine .step (a := ⟨1, 3, [3]⟩) (b := ⟨2, 4, [1, 2]⟩) (r := [⟨5, 0, [0]⟩]) ?_ ?_ ?_ ?_
    · show List.Perm [(⟨2, 4, [1, 2]⟩ : Tr), ⟨5, 0, [0]⟩, ⟨1, 3, [3]⟩] [⟨1, 3, [3]⟩, ⟨2, 4, [1, 2]⟩, ⟨5, 0, [0]⟩]
      exact ((List.Perm.swap _ _ _).cons _).trans (List.Perm.swap _ _ _)
    · intro t ht
      simp at ht
      unfold Ahead
      rcases ht with rfl | rfl <;> decide
    · intro t ht
      simp at ht
      unfold Ahead
      rcases ht with rfl
      decide
    · refine .step (a := ⟨3, 5, [3, 1, 2]⟩) (b := ⟨5, 0, [0]⟩) (r := []) (List.Perm.refl _) ?_ ?_ ?_
      · intro t ht
        simp at ht
        unfold Ahead
        rcases ht with rfl
        decide
      · intro t ht
        simp at ht
      · exact .one _ _ _

end Go.Proofs.Ythpfmkknebnppaa
