/- The law PrefixAlls, walked over what is asked of the code's functions. Written ahead of stage 9. -/
import Derived.Test.YtgnlpbnodijkgaaOm
import Derived.Deep.RegionHeld3
namespace Go.Proofs.Ytgnlpbnodijkgaa
open Go.RowKit

theorem all_small (l bs : List Nat) (en : Int) (h : Fits l) : ∀ (k a : Nat) (o : List Nat), o.length ≤ a → a ≤ bs.length → (allF l bs en k a o).1.length ≤ bs.length ∧ (allF l bs en k a o).2.1 ≤ bs.length ∧ (allF l bs en k a o).2.2 ≤ 90
  | 0, a, o, h1, h2 => ⟨Nat.le_trans h1 h2, h2, Nat.zero_le _⟩
  | k + 1, a, o, h1, h2 => by
    rw [allF_more]
    cases hx : nextL l (bs.drop a) with
    | hit i =>
      have his := nextF_is 20 1 (show nextF l (bs.drop a) 20 1 = .hit i from hx)
      have h3 := (h.one his.2.1).1
      have h4 := his.1
      rw [List.length_drop] at h4
      have h5 : (o ++ [i]).length ≤ a + l.getD i 0 := by rw [List.length_append]; show o.length + 1 ≤ _; omega
      show (if (i : Int) = en then (o ++ [i], a + l.getD i 0, 0) else allF l bs en k (a + l.getD i 0) (o ++ [i])).1.length ≤ _ ∧ (if (i : Int) = en then (o ++ [i], a + l.getD i 0, 0) else allF l bs en k (a + l.getD i 0) (o ++ [i])).2.1 ≤ _ ∧ (if (i : Int) = en then (o ++ [i], a + l.getD i 0, 0) else allF l bs en k (a + l.getD i 0) (o ++ [i])).2.2 ≤ _
      by_cases e : (i : Int) = en
      · rw [if_pos e]
        exact ⟨by show (o ++ [i]).length ≤ _; omega, by show a + l.getD i 0 ≤ _; omega, Nat.zero_le _⟩
      · rw [if_neg e]
        exact all_small l bs en h k _ _ h5 (by omega)
    | short => exact ⟨Nat.zero_le _, Nat.zero_le _, by show 10 ≤ 90; omega⟩
    | code => exact ⟨Nat.zero_le _, Nat.zero_le _, Nat.le_refl _⟩
theorem allAns_small (L : List Int) (bs : List Nat) (at' k en : Int) : (allAns L bs at' k en).1.length ≤ bs.length ∧ (allAns L bs at' k en).2.1 ≤ bs.length ∧ (allAns L bs at' k en).2.2 ≤ 90 := by
  unfold allAns
  by_cases h : LenOk L
  · rw [if_pos h]
    by_cases h2 : at' < 0 ∨ (bs.length : Int) < at' ∨ k < 0
    · rw [if_pos h2]
      exact ⟨Nat.zero_le _, Nat.zero_le _, by show 2 ≤ 90; omega⟩
    · rw [if_neg h2]
      exact all_small _ _ _ (fits_of h) _ _ _ (Nat.zero_le _) (by omega)
  · rw [if_neg h]
    exact ⟨Nat.zero_le _, Nat.zero_le _, by show 80 ≤ 90; omega⟩
/-- An all post, its slice written out. -/
theorem all_slice {w w' : World} {ans : List Nat × Nat × Nat} {e : Ending} (h : AllPost w ans e w') : ∃ A c, e = .returned (.tuple #[.slice A ans.1.length c, .int .i64 ans.2.1, .int .i64 ans.2.2]) ∧ ans.1.length ≤ c ∧ IntsIn w' A ans.1.length ans.1 ∧ Below w.heap.size w w' := by
  obtain ⟨v, rfl, ho, hb⟩ := h
  obtain ⟨A, c, rfl, hc, _, _⟩ := own_slice ho
  exact ⟨A, c, rfl, hc, ints_of_own ho, hb⟩

section
variable {S N : Nat} (R : PrefixDone S N) (hS : 200 ≤ S)
include R hS

set_option maxHeartbeats 1600000 in
set_option maxRecDepth 100000 in
theorem alls_big (w : World) (A : Option Addr) (n c : Nat) (L : List Int) (s : ByteArray) (a k en : Int) (_ : ZIn w A n L) (hs : s.size ≤ maxLen) (hbig : 200 < s.size) : Calls Try.prog 6 #[.slice A n c, .string s, .agg #[.int .i64 a, .int .i64 k, .int .i64 en]] w fun e w' => e = .returned (.bool true) ∧ Below w.heap.size w w' := by
  have HAW := Lib.hid (awake_any R (by omega))
  unfold maxLen at hs
  have d0 : decide ((200 : Int) < (s.size : Int)) = true := decide_eq_true (by omega)
  go_enter Try.func6, Try.ntmps6
  go_wp2_with fail
  refine (HAW.out _).mono ?_
  rintro e w1 ⟨rfl, hb⟩
  have HB := Lib.hid hb
  clear hb
  go_wp2_with fail
  go_ret
  exact ⟨rfl, ((Below.refl _ w).alloc (Nat.le_refl _) _).trans (HB.out.mono (by simp))⟩

set_option maxHeartbeats 3200000 in
set_option maxRecDepth 100000 in
theorem alls_walk (w : World) (A : Option Addr) (n c : Nat) (L : List Int) (s : ByteArray) (a k en : Int) (hz : ZIn w A n L) (hnc : n ≤ c) (hn : n ≤ maxLen) (hs : s.size ≤ 200) (h1 : -9223372036854775808 ≤ a) (h2 : a ≤ 9223372036854775807) (h3 : -9223372036854775808 ≤ k) (h4 : k ≤ 9223372036854775807) (h5 : -9223372036854775808 ≤ en) (h6 : en ≤ 9223372036854775807) :
    Calls Try.prog 6 #[.slice A n c, .string s, .agg #[.int .i64 a, .int .i64 k, .int .i64 en]] w fun e w' => e = .returned (.bool true) ∧ Below w.heap.size w w' := by
  have HAW := Lib.hid (awake_any R (by omega))
  have d0 : decide ((200 : Int) < (s.size : Int)) = false := decide_eq_false (by omega)
  have hba : Below w.heap.size w (w.alloc (.cells #[.int .i64 a, .int .i64 k, .int .i64 en] 43)) := (Below.refl _ w).alloc (Nat.le_refl _) _
  have hk0 : Blk (w.alloc (.cells #[.int .i64 a, .int .i64 k, .int .i64 en] 43)) w.heap.size 43 #[.int .i64 a, .int .i64 k, .int .i64 en] := blk_new w 43 _
  have hz0 := hz.below hba
  obtain ⟨w0, hw0⟩ : ∃ w0, w0 = w.alloc (.cells #[.int .i64 a, .int .i64 k, .int .i64 en] 43) := ⟨_, rfl⟩
  rw [← hw0] at hba hk0 hz0
  have HA := Lib.hid (R.all w0 A n c L s a k en hz0 hnc hn (by omega) h1 h2 h3 h4 h5 h6)
  have HOF := Lib.hid fun w1 : World => of_any w1 s (by omega)
  have HR := Lib.hid fun (w1 : World) (B : Option Addr) (m d : Nat) (h : ZIn w1 A n L) (hb : IntsIn w1 B m (bitsB s.data.toList)) (hm : m ≤ 1000000) (hmd : m ≤ d) (hd : d ≤ maxLen) => rall_any w1 A B n c m d L (bitsB s.data.toList) a k en h hn hb hmd hm hd (bit01_bitsB _) h1 h2 h3 h4 h5 h6
  have hbl : (bitsB s.data.toList).length = 8 * s.size := bitsB_length _
  have hsm := allAns_small L (bitsB s.data.toList) a k en
  rw [hbl] at hsm
  generalize allAns L (bitsB s.data.toList) a k en = ans at *
  obtain ⟨X, p, q⟩ := ans
  have hx : X.length ≤ 8 * s.size := hsm.1
  have hp : p ≤ 8 * s.size := hsm.2.1
  have hq : q ≤ 90 := hsm.2.2
  generalize bitsB s.data.toList = bits at *
  obtain ⟨m, hm⟩ : ∃ m, m = X.length := ⟨_, rfl⟩
  have HM := Lib.hid hm
  rw [← hm] at hx
  have e2 : ((p : Int) == (p : Int)) = true := beq_self_eq_true _
  have e3 : ((q : Int) == (q : Int)) = true := beq_self_eq_true _
  have HZ0 := Lib.hid hz0
  have HBA := Lib.hid hba
  have HK0 := Lib.hid hk0
  have q00 : w0.cell? ⟨w.heap.size, 0, none⟩ = some (.int .i64 a) := blk_cell hk0 0
  have q01 : w0.cell? ⟨w.heap.size, 1, none⟩ = some (.int .i64 k) := blk_cell hk0 1
  have q02 : w0.cell? ⟨w.heap.size, 2, none⟩ = some (.int .i64 en) := blk_cell hk0 2
  unfold maxLen at hn
  clear hbl hsm hm hz hz0 hba hk0
  go_enter Try.func6, Try.ntmps6
  go_wp2_with (first | (rw [← hw0]; skip) | fail)
  refine HA.out.mono ?_
  intro e w1 h
  obtain ⟨A1, c1, rfl, _, hi1, hb1⟩ := all_slice h
  dsimp only at hi1 ⊢
  rw [← HM.out] at hi1 ⊢
  have hk1 := (step_of_below hb1).blk HK0.out List.not_mem_nil List.not_mem_nil
  have q10 : w1.cell? ⟨w.heap.size, 0, none⟩ = some (.int .i64 a) := blk_cell hk1 0
  have q11 : w1.cell? ⟨w.heap.size, 1, none⟩ = some (.int .i64 k) := blk_cell hk1 1
  have q12 : w1.cell? ⟨w.heap.size, 2, none⟩ = some (.int .i64 en) := blk_cell hk1 2
  have hlt := blk_lt hk1
  have HI1 := Lib.hid hi1
  have HB1 := Lib.hid (HBA.out.trans (hb1.mono HBA.out.size))
  have HZ1 := Lib.hid (HZ0.out.below hb1)
  clear h hi1 hb1 hk1 q00 q01 q02 HA HZ0
  go_upto_region 17 with fail
  go_region_held3 (fun w' => w'.cell? ⟨w.heap.size, 0, none⟩ = some (.int .i64 a) ∧ w'.cell? ⟨w.heap.size, 1, none⟩ = some (.int .i64 k) ∧ w'.cell? ⟨w.heap.size, 2, none⟩ = some (.int .i64 en))
    (first | exact ⟨q10, q11, q12⟩ | exact ⟨q20, q21, q22⟩ | exact ⟨q30, q31, q32⟩ | go_keep)
    (first
      | (go_at_call 18; refine (HOF.out _).mono ?_; rintro e w2 ⟨v, rfl, ho, hb2⟩
         have q20 : w2.cell? ⟨w.heap.size, 0, none⟩ = some (.int .i64 a) := (hb2.cell (p := ⟨w.heap.size, 0, none⟩) hlt).trans q10
         have q21 : w2.cell? ⟨w.heap.size, 1, none⟩ = some (.int .i64 k) := (hb2.cell (p := ⟨w.heap.size, 1, none⟩) hlt).trans q11
         have q22 : w2.cell? ⟨w.heap.size, 2, none⟩ = some (.int .i64 en) := (hb2.cell (p := ⟨w.heap.size, 2, none⟩) hlt).trans q12
         obtain ⟨B, d, rfl, hd1, hd2, _⟩ := own_slice ho)
      | (go_at_call 20; refine (HR.out _ B (8 * s.size) d (ZIn.below (w := w1.drew) HZ1.out hb2) (ints_of_own ho) (by omega) hd1 hd2).mono ?_; intro e w3 h; obtain ⟨A2, c2, rfl, _, hi2, hb3⟩ := all_slice h
         have q30 : w3.cell? ⟨w.heap.size, 0, none⟩ = some (.int .i64 a) := (hb3.cell (p := ⟨w.heap.size, 0, none⟩) (Nat.lt_of_lt_of_le hlt hb2.size)).trans q20
         have q31 : w3.cell? ⟨w.heap.size, 1, none⟩ = some (.int .i64 k) := (hb3.cell (p := ⟨w.heap.size, 1, none⟩) (Nat.lt_of_lt_of_le hlt hb2.size)).trans q21
         have q32 : w3.cell? ⟨w.heap.size, 2, none⟩ = some (.int .i64 en) := (hb3.cell (p := ⟨w.heap.size, 2, none⟩) (Nat.lt_of_lt_of_le hlt hb2.size)).trans q22))
  rw [← HM.out] at hi2 ⊢
  have hb12 : Below w1.heap.size w1 w2 := ((Below.refl _ w1).drew).trans hb2
  have HI3 := ints_low (ints_low HI1.out hb12) hb3
  have HS := Lib.hid (ints_same w3 A1 A2 m c1 c2 X HI3 hi2 (by omega))
  have HB3 := Lib.hid ((HB1.out.trans (hb12.mono HB1.out.size)).trans (hb3.mono (Nat.le_trans HB1.out.size hb12.size)))
  clear hi2 hb3 hb2 hb12 HI3 q20 q21 q22 q30 q31 q32 ho HR HZ1 q10 q11 q12
  go_wp2_with fail
  refine HS.out.mono ?_
  rintro e w4 ⟨rfl, m4, rfl⟩
  have HB4 := Lib.hid (below_drewN HB3.out m4)
  generalize w3.drewN m4 = w4 at *
  go_wp2_with fail
  refine (HAW.out w4).mono ?_
  rintro e w5 ⟨rfl, hb5⟩
  have HB5 := Lib.hid (HB4.out.trans (hb5.mono HB4.out.size))
  clear hb5
  go_wp2_with fail
  go_ret
  exact ⟨rfl, HB5.out⟩
end

end Go.Proofs.Ytgnlpbnodijkgaa
