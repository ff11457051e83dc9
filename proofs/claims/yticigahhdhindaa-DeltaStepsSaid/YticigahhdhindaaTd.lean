/- What is asked of delta's functions; the answers that the document fixes; the laws DeltaShows, DeltaTakes, walked over it. Conditions: as the fields say. Written ahead of stage 10. -/
import Derived.Test.YticigahhdhindaaTc
import Derived.Test.YticigahhdhindaaIn
import Derived.Test.YticigahhdhindaaRo
import Derived.Laws.StructEq
namespace Go.Proofs.Yticigahhdhindaa
open Go.RowKit

theorem guardB : Try.prog.eqGuardType Try.prog.depth 24 = false := by kernel_rfl
theorem heldB : Try.prog.stoodInHeld 24 = false := by kernel_rfl
set_option maxRecDepth 100000 in
theorem fieldsB : Try.prog.underlying 24 = some (.struct (Try.prog.fieldsOf 24)) := by simp [Program.fieldsOf, Try.underlying24]
set_option maxRecDepth 100000 in
/-- Two pieces of one text and one count are equal. -/
theorem bits_eql (T : ByteArray) (n : Int) (w : World) : (binOp .eql 24 (.agg #[.string T, .int .i64 n]) (.agg #[.string T, .int .i64 n])).run Try.prog w = .ok (.bool true) w := by
  rw [run_eql_struct, run_equalIn_agg w 9999 24 _ _ fieldsB heldB]
  simp [Program.fieldsOf, Try.underlying24, Op.eqFields, part, go_sem]

/-- What is asked of the code's functions. -/
structure DeltaDone : Prop where
  shows : ∀ (w : World) (A : Option Addr) (n c : Nat) (L : List Int), ZIn w A n L → n ≤ c → n ≤ maxLen → Calls Try.prog 8 #[.slice A n c] w (BitsPost w (showAns L))
  take : ∀ (w : World) (s : ByteArray) (at' n : Int), s.size ≤ 20000 → -9223372036854775808 ≤ at' → at' ≤ 9223372036854775807 → -9223372036854775808 ≤ n → n ≤ 9223372036854775807 → Calls Try.prog 11 #[.string s, .int .i64 at', .int .i64 n] w (AllPost w (takeAns (bitsB s.data.toList) at' n))

theorem take_small : ∀ (bs : List Nat) (now n p : Nat) (out : List Nat), (takeF bs now n p out).1.length ≤ out.length + n ∧ (takeF bs now n p out).2.1 ≤ p + bs.length ∧ (takeF bs now n p out).2.2 ≤ 80
  | bs, now, 0, p, out => by
    rw [takeF_done]
    exact ⟨Nat.le_refl _, Nat.le_add_right _ _, Nat.zero_le _⟩
  | [], now, n + 1, p, out => by
    by_cases h : now < 1 ∨ 20 < now
    · rw [takeF_bad _ _ _ _ _ h]
      exact ⟨Nat.zero_le _, Nat.zero_le _, Nat.le_refl _⟩
    · rw [takeF_nil _ _ _ _ h]
      exact ⟨Nat.zero_le _, Nat.zero_le _, by show 10 ≤ 80; omega⟩
  | b :: bs, now, n + 1, p, out => by
    by_cases h : now < 1 ∨ 20 < now
    · rw [takeF_bad _ _ _ _ _ h]
      exact ⟨Nat.zero_le _, Nat.zero_le _, Nat.le_refl _⟩
    · by_cases hb : b = 0
      · subst hb
        rw [takeF_zero _ _ _ _ _ h]
        have ih := take_small bs now n (p + 1) (out ++ [now])
        rw [List.length_append] at ih
        refine ⟨Nat.le_trans ih.1 ?_, Nat.le_trans ih.2.1 ?_, ih.2.2⟩
        · show out.length + 1 + n ≤ _
          omega
        · rw [List.length_cons]
          omega
      · match bs with
        | [] =>
          rw [takeF_one _ _ _ _ _ h hb]
          exact ⟨Nat.zero_le _, Nat.zero_le _, by show 10 ≤ 80; omega⟩
        | d :: bs =>
          rw [takeF_step _ _ _ _ _ _ _ h hb]
          have ih := take_small bs (if d = 0 then now + 1 else now - 1) (n + 1) (p + 2) out
          refine ⟨ih.1, Nat.le_trans ih.2.1 ?_, ih.2.2⟩
          rw [List.length_cons, List.length_cons]
          omega
  termination_by bs => bs.length
theorem takeAns_small (bits : List Nat) (at' n : Int) : (takeAns bits at' n).1.length ≤ 258 ∧ (takeAns bits at' n).2.1 ≤ bits.length ∧ (takeAns bits at' n).2.2 ≤ 80 := by
  unfold takeAns
  by_cases h : at' < 0 ∨ (bits.length : Int) < at' ∨ n < 2 ∨ 258 < n
  · rw [if_pos h]
    exact ⟨Nat.zero_le _, Nat.zero_le _, by show 2 ≤ 80; omega⟩
  · rw [if_neg h]
    by_cases h2 : bits.length < at'.toNat + 5
    · rw [if_pos h2]
      exact ⟨Nat.zero_le _, Nat.zero_le _, by show 10 ≤ 80; omega⟩
    · rw [if_neg h2]
      have := take_small (bits.drop (at'.toNat + 5)) (val ((bits.drop at'.toNat).take 5)) n.toNat (at'.toNat + 5) []
      rw [List.length_drop, List.length_nil] at this
      exact ⟨by omega, by omega, this.2.2⟩
theorem rtake_all (w : World) (A : Option Addr) (m c : Nat) (bits : List Nat) (at' n : Int) (hb : IntsIn w A m bits) (hmc : m ≤ c) (hm : m ≤ 1000000) (h01 : Bit01 bits) : Calls Try.prog 12 #[.slice A m c, .int .i64 at', .int .i64 n] w (AllPost w (takeAns bits at' n)) := by
  by_cases h : at' < 0 ∨ (m : Int) < at' ∨ n < 2 ∨ 258 < n
  · have e : takeAns bits at' n = ([], 0, 2) := by rw [takeAns, if_pos (by rw [hb.1]; exact h)]
    rw [e]
    exact rtake_out w A m c at' n hm h
  · obtain ⟨a, rfl⟩ : ∃ a : Nat, at' = a := ⟨at'.toNat, by omega⟩
    obtain ⟨k, rfl⟩ : ∃ k : Nat, n = k := ⟨n.toNat, by omega⟩
    exact rtake_any w A m c bits a k hb hmc hm h01 (by omega) (by omega) (by omega)
/-- An all post, its slice written out. -/
theorem all_slice {w w' : World} {ans : List Nat × Nat × Nat} {e : Ending} (h : AllPost w ans e w') : ∃ A c, e = .returned (.tuple #[.slice A ans.1.length c, .int .i64 ans.2.1, .int .i64 ans.2.2]) ∧ ans.1.length ≤ c ∧ IntsIn w' A ans.1.length ans.1 ∧ Below w.heap.size w w' := by
  obtain ⟨v, rfl, ho, hb⟩ := h
  obtain ⟨A, c, rfl, hc, _, _⟩ := own_slice ho
  exact ⟨A, c, rfl, hc, ints_of_own ho, hb⟩
set_option maxRecDepth 100000 in
theorem lit_zin (w : World) (L : List Int) : ZIn (w.alloc (.cells (L.map fun (x : Int) => Value.int .i64 x).toArray 3)) (some ⟨w.heap.size, 0, none⟩) L.length L := by
  refine ⟨rfl, fun _ => ⟨w.heap.size, 0, rfl, fun i hi => ?_⟩⟩
  rw [Nat.zero_add, blk_cell (blk_new w 3 _)]
  simp [hi]
set_option maxRecDepth 100000 in
theorem lit_nums (w : World) (L : List Nat) : IntsIn (w.alloc (.cells (L.map iv).toArray 3)) (some ⟨w.heap.size, 0, none⟩) L.length L := by
  refine ⟨rfl, fun _ => ⟨w.heap.size, 0, rfl, fun i hi => ?_⟩⟩
  rw [Nat.zero_add, blk_cell (blk_new w 3 _)]
  simp [iv, hi]
theorem show_four : (showAns [3, 4, 4, 2]).2 = 0 ∧ (showAns [3, 4, 4, 2]).1.length = 15 ∧ pack (showAns [3, 4, 4, 2]).1 = [26, 60] := by decide +kernel
theorem take_four : takeAns (bitsB [26, 60]) 0 4 = ([3, 4, 4, 2], 15, 0) := by decide +kernel

section
variable (R : DeltaDone)
include R

set_option maxRecDepth 100000 in
theorem ashow (w : World) : Calls Try.prog 8 #[.slice (some ⟨w.heap.size, 0, none⟩) 4 4] (w.alloc (.cells #[.int .i64 3, .int .i64 4, .int .i64 4, .int .i64 2] 3)) fun e w' => e = .returned (.tuple #[.agg #[.string ⟨#[26, 60]⟩, .int .i64 15], .int .i64 0]) ∧ Below w.heap.size w w' := by
  have hz := lit_zin w [3, 4, 4, 2]
  have hb0 : Below w.heap.size w (w.alloc (.cells #[.int .i64 3, .int .i64 4, .int .i64 4, .int .i64 2] 3)) := (Below.refl _ w).alloc (Nat.le_refl _) _
  refine (R.shows (w.alloc (.cells #[.int .i64 3, .int .i64 4, .int .i64 4, .int .i64 2] 3)) (some ⟨w.heap.size, 0, none⟩) 4 4 [3, 4, 4, 2] hz (Nat.le_refl _) (by unfold maxLen; omega)).mono ?_
  rintro e w' ⟨rfl, hb⟩
  rw [show_four.1, show_four.2.1, show_four.2.2]
  exact ⟨rfl, hb0.trans (hb.mono (by simp))⟩
theorem atake (w : World) : Calls Try.prog 11 #[.string ⟨#[26, 60]⟩, .int .i64 0, .int .i64 4] w fun e w' => ∃ A c, e = .returned (.tuple #[.slice A 4 c, .int .i64 15, .int .i64 0]) ∧ IntsIn w' A 4 [3, 4, 4, 2] ∧ Below w.heap.size w w' := by
  refine (R.take w ⟨#[26, 60]⟩ 0 4 (by decide) (by omega) (by omega) (by omega) (by omega)).mono ?_
  intro e w' h
  have he : takeAns (bitsB (⟨#[26, 60]⟩ : ByteArray).data.toList) 0 4 = ([3, 4, 4, 2], 15, 0) := take_four
  rw [he] at h
  obtain ⟨A, c, rfl, _, hi, hb⟩ := all_slice h
  exact ⟨A, c, rfl, hi, hb⟩

set_option maxHeartbeats 1600000 in
set_option maxRecDepth 100000 in
theorem awake_any (w : World) : Calls Try.prog 10 #[] w fun e w' => e = .returned (.bool true) ∧ Below w.heap.size w w' := by
  have heq := bits_eql ⟨#[26, 60]⟩ 15
  have hg := guardB
  have HT := Lib.hid (atake R)
  go_enter Try.func10, Try.ntmps10
  go_wp2_with fail
  refine (ashow R w).mono ?_
  rintro e w1 ⟨rfl, hb1⟩
  have hk0 := blk_new w1 24 #[.string ⟨#[26, 60]⟩, .int .i64 15]
  have hz1 := hb1.size
  have hba : Below w1.heap.size w1 (w1.alloc (.cells #[.string ⟨#[26, 60]⟩, .int .i64 15] 24)) := (Below.refl _ _).alloc (Nat.le_refl _) _
  have HBA := Lib.hid (hb1.trans (hba.mono hz1))
  have HK0 := Lib.hid hk0
  have HT1 := Lib.hid (HT.out (w1.alloc (.cells #[.string ⟨#[26, 60]⟩, .int .i64 15] 24)))
  clear hk0 hba hb1
  go_wp2_with fail
  refine HT1.out.mono ?_
  rintro e w2 ⟨A, c, rfl, hi, hb2⟩
  have hk2 := (step_of_below hb2).blk HK0.out List.not_mem_nil List.not_mem_nil
  have HB2 := Lib.hid (HBA.out.trans (hb2.mono HBA.out.size))
  have hz2 := HB2.out.size
  have q0 : w2.cell? ⟨w1.heap.size, 0, none⟩ = some (.string ⟨#[26, 60]⟩) := blk_cell hk2 0
  have q1 : w2.cell? ⟨w1.heap.size, 1, none⟩ = some (.int .i64 15) := blk_cell hk2 1
  have hal : Below w2.heap.size w2 (w2.alloc (.cells #[.int .i64 3, .int .i64 4, .int .i64 4, .int .i64 2] 3)) := (Below.refl _ _).alloc (Nat.le_refl _) _
  have HS := Lib.hid (ints_same _ _ _ 4 c 4 _ (ints_low hi hal) (lit_nums w2 [3, 4, 4, 2]) (by omega))
  have HB5 := Lib.hid (HB2.out.trans (hal.mono hz2))
  clear hal hi hb2 hk2
  go_wp2_with fail
  refine HS.out.mono ?_
  rintro e w5 ⟨rfl, m5, rfl⟩
  have HB6 := Lib.hid (below_drewN HB5.out m5)
  go_wp2_with fail
  go_ret
  exact ⟨rfl, HB6.out⟩

set_option maxHeartbeats 1600000 in
set_option maxRecDepth 100000 in
theorem shows_walk (w : World) (A : Option Addr) (n c : Nat) (L : List Int) (hz : ZIn w A n L) (hnc : n ≤ c) (hn : n ≤ maxLen) : Calls Try.prog 3 #[.slice A n c] w fun e w' => e = .returned (.bool true) ∧ Below w.heap.size w w' := by
  have HAW := Lib.hid (awake_any R)
  have HA := Lib.hid (R.shows w A n c L hz hnc hn)
  have HR := Lib.hid fun (w1 : World) (h : ZIn w1 A n L) => rshow_any w1 A n c L h hn
  have HZ := Lib.hid hz
  have hsh := show_short L
  have hco := show_code L
  generalize showAns L = ans at *
  obtain ⟨bs, k⟩ := ans
  have hsh2 : bs.length ≤ 11000 := hsh
  have hco2 : k ≤ 80 := hco
  have HA2 : Hid (Calls Try.prog 8 #[.slice A n c] w fun e w' => e = .returned (.tuple #[.agg #[.string ⟨(pack bs).toArray⟩, .int .i64 bs.length], .int .i64 k]) ∧ Below w.heap.size w w') := HA
  have HR2 : Hid (∀ (w1 : World), ZIn w1 A n L → Calls Try.prog 9 #[.slice A n c] w1 fun e w' => e = .returned (.tuple #[.agg #[.string ⟨(pack bs).toArray⟩, .int .i64 bs.length], .int .i64 k]) ∧ Below w1.heap.size w1 w') := HR
  obtain ⟨q, hq⟩ : ∃ q, q = bs.length := ⟨_, rfl⟩
  rw [← hq] at HA2 HR2 hsh2
  generalize hT : (ByteArray.mk (pack bs).toArray) = T at *
  have heq := bits_eql T q
  have hg := guardB
  have d2 : ((k : Int) == (k : Int)) = true := beq_self_eq_true _
  unfold maxLen at hn
  clear hz hsh hco hq HA HR hT
  go_enter Try.func3, Try.ntmps3
  go_wp2_with fail
  refine HA2.out.mono ?_
  rintro e w1 ⟨rfl, hb1⟩
  have HB1 := Lib.hid hb1
  have hz1 := hb1.size
  have hba : Below w1.heap.size w1 (w1.alloc (.cells #[.string T, .int .i64 q] 24)) := (Below.refl _ _).alloc (Nat.le_refl _) _
  have HR3 := Lib.hid (HR2.out (w1.alloc (.cells #[.string T, .int .i64 q] 24)) ((HZ.out.below hb1).below hba))
  clear hb1 hba HR2 HZ
  go_wp2_with fail
  refine HR3.out.mono ?_
  rintro e w2 ⟨rfl, hb2⟩
  have hk : Blk w2 w1.heap.size 24 #[.string T, .int .i64 q] := (step_of_below hb2).blk (blk_new w1 24 _) List.not_mem_nil List.not_mem_nil
  have hbl : Below w.heap.size w w2 := (HB1.out.alloc hz1 _).trans (hb2.mono (by simp; omega))
  have hlt : w1.heap.size < w2.heap.size := blk_lt hk
  have q0 : w2.cell? ⟨w1.heap.size, 0, none⟩ = some (.string T) := blk_cell hk 0
  have q1 : w2.cell? ⟨w1.heap.size, 1, none⟩ = some (.int .i64 q) := blk_cell hk 1
  have HB2 := Lib.hid hbl
  clear hk hbl hb2
  go_wp2_with fail
  refine (HAW.out _).mono ?_
  rintro e w3 ⟨rfl, hb3⟩
  have HB3 := Lib.hid ((HB2.out.alloc HB2.out.size (.cells #[.string T, .int .i64 q] 24)).trans (hb3.mono (by have := HB2.out.size; simp; omega)))
  clear hb3
  go_wp2_with fail
  go_ret
  exact ⟨rfl, HB3.out⟩

set_option maxHeartbeats 1600000 in
set_option maxRecDepth 100000 in
theorem takes_big (w : World) (s : ByteArray) (at' n : Int) (hs : s.size ≤ maxLen) (hbig : 1000 < s.size) : Calls Try.prog 4 #[.string s, .int .i64 at', .int .i64 n] w fun e w' => e = .returned (.bool true) ∧ Below w.heap.size w w' := by
  have HAW := Lib.hid (awake_any R)
  unfold maxLen at hs
  have d0 : decide ((1000 : Int) < (s.size : Int)) = true := decide_eq_true (by omega)
  go_enter Try.func4, Try.ntmps4
  go_wp2_with fail
  refine (HAW.out w).mono ?_
  rintro e w1 ⟨rfl, hb⟩
  have HB := Lib.hid hb
  clear hb
  go_wp2_with fail
  go_ret
  exact ⟨rfl, HB.out⟩

set_option maxHeartbeats 1600000 in
set_option maxRecDepth 100000 in
theorem takes_walk (w : World) (s : ByteArray) (at' n : Int) (hs : s.size ≤ 1000) (h1 : -9223372036854775808 ≤ at') (h2 : at' ≤ 9223372036854775807) (h3 : -9223372036854775808 ≤ n) (h4 : n ≤ 9223372036854775807) : Calls Try.prog 4 #[.string s, .int .i64 at', .int .i64 n] w fun e w' => e = .returned (.bool true) ∧ Below w.heap.size w w' := by
  have HAW := Lib.hid (awake_any R)
  have d0 : decide ((1000 : Int) < (s.size : Int)) = false := decide_eq_false (by omega)
  have HA := Lib.hid (R.take w s at' n (by omega) h1 h2 h3 h4)
  have HOF := Lib.hid fun w1 : World => of_any w1 s (by omega)
  have HR := Lib.hid fun (w1 : World) (B : Option Addr) (m d : Nat) (hb : IntsIn w1 B m (bitsB s.data.toList)) (hm : m ≤ 1000000) (hmd : m ≤ d) => rtake_all w1 B m d (bitsB s.data.toList) at' n hb hmd hm (bit01_bitsB _)
  have hbl : (bitsB s.data.toList).length = 8 * s.size := bitsB_length _
  have hsm := takeAns_small (bitsB s.data.toList) at' n
  rw [hbl] at hsm
  generalize takeAns (bitsB s.data.toList) at' n = ans at *
  obtain ⟨X, p, q⟩ := ans
  have hx : X.length ≤ 258 := hsm.1
  have hp : p ≤ 8 * s.size := hsm.2.1
  have hq : q ≤ 80 := hsm.2.2
  generalize bitsB s.data.toList = bits at *
  obtain ⟨m, hm⟩ : ∃ m, m = X.length := ⟨_, rfl⟩
  have HM := Lib.hid hm
  rw [← hm] at hx
  have e2 : ((p : Int) == (p : Int)) = true := beq_self_eq_true _
  have e3 : ((q : Int) == (q : Int)) = true := beq_self_eq_true _
  clear hbl hsm hm
  go_enter Try.func4, Try.ntmps4
  go_wp2_with fail
  refine HA.out.mono ?_
  intro e w1 h
  obtain ⟨A1, c1, rfl, _, hi1, hb1⟩ := all_slice h
  dsimp only at hi1 ⊢
  rw [← HM.out] at hi1 ⊢
  have HI1 := Lib.hid hi1
  have HB1 := Lib.hid hb1
  clear h hi1 hb1
  go_wp2_with fail
  refine (HOF.out w1).mono ?_
  rintro e w2 ⟨v, rfl, ho, hb2⟩
  obtain ⟨B, d, rfl, hd1, hd2, _⟩ := own_slice ho
  have HR2 := Lib.hid (HR.out w2 B (8 * s.size) d (ints_of_own ho) (by omega) hd1)
  have HI2 := Lib.hid (ints_low HI1.out hb2)
  have HB2 := Lib.hid (HB1.out.trans (hb2.mono HB1.out.size))
  clear ho hb2 HR
  go_wp2_with fail
  refine HR2.out.mono ?_
  intro e w3 h
  obtain ⟨A2, c2, rfl, _, hi2, hb3⟩ := all_slice h
  dsimp only at hi2 ⊢
  rw [← HM.out] at hi2 ⊢
  have HS := Lib.hid (ints_same w3 A1 A2 m c1 c2 X (ints_low HI2.out hb3) hi2 (by omega))
  have HB3 := Lib.hid (HB2.out.trans (hb3.mono HB2.out.size))
  clear h hi2 hb3
  go_wp2_with fail
  refine HS.out.mono ?_
  rintro e w4 ⟨rfl, m4, rfl⟩
  have HB4 := Lib.hid (below_drewN HB3.out m4)
  generalize w3.drewN m4 = w4 at *
  go_wp2_with fail
  refine (HAW.out w4).mono ?_
  rintro e w5 ⟨rfl, hb5⟩
  have HB5 := Lib.hid (HB4.out.trans (hb5.mono HB4.out.size))
  clear hb5
  go_wp2_with fail
  go_ret
  exact ⟨rfl, HB5.out⟩
end

end Go.Proofs.Yticigahhdhindaa
