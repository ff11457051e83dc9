/- What is asked of zrun's functions; the answers that the document fixes. Conditions: as the fields say. -/
import Derived.Test.YtdlndcjiccfhgaaZd
import Derived.Test.YtdlndcjiccfhgaaIn
namespace Go.Proofs.Ytdlndcjiccfhgaa
open Go.RowKit

theorem dec_length (n most : Nat) : ∀ (l : List Int) (out : List Nat) (wo : Nat) (ended : Bool), out.length ≤ most → (decZ n most l out wo ended).1.length ≤ most
  | [], out, wo, ended, h => by
    cases ended
    · exact Nat.zero_le _
    · exact h
  | s :: l, out, wo, ended, h => by
    rw [dec_cons]
    split
    · exact Nat.zero_le _
    · split
      · exact Nat.zero_le _
      · split
        · exact dec_length n most l out wo true h
        · split
          · split
            · exact Nat.zero_le _
            · refine dec_length n most l _ 1 false ?_
              rw [List.length_append]
              show out.length + 1 ≤ most
              omega
          · split
            · exact Nat.zero_le _
            · refine dec_length n most l _ _ false ?_
              rw [List.length_append, List.length_replicate]
              omega
theorem runAns_length (k : Int) : (runAns k).1.length ≤ 31 := by
  unfold runAns
  split
  · exact Nat.zero_le _
  · have h := (dig_bounds k.toNat).1
    show (dig k.toNat).length ≤ 31
    rcases Nat.lt_or_ge (dig k.toNat).length 32 with h1 | h1
    · omega
    · have h2 : 2 ^ 32 ≤ 2 ^ (dig k.toNat).length := Nat.pow_le_pow_right (by decide) h1
      have h3 : (2 : Nat) ^ 32 = 4294967296 := by decide
      omega
theorem encAns_length (n : Int) (L : List Int) : (encAns n L).1.length ≤ L.length + 1 := by
  unfold encAns
  split
  · exact Nat.zero_le _
  · split
    · have := enc_length n.toNat (L.map Int.toNat) 0
      rw [List.length_map] at this
      show (encZ n.toNat 0 (L.map Int.toNat)).length ≤ _
      omega
    · exact Nat.zero_le _
theorem decAns_length (n most : Int) (L : List Int) : (decAns n most L).1.length ≤ 262144 := by
  unfold decAns
  split
  · exact Nat.zero_le _
  · have := dec_length n.toNat most.toNat L [] 1 false (Nat.zero_le _)
    show (decZ n.toNat most.toNat L [] 1 false).1.length ≤ _
    omega

/-- What is asked of the code's functions. -/
structure ZrunDone : Prop where
  run : ∀ (w : World) (k : Int), -9223372036854775808 ≤ k → k ≤ 9223372036854775807 → Calls Try.prog 8 #[.int .i64 k] w (ListPost w (runAns k))
  enc : ∀ (w : World) (A : Option Addr) (m c : Nat) (L : List Int) (n : Int), ZIn w A m L → m ≤ c → m ≤ 1100000 → -9223372036854775808 ≤ n → n ≤ 9223372036854775807 → Calls Try.prog 12 #[.int .i64 n, .slice A m c] w (ListPost w (encAns n L))
  dec : ∀ (w : World) (A : Option Addr) (m c : Nat) (L : List Int) (n most : Int), ZIn w A m L → m ≤ c → m ≤ 10000 → -9223372036854775808 ≤ n → n ≤ 9223372036854775807 → -9223372036854775808 ≤ most → most ≤ 9223372036854775807 → Calls Try.prog 14 #[.int .i64 n, .int .i64 most, .slice A m c] w (ListPost w (decAns n most L))

/-- A list post, its slice written out. -/
theorem list_slice {w w' : World} {ans : List Nat × Nat} {e : Ending} (h : ListPost w ans e w') : ∃ A c, e = .returned (.tuple #[.slice A ans.1.length c, .int .i64 ans.2]) ∧ ans.1.length ≤ c ∧ IntsIn w' A ans.1.length ans.1 ∧ Below w.heap.size w w' := by
  obtain ⟨v, rfl, ho, hb⟩ := h
  obtain ⟨A, c, rfl, hc, _, _⟩ := own_slice ho
  exact ⟨A, c, rfl, hc, ints_of_own ho, hb⟩

theorem lit_ints (w : World) (L : List Nat) : IntsIn (w.alloc (.cells (L.map iv).toArray 3)) (some ⟨w.heap.size, 0, none⟩) L.length L := by
  refine ⟨rfl, fun _ => ⟨w.heap.size, 0, rfl, fun i hi => ?_⟩⟩
  rw [Nat.zero_add, blk_cell (blk_new w 3 _)]
  simp [iv, hi]

theorem run_six : runAns 6 = ([1, 1], 0) := by
  have h : dig 6 = [1, 1] := by
    unfold dig
    rw [digM_more (by omega), digM_more (by omega), digM_one (by omega)]
  unfold runAns
  rw [if_neg (by omega)]
  exact congrArg (fun x => (x, 0)) h
theorem enc_three : encAns 3 [0, 0, 0, 2, 1, 0] = ([0, 0, 3, 2, 0, 4], 0) := by
  have d0 : dig 0 = [] := digM_one (by omega)
  have d1 : dig 1 = [0] := by
    unfold dig
    rw [digM_more (by omega), digM_one (by omega)]
  have d3 : dig 3 = [0, 0] := by
    unfold dig
    rw [digM_more (by omega), digM_more (by omega), digM_one (by omega)]
  unfold encAns
  rw [if_neg (by omega), if_pos (by decide)]
  have : encZ 3 0 [0, 0, 0, 2, 1, 0] = [0, 0, 3, 2, 0, 4] := by
    simp [encZ, d0, d1, d3]
  exact congrArg (fun x => (x, 0)) this
theorem dec_three : decAns 3 1 [1, 4] = ([], 3) := by
  unfold decAns
  rw [if_neg (by omega)]
  simp [decZ]

section
variable (R : ZrunDone)
include R
theorem arun (w : World) : Calls Try.prog 8 #[.int .i64 6] w fun e w' => ∃ A c, e = .returned (.tuple #[.slice A 2 c, .int .i64 0]) ∧ IntsIn w' A 2 [1, 1] ∧ Below w.heap.size w w' := by
  refine (R.run w 6 (by omega) (by omega)).mono ?_
  intro e w' h
  rw [run_six] at h
  obtain ⟨A, c, rfl, _, hi, hb⟩ := list_slice h
  exact ⟨A, c, rfl, hi, hb⟩
theorem aenc (w : World) : Calls Try.prog 12 #[.int .i64 3, .slice (some ⟨w.heap.size, 0, none⟩) 6 6] (w.alloc (.cells #[.int .i64 0, .int .i64 0, .int .i64 0, .int .i64 2, .int .i64 1, .int .i64 0] 3)) fun e w' => ∃ A c, e = .returned (.tuple #[.slice A 6 c, .int .i64 0]) ∧ IntsIn w' A 6 [0, 0, 3, 2, 0, 4] ∧ Below w.heap.size w w' := by
  have hz := zin_of (lit_ints w [0, 0, 0, 2, 1, 0])
  refine (R.enc (w.alloc (.cells #[.int .i64 0, .int .i64 0, .int .i64 0, .int .i64 2, .int .i64 1, .int .i64 0] 3)) (some ⟨w.heap.size, 0, none⟩) 6 6 [0, 0, 0, 2, 1, 0] 3 hz (by omega) (by omega) (by omega) (by omega)).mono ?_
  intro e w' h
  rw [enc_three] at h
  obtain ⟨A, c, rfl, _, hi, hb⟩ := list_slice h
  exact ⟨A, c, rfl, hi, ((Below.refl w.heap.size w).alloc (Nat.le_refl _) _).trans (hb.mono (by simp))⟩
theorem adec (w : World) : Calls Try.prog 14 #[.int .i64 3, .int .i64 1, .slice (some ⟨w.heap.size, 0, none⟩) 2 2] (w.alloc (.cells #[.int .i64 1, .int .i64 4] 3)) fun e w' => ∃ A c, e = .returned (.tuple #[.slice A 0 c, .int .i64 3]) ∧ Below w.heap.size w w' := by
  have hz := zin_of (lit_ints w [1, 4])
  refine (R.dec (w.alloc (.cells #[.int .i64 1, .int .i64 4] 3)) (some ⟨w.heap.size, 0, none⟩) 2 2 [1, 4] 3 1 hz (by omega) (by omega) (by omega) (by omega) (by omega) (by omega)).mono ?_
  intro e w' h
  rw [dec_three] at h
  obtain ⟨A, c, rfl, _, hi, hb⟩ := list_slice h
  exact ⟨A, c, rfl, ((Below.refl w.heap.size w).alloc (Nat.le_refl _) _).trans (hb.mono (by simp))⟩

set_option maxHeartbeats 1600000 in
set_option maxRecDepth 100000 in
theorem awake_any (w : World) : Calls Try.prog 11 #[] w fun e w' => e = .returned (.bool true) ∧ Below w.heap.size w w' := by
  have HE := Lib.hid (aenc R)
  have HD := Lib.hid (adec R)
  go_enter Try.func11, Try.ntmps11
  go_wp2_with fail
  refine (arun R w).mono ?_
  rintro e w1 ⟨A1, c1, rfl, hi1, hb1⟩
  have HI1 := Lib.hid hi1
  have HB1 := Lib.hid hb1
  clear hi1 hb1
  go_wp2_with fail
  refine (HE.out w1).mono ?_
  rintro e w2 ⟨A2, c2, rfl, hi2, hb2⟩
  have HI12 := Lib.hid (ints_low HI1.out hb2)
  have HI2 := Lib.hid hi2
  have HB2 := Lib.hid (HB1.out.trans (hb2.mono HB1.out.size))
  clear hi2 hb2
  go_wp2_with fail
  refine (HD.out w2).mono ?_
  rintro e w3 ⟨A3, c3, rfl, hb3⟩
  have hal : Below w3.heap.size w3 (w3.alloc (.cells #[.int .i64 1, .int .i64 1] 3)) := (Below.refl _ _).alloc (Nat.le_refl _) _
  have hI1 := ints_low (ints_low HI12.out hb3) hal
  have HI2' := Lib.hid (ints_low (ints_low HI2.out hb3) hal)
  have HB3 := Lib.hid ((HB2.out.trans (hb3.mono HB2.out.size)).trans (hal.mono (Nat.le_trans HB2.out.size hb3.size)))
  have HS := Lib.hid (ints_same _ A1 _ 2 c1 2 [1, 1] hI1 (lit_ints w3 [1, 1]) (by omega))
  clear hb3 hal hI1
  go_wp2_with fail
  refine HS.out.mono ?_
  rintro e w4 ⟨rfl, m4, rfl⟩
  have HB4 := Lib.hid (below_drewN HB3.out m4)
  have HI4 := Lib.hid (show IntsIn ((w3.alloc (.cells #[.int .i64 1, .int .i64 1] 3)).drewN m4) A2 6 [0, 0, 3, 2, 0, 4] from HI2'.out)
  generalize (w3.alloc (.cells #[.int .i64 1, .int .i64 1] 3)).drewN m4 = w5 at *
  have hal : Below w5.heap.size w5 (w5.alloc (.cells #[.int .i64 0, .int .i64 0, .int .i64 3, .int .i64 2, .int .i64 0, .int .i64 4] 3)) := (Below.refl _ _).alloc (Nat.le_refl _) _
  have HS2 := Lib.hid (ints_same _ A2 _ 6 c2 6 [0, 0, 3, 2, 0, 4] (ints_low HI4.out hal) (lit_ints w5 [0, 0, 3, 2, 0, 4]) (by omega))
  have HB5 := Lib.hid (HB4.out.trans (hal.mono HB4.out.size))
  clear hal HS
  go_wp2_with fail
  refine HS2.out.mono ?_
  rintro e w6 ⟨rfl, m6, rfl⟩
  have HB6 := Lib.hid (below_drewN HB5.out m6)
  go_wp2_with fail
  go_ret
  exact ⟨rfl, HB6.out⟩
end

end Go.Proofs.Ytdlndcjiccfhgaa
