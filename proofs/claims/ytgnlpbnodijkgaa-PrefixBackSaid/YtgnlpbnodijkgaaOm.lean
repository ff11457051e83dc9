/- The laws PrefixCodes, PrefixEncodes, PrefixDecodes, walked over what is asked of the code's functions. Written ahead of stage 9. -/
import Derived.Test.YtgnlpbnodijkgaaOl
namespace Go.Proofs.Ytgnlpbnodijkgaa
open Go.RowKit

theorem codes_short (L : List Int) : (codesAns L).1.length ≤ 258 ∧ (codesAns L).2 ≤ 80 := by
  unfold codesAns
  split
  · rename_i h
    refine ⟨?_, Nat.zero_le _⟩
    show ((List.range L.length).map (codeN (nl L))).length ≤ 258
    rw [List.length_map, List.length_range]
    exact h.2.1
  · exact ⟨Nat.zero_le _, Nat.le_refl _⟩
/-- A list post, its slice written out. -/
theorem list_slice {w w' : World} {ans : List Nat × Nat} {e : Ending} (h : ListPost w ans e w') : ∃ A c, e = .returned (.tuple #[.slice A ans.1.length c, .int .i64 ans.2]) ∧ ans.1.length ≤ c ∧ IntsIn w' A ans.1.length ans.1 ∧ Below w.heap.size w w' := by
  obtain ⟨v, rfl, ho, hb⟩ := h
  obtain ⟨A, c, rfl, hc, _, _⟩ := own_slice ho
  exact ⟨A, c, rfl, hc, ints_of_own ho, hb⟩

theorem dec_small (L : List Int) (bs : List Nat) (at' : Int) : (decAns L bs at').1 ≤ 258 ∧ (decAns L bs at').2.1 ≤ bs.length + 20 ∧ (decAns L bs at').2.2 ≤ 90 := by
  refine ⟨?_, ?_, dec_code L bs at'⟩
  · unfold decAns
    split
    · rename_i h
      split
      · exact Nat.zero_le _
      · split
        · rename_i i hi
          have := (nextF_is 20 1 hi).2.1
          rw [nl_length] at this
          have := h.2.1
          show i ≤ 258
          omega
        · exact Nat.zero_le _
        · exact Nat.zero_le _
    · exact Nat.zero_le _
  · unfold decAns
    split
    · rename_i h
      split
      · exact Nat.zero_le _
      · rename_i h2
        split
        · rename_i i hi
          have h3 := nextF_is 20 1 hi
          have h4 := ((fits_of h).one h3.2.1).2
          show at'.toNat + (nl L).getD i 0 ≤ bs.length + 20
          omega
        · exact Nat.zero_le _
        · exact Nat.zero_le _
    · exact Nat.zero_le _

section
variable {S N : Nat} (R : PrefixDone S N) (hS : 200 ≤ S)
include R hS

set_option maxHeartbeats 1600000 in
set_option maxRecDepth 100000 in
theorem codes_walk (w : World) (A : Option Addr) (n c : Nat) (L : List Int) (hz : ZIn w A n L) (hnc : n ≤ c) (hn : n ≤ maxLen) : Calls Try.prog 3 #[.slice A n c] w fun e w' => e = .returned (.bool true) ∧ Below w.heap.size w w' := by
  have HAW := Lib.hid (awake_any R (by omega))
  have HA := Lib.hid (R.codes w A n c L hz hnc hn)
  have HR := Lib.hid fun (w1 : World) (h : ZIn w1 A n L) => rcodes_any w1 A n c L h hn
  have HZ := Lib.hid hz
  have hl := codes_short L
  generalize codesAns L = ans at *
  obtain ⟨La, k⟩ := ans
  have hL : La.length ≤ 258 := hl.1
  obtain ⟨m, hm⟩ : ∃ m, m = La.length := ⟨_, rfl⟩
  have HN := Lib.hid hm
  clear hl hm hz
  go_enter Try.func3, Try.ntmps3
  go_wp2_with fail
  refine HA.out.mono ?_
  intro e w1 h
  obtain ⟨A1, c1, rfl, _, hi1, hb1⟩ := list_slice h
  dsimp only at hi1 ⊢
  rw [← HN.out] at hi1 hL ⊢
  have HI1 := Lib.hid hi1
  have HB1 := Lib.hid hb1
  have HR1 := Lib.hid (HR.out w1 (HZ.out.below hb1))
  clear h hi1 hb1 HR HZ
  go_wp2_with fail
  refine HR1.out.mono ?_
  intro e w2 h
  obtain ⟨A2, c2, rfl, _, hi2, hb2⟩ := list_slice h
  dsimp only at hi2 ⊢
  rw [← HN.out] at hi2 ⊢
  have HS := Lib.hid (ints_same w2 A1 A2 m c1 c2 La (ints_low HI1.out hb2) hi2 (by omega))
  have HB2 := Lib.hid (HB1.out.trans (hb2.mono HB1.out.size))
  clear h hi2 hb2
  have dc : ((k : Int) == (k : Int)) = true := beq_self_eq_true _
  go_wp2_with fail
  refine HS.out.mono ?_
  rintro e w3 ⟨rfl, m3, rfl⟩
  have HB3 := Lib.hid (below_drewN HB2.out m3)
  generalize w2.drewN m3 = w4 at *
  go_wp2_with fail
  refine (HAW.out w4).mono ?_
  rintro e w5 ⟨rfl, hb5⟩
  have HB5 := Lib.hid (HB3.out.trans (hb5.mono HB3.out.size))
  clear hb5
  go_wp2_with fail
  go_ret
  exact ⟨rfl, HB5.out⟩

set_option maxHeartbeats 1600000 in
set_option maxRecDepth 100000 in
theorem encodes_walk (w : World) (A B : Option Addr) (n c m d : Nat) (L list : List Int) (hz : ZIn w A n L) (hnc : n ≤ c) (hn : n ≤ maxLen) (hl : ZIn w B m list) (hmd : m ≤ d) (hm : m ≤ maxLen) : Calls Try.prog 4 #[.slice A n c, .slice B m d] w fun e w' => e = .returned (.bool true) ∧ Below w.heap.size w w' := by
  have HAW := Lib.hid (awake_any R (by omega))
  by_cases hbig : 1000 < m
  · unfold maxLen at hm hn
    have d0 : decide ((1000 : Int) < (m : Int)) = true := decide_eq_true (by omega)
    clear hz hl
    go_enter Try.func4, Try.ntmps4
    go_wp2_with fail
    refine (HAW.out w).mono ?_
    rintro e w1 ⟨rfl, hb⟩
    have HB := Lib.hid hb
    clear hb
    go_wp2_with fail
    go_ret
    exact ⟨rfl, HB.out⟩
  · have d0 : decide ((1000 : Int) < (m : Int)) = false := decide_eq_false (by omega)
    have HA := Lib.hid (R.enc w A B n c m d L list hz hnc hn hl hmd (by omega))
    have HR := Lib.hid fun (w1 : World) (h : ZIn w1 A n L) (h2 : ZIn w1 B m list) => renc_any w1 A B n c m d L list h hn h2 hmd (by omega)
    have HZ := Lib.hid hz
    have HL := Lib.hid hl
    have hsh := put_short L list (by rw [hl.1]; omega)
    have hco := put_code L list
    generalize putAns L list = ans at *
    obtain ⟨bs, k⟩ := ans
    have hsh2 : bs.length ≤ 40000 := hsh
    have hco2 : k ≤ 80 := hco
    have HA2 : Hid (Calls Try.prog 14 #[.slice A n c, .slice B m d] w fun e w' => e = .returned (.tuple #[.agg #[.string ⟨(pack bs).toArray⟩, .int .i64 bs.length], .int .i64 k]) ∧ Below w.heap.size w w') := HA
    have HR2 : Hid (∀ (w1 : World), ZIn w1 A n L → ZIn w1 B m list → Calls Try.prog 15 #[.slice A n c, .slice B m d] w1 fun e w' => e = .returned (.tuple #[.agg #[.string ⟨(pack bs).toArray⟩, .int .i64 bs.length], .int .i64 k]) ∧ Below w1.heap.size w1 w') := HR
    obtain ⟨q, hq⟩ : ∃ q, q = bs.length := ⟨_, rfl⟩
    rw [← hq] at HA2 HR2 hsh2
    generalize hT : (ByteArray.mk (pack bs).toArray) = T at *
    have heq := bits_eql T q
    have hg := guardB
    have d2 : ((k : Int) == (k : Int)) = true := beq_self_eq_true _
    unfold maxLen at hn hm
    clear hz hl hsh hco hq HA HR hT
    go_enter Try.func4, Try.ntmps4
    go_wp2_with fail
    refine HA2.out.mono ?_
    rintro e w1 ⟨rfl, hb1⟩
    have HB1 := Lib.hid hb1
    have hz1 := hb1.size
    have hba : Below w1.heap.size w1 (w1.alloc (.cells #[.string T, .int .i64 q] 32)) := (Below.refl _ _).alloc (Nat.le_refl _) _
    have HR3 := Lib.hid (HR2.out (w1.alloc (.cells #[.string T, .int .i64 q] 32)) ((HZ.out.below hb1).below hba) ((HL.out.below hb1).below hba))
    clear hb1 hba HR2 HZ HL
    go_wp2_with fail
    refine HR3.out.mono ?_
    rintro e w2 ⟨rfl, hb2⟩
    have hk : Blk w2 w1.heap.size 32 #[.string T, .int .i64 q] := (step_of_below hb2).blk (blk_new w1 32 _) List.not_mem_nil List.not_mem_nil
    have hbl : Below w.heap.size w w2 := (HB1.out.alloc hz1 _).trans (hb2.mono (by simp; omega))
    have hlt : w1.heap.size < w2.heap.size := blk_lt hk
    have q0 : w2.cell? ⟨w1.heap.size, 0, none⟩ = some (.string T) := blk_cell hk 0
    have q1 : w2.cell? ⟨w1.heap.size, 1, none⟩ = some (.int .i64 q) := blk_cell hk 1
    have HB2 := Lib.hid hbl
    clear hk hbl hb2
    go_wp2_with fail
    refine (HAW.out _).mono ?_
    rintro e w3 ⟨rfl, hb3⟩
    have HB3 := Lib.hid ((HB2.out.alloc HB2.out.size (.cells #[.string T, .int .i64 q] 32)).trans (hb3.mono (by have := HB2.out.size; simp; omega)))
    clear hb3
    go_wp2_with fail
    go_ret
    exact ⟨rfl, HB3.out⟩

set_option maxHeartbeats 1600000 in
set_option maxRecDepth 100000 in
theorem decodes_walk (w : World) (A : Option Addr) (n c : Nat) (L : List Int) (s : ByteArray) (at' : Int) (hz : ZIn w A n L) (hnc : n ≤ c) (hn : n ≤ maxLen) (hs : s.size ≤ maxLen) (h1 : -9223372036854775808 ≤ at') (h2 : at' ≤ 9223372036854775807) : Calls Try.prog 5 #[.slice A n c, .string s, .int .i64 at'] w fun e w' => e = .returned (.bool true) ∧ Below w.heap.size w w' := by
  have HAW := Lib.hid (awake_any R (by omega))
  by_cases hbig : 200 < s.size
  · unfold maxLen at hs hn
    have d0 : decide ((200 : Int) < (s.size : Int)) = true := decide_eq_true (by omega)
    clear hz
    go_enter Try.func5, Try.ntmps5
    go_wp2_with fail
    refine (HAW.out w).mono ?_
    rintro e w1 ⟨rfl, hb⟩
    have HB := Lib.hid hb
    clear hb
    go_wp2_with fail
    go_ret
    exact ⟨rfl, HB.out⟩
  · have d0 : decide ((200 : Int) < (s.size : Int)) = false := decide_eq_false (by omega)
    have HA := Lib.hid (R.dec w A n c L s at' hz hnc hn (by omega) h1 h2)
    have HOF := Lib.hid fun w1 : World => of_any w1 s (by omega)
    have HR := Lib.hid fun (w1 : World) (B : Option Addr) (m d : Nat) (h : ZIn w1 A n L) (hb : IntsIn w1 B m (bitsB s.data.toList)) (hm : m ≤ 1000000) (hmd : m ≤ d) (hd : d ≤ maxLen) => rdec_any w1 A B n c m d L (bitsB s.data.toList) at' h hn hb hmd hm hd (bit01_bitsB _) h1 h2
    have HZ := Lib.hid hz
    have hbl : (bitsB s.data.toList).length = 8 * s.size := bitsB_length _
    have hsm := dec_small L (bitsB s.data.toList) at'
    rw [hbl] at hsm
    generalize decAns L (bitsB s.data.toList) at' = ans at *
    obtain ⟨x, p, k⟩ := ans
    have hx : x ≤ 258 := hsm.1
    have hp : p ≤ 8 * s.size + 20 := hsm.2.1
    have hk : k ≤ 90 := hsm.2.2
    generalize bitsB s.data.toList = bits at *
    have e1 : ((x : Int) == (x : Int)) = true := beq_self_eq_true _
    have e2 : ((p : Int) == (p : Int)) = true := beq_self_eq_true _
    have e3 : ((k : Int) == (k : Int)) = true := beq_self_eq_true _
    have HA2 : Hid (Calls Try.prog 16 #[.slice A n c, .string s, .int .i64 at'] w fun e w' => e = .returned (.tuple #[.int .i64 (x : Nat), .int .i64 (p : Nat), .int .i64 (k : Nat)]) ∧ Below w.heap.size w w') := HA
    unfold maxLen at hn hs
    clear hz hbl hsm HA
    go_enter Try.func5, Try.ntmps5
    go_wp2_with fail
    refine HA2.out.mono ?_
    rintro e w1 ⟨rfl, hb1⟩
    have HB1 := Lib.hid hb1
    have HZ1 := Lib.hid (HZ.out.below hb1)
    clear hb1 HZ
    go_wp2_with fail
    refine (HOF.out w1).mono ?_
    rintro e w2 ⟨v, rfl, ho, hb2⟩
    obtain ⟨B, d, rfl, hd1, hd2, _⟩ := own_slice ho
    have HR2 : Hid (Calls Try.prog 17 #[.slice A n c, .slice B (8 * s.size) d, .int .i64 at'] w2 fun e w' => e = .returned (.tuple #[.int .i64 (x : Nat), .int .i64 (p : Nat), .int .i64 (k : Nat)]) ∧ Below w2.heap.size w2 w') := Lib.hid (HR.out w2 B (8 * s.size) d (HZ1.out.below hb2) (ints_of_own ho) (by omega) hd1 hd2)
    have HB2 := Lib.hid (HB1.out.trans (hb2.mono HB1.out.size))
    clear ho hb2 HR
    go_wp2_with fail
    refine HR2.out.mono ?_
    rintro e w3 ⟨rfl, hb3⟩
    have HB3 := Lib.hid (HB2.out.trans (hb3.mono HB2.out.size))
    clear hb3
    go_wp2_with fail
    refine (HAW.out w3).mono ?_
    rintro e w5 ⟨rfl, hb5⟩
    have HB5 := Lib.hid (HB3.out.trans (hb5.mono HB3.out.size))
    clear hb5
    go_wp2_with fail
    go_ret
    exact ⟨rfl, HB5.out⟩
end

end Go.Proofs.Ytgnlpbnodijkgaa
