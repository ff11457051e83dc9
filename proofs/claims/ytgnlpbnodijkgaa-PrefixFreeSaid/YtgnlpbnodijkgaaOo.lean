/- The law PrefixBack, walked over what is asked of the code's functions. Written ahead of stage 9. -/
import Derived.Test.YtgnlpbnodijkgaaOn
namespace Go.Proofs.Ytgnlpbnodijkgaa
open Go.RowKit

theorem size_append (s t : ByteArray) : (s ++ t).size = s.size + t.size := ByteArray.size_append
theorem data_append (s t : ByteArray) : (s ++ t).data.toList = s.data.toList ++ t.data.toList := by
  rw [ByteArray.data_append]
  simp
/-- What is read of what was put, behind a text. -/
theorem back_ans (L list : List Int) (s : ByteArray) (hok : LenOk L) (hv : ∀ x ∈ list, 0 ≤ x ∧ x < (L.length : Int)) (T : ByteArray) (hT : T = ⟨(pack (putB (nl L) list)).toArray⟩) :
    allAns L (bitsB (s ++ T).data.toList) ((8 * s.size : Nat) : Int) (list.length : Int) (-1) = (list.map Int.toNat, 8 * s.size + (putB (nl L) list).length, 0) := by
  have hp := bitsB_pack (putB (nl L) list) (bit01_putB _ _)
  have hT2 : T.data.toList = pack (putB (nl L) list) := by rw [hT]
  have hb : bitsB (s ++ T).data.toList = bitsB s.data.toList ++ putB (nl L) list ++ List.replicate (8 * (((putB (nl L) list).length + 7) / 8) - (putB (nl L) list).length) 0 := by
    rw [data_append, bitsB_append, hT2, hp, List.append_assoc]
  have hl : (bitsB s.data.toList).length = 8 * s.size := bitsB_length _
  have h01 : Bit01 (List.replicate (8 * (((putB (nl L) list).length + 7) / 8) - (putB (nl L) list).length) 0) := by
    intro b hb
    have := (List.mem_replicate.1 hb).2
    omega
  rw [allAns, if_pos hok, if_neg, Int.toNat_natCast, Int.toNat_natCast, hb, ← hl, all_put (fits_of hok) _ h01 list _ _ (by rw [nl_length]; exact hv)]
  · rfl
  · rw [hb, List.length_append, List.length_append, hl]
    omega

theorem put_none {L list : List Int} (h : (putAns L list).2 = 0) : LenOk L ∧ (∀ x ∈ list, 0 ≤ x ∧ x < (L.length : Int)) ∧ (putAns L list).1 = putB (nl L) list := by
  unfold putAns at h ⊢
  by_cases h1 : LenOk L
  · rw [if_pos h1] at h ⊢
    by_cases h2 : ∀ x ∈ list, 0 ≤ x ∧ x < (L.length : Int)
    · rw [if_pos h2]
      exact ⟨h1, h2, rfl⟩
    · rw [if_neg h2] at h
      exact absurd h (by decide)
  · rw [if_neg h1] at h
    exact absurd h (by decide)

section
variable {S N : Nat} (R : PrefixDone S N) (hS : 200 ≤ S)
include R hS

set_option maxHeartbeats 1600000 in
set_option maxRecDepth 100000 in
theorem back_big (w : World) (A B : Option Addr) (n c m d : Nat) (s : ByteArray) (hm : m ≤ maxLen) (hs : s.size ≤ maxLen) (hbig : 2000 < m ∨ 2000 < s.size) : Calls Try.prog 9 #[.slice A n c, .slice B m d, .string s] w fun e w' => e = .returned (.bool true) ∧ Below w.heap.size w w' := by
  have HAW := Lib.hid (awake_any R (by omega))
  unfold maxLen at hm hs
  by_cases h1 : 2000 < m
  · have d0 : decide ((2000 : Int) < (m : Int)) = true := decide_eq_true (by omega)
    clear hbig
    go_enter Try.func9, Try.ntmps9
    go_wp2_with fail
    refine (HAW.out w).mono ?_
    rintro e w1 ⟨rfl, hb⟩
    have HB := Lib.hid hb
    clear hb
    go_wp2_with fail
    go_ret
    exact ⟨rfl, HB.out⟩
  · have d0 : decide ((2000 : Int) < (m : Int)) = false := decide_eq_false (by omega)
    have d1 : decide ((2000 : Int) < (s.size : Int)) = true := decide_eq_true (by omega)
    clear hbig
    go_enter Try.func9, Try.ntmps9
    go_wp2_with fail
    refine (HAW.out w).mono ?_
    rintro e w1 ⟨rfl, hb⟩
    have HB := Lib.hid hb
    clear hb
    go_wp2_with fail
    go_ret
    exact ⟨rfl, HB.out⟩

set_option maxHeartbeats 3200000 in
set_option maxRecDepth 100000 in
theorem back_walk (w : World) (A B : Option Addr) (n c m d : Nat) (L list : List Int) (s : ByteArray) (hz : ZIn w A n L) (hnc : n ≤ c) (hn : n ≤ maxLen) (hl : ZIn w B m list) (hmd : m ≤ d) (hm : m ≤ 2000) (hs : s.size ≤ 2000) : Calls Try.prog 9 #[.slice A n c, .slice B m d, .string s] w fun e w' => e = .returned (.bool true) ∧ Below w.heap.size w w' := by
  have HAW := Lib.hid (awake_any R (by omega))
  have d0 : decide ((2000 : Int) < (m : Int)) = false := decide_eq_false (by omega)
  have d1 : decide ((2000 : Int) < (s.size : Int)) = false := decide_eq_false (by omega)
  have HA := Lib.hid (R.enc w A B n c m d L list hz hnc hn hl hmd hm)
  have hsh := put_short L list (by rw [hl.1]; exact hm)
  have hco := put_code L list
  have hbits := put_bits L list
  have hlm := hl.1
  have hg := guardB
  by_cases hk : (putAns L list).2 = 0
  · obtain ⟨hok, hv, he⟩ := put_none hk
    have hans : putAns L list = (putB (nl L) list, 0) := by
      rw [← hk, ← he]
    have hback := back_ans L list s hok hv ⟨(pack (putB (nl L) list)).toArray⟩ rfl
    rw [hans] at HA hsh
    have hsz : (ByteArray.mk (pack (putB (nl L) list)).toArray).size ≤ 5000 := by
      show (pack (putB (nl L) list)).toArray.size ≤ 5000
      rw [List.size_toArray, pack_length]
      have h2 : (putB (nl L) list).length ≤ 40000 := hsh
      omega
    have hsh2 : (putB (nl L) list).length ≤ 40000 := hsh
    have HA2 : Hid (Calls Try.prog 14 #[.slice A n c, .slice B m d] w fun e w' => e = .returned (.tuple #[.agg #[.string ⟨(pack (putB (nl L) list)).toArray⟩, .int .i64 (putB (nl L) list).length], .int .i64 0]) ∧ Below w.heap.size w w') := HA
    obtain ⟨q, hq⟩ : ∃ q, q = (putB (nl L) list).length := ⟨_, rfl⟩
    rw [← hq] at HA2 hsh2 hback
    generalize hT : (ByteArray.mk (pack (putB (nl L) list)).toArray) = T at *
    have HZ := Lib.hid hz
    have HL := Lib.hid hl
    have HV := Lib.hid hv
    have HLM := Lib.hid hlm
    have hsum : (s ++ T).size = s.size + T.size := size_append s T
    obtain ⟨U, hU⟩ : ∃ U, U = s ++ T := ⟨_, rfl⟩
    rw [← hU] at hback hsum
    have HU := Lib.hid hU
    have hUs : U.size ≤ 10000 := by omega
    obtain ⟨a8, ha8⟩ : ∃ a8, a8 = 8 * s.size := ⟨_, rfl⟩
    have ha8z : (8 : Int) * (s.size : Int) = (a8 : Int) := by omega
    have ha8b : a8 ≤ 16000 := by omega
    rw [← ha8, hlm] at hback
    have HALL := Lib.hid fun (w1 : World) (h : ZIn w1 A n L) => R.all w1 A n c L U (a8 : Int) (m : Int) (-1) h hnc hn hUs (by omega) (by omega) (by omega) (by omega) (by omega) (by omega)
    rw [hback] at HALL
    unfold maxLen at hn
    clear hz hl hv hlm hsh hco hbits hk he hans hback HA hsum hU hT hq ha8 hok
    go_enter Try.func9, Try.ntmps9
    go_wp2_with fail
    refine HA2.out.mono ?_
    rintro e w1 ⟨rfl, hb1⟩
    have HB1 := Lib.hid hb1
    have hz1 := hb1.size
    have hba : Below w1.heap.size w1 (w1.alloc (.cells #[.string T, .int .i64 q] 32)) := (Below.refl _ _).alloc (Nat.le_refl _) _
    have HZ1 := Lib.hid ((HZ.out.below hb1).below hba)
    have HL1 := Lib.hid ((HL.out.below hb1).below hba)
    have HA3 := Lib.hid (HALL.out (w1.alloc (.cells #[.string T, .int .i64 q] 32)) HZ1.out)
    clear hb1 hba HALL HZ HL
    rw [HU.out] at HA3
    go_wp2_with fail
    refine HA3.out.mono ?_
    intro e w2 h
    obtain ⟨A2, c2, rfl, _, hi2, hb2⟩ := all_slice h
    dsimp only at hi2 ⊢
    have hlen : (list.map Int.toNat).length = m := by rw [List.length_map, HLM.out]
    rw [hlen] at hi2 ⊢
    have hk2 := (step_of_below hb2).blk (blk_new w1 32 #[.string T, .int .i64 q]) List.not_mem_nil List.not_mem_nil
    have hzl := ints_of_zin (HL1.out.below hb2) (fun x hx => (HV.out x hx).1)
    have HS := Lib.hid (ints_same w2 A2 B m c2 d (list.map Int.toNat) hi2 hzl (by omega))
    have HB2 := Lib.hid ((HB1.out.alloc hz1 (.cells #[.string T, .int .i64 q] 32)).trans (hb2.mono (by simp; omega)))
    have HK2 := Lib.hid hk2
    obtain ⟨t, ht⟩ : ∃ t, t = a8 + q := ⟨_, rfl⟩
    have htz : (a8 : Int) + (q : Int) = (t : Int) := by omega
    have htb : t ≤ 100000 := by omega
    rw [← ht]
    have e2 : ((t : Int) == (t : Int)) = true := beq_self_eq_true _
    clear h hi2 hb2 hk2 hzl hlen ht
    go_wp2_with fail
    refine HS.out.mono ?_
    rintro e w3 ⟨rfl, m3, rfl⟩
    have hk3 : Blk (w2.drewN m3) w1.heap.size 32 #[.string T, .int .i64 q] := HK2.out
    have HB3 := Lib.hid (below_drewN HB2.out m3)
    generalize w2.drewN m3 = w4 at *
    have q1 : w4.cell? ⟨w1.heap.size, 1, none⟩ = some (.int .i64 q) := blk_cell hk3 1
    clear hk3
    go_wp2_with fail
    refine (HAW.out w4).mono ?_
    rintro e w5 ⟨rfl, hb5⟩
    have HB5 := Lib.hid (HB3.out.trans (hb5.mono HB3.out.size))
    clear hb5
    go_wp2_with fail
    go_ret
    exact ⟨rfl, HB5.out⟩
  · have hnil := put_wrong L list hk
    generalize putAns L list = ans at *
    obtain ⟨bs, k⟩ := ans
    have hnil2 : bs = [] := hnil
    subst hnil2
    have hk2 : k ≠ 0 := hk
    have hco2 : k ≤ 80 := hco
    have HA2 : Hid (Calls Try.prog 14 #[.slice A n c, .slice B m d] w fun e w' => e = .returned (.tuple #[.agg #[.string ⟨#[]⟩, .int .i64 0], .int .i64 k]) ∧ Below w.heap.size w w') := HA
    have d2 : ((k : Int) != 0) = true := by
      rw [bne_iff_ne]
      omega
    have heq := bits_eql ⟨#[]⟩ 0
    unfold maxLen at hn
    clear hz hl hlm hsh hco hbits hk hnil HA hk2
    go_enter Try.func9, Try.ntmps9
    go_wp2_with fail
    refine HA2.out.mono ?_
    rintro e w1 ⟨rfl, hb1⟩
    have hba : Below w1.heap.size w1 (w1.alloc (.cells #[.string ⟨#[]⟩, .int .i64 0] 32)) := (Below.refl _ _).alloc (Nat.le_refl _) _
    have HB1 := Lib.hid (hb1.trans (hba.mono hb1.size))
    clear hb1 hba
    go_wp2_with fail
    refine (HAW.out _).mono ?_
    rintro e w5 ⟨rfl, hb5⟩
    have HB5 := Lib.hid (HB1.out.trans (hb5.mono HB1.out.size))
    clear hb5
    go_wp2_with fail
    go_ret
    exact ⟨rfl, HB5.out⟩
end

end Go.Proofs.Ytgnlpbnodijkgaa
