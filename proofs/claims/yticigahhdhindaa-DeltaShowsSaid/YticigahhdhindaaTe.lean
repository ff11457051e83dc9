/- The laws DeltaBack, DeltaSizes, walked over what is asked of the code's functions. Conditions: DeltaBack's texts of at most 2^20 bytes each. Written ahead of stage 10. -/
import Derived.Test.YticigahhdhindaaTd
namespace Go.Proofs.Yticigahhdhindaa
open Go.RowKit

theorem ints_from_zin {w : World} {A : Option Addr} {m : Nat} {L : List Int} (h : ZIn w A m L) (hv : ∀ x ∈ L, 0 ≤ x) : IntsIn w A m (nl L) := by
  refine ⟨by rw [nl_length]; exact h.1, fun hm => ?_⟩
  obtain ⟨b, off, rfl, hc⟩ := h.2 hm
  refine ⟨b, off, rfl, fun i hi => ?_⟩
  have hiL : i < L.length := by rw [h.1]; exact hi
  have := hv _ (int_mem hiL)
  rw [hc i hi, nl_get, Int.toNat_of_nonneg this]
set_option maxRecDepth 100000 in
theorem data_three (s t u : ByteArray) : (s ++ t ++ u).data.toList = s.data.toList ++ (t.data.toList ++ u.data.toList) := by
  rw [ByteArray.data_append, ByteArray.data_append]
  simp
set_option maxRecDepth 100000 in
/-- What is read of what was told, behind a text and ahead of another. -/
theorem back_ans (L : List Int) (s u : ByteArray) (hok : DOk L) (T : ByteArray) (hT : T = ⟨(pack (showD (nl L))).toArray⟩) :
    takeAns (bitsB (s ++ T ++ u).data.toList) ((8 * s.size : Nat) : Int) (L.length : Int) = (nl L, 8 * s.size + (showD (nl L)).length, 0) := by
  have hp := bitsB_pack (showD (nl L)) (bit_showD _)
  have hT2 : T.data.toList = pack (showD (nl L)) := by rw [hT]
  obtain ⟨Z, hZ⟩ : ∃ Z, Z = List.replicate (8 * (((showD (nl L)).length + 7) / 8) - (showD (nl L)).length) 0 := ⟨_, rfl⟩
  rw [← hZ] at hp
  have hb : bitsB (s ++ T ++ u).data.toList = bitsB s.data.toList ++ (bitsN ((nl L).getD 0 0) 5 ++ ([] ++ (stepsB ((nl L).getD 0 0) (nl L) ++ (Z ++ bitsB u.data.toList)))) := by
    rw [data_three, bitsB_append, bitsB_append, hT2, hp, showD]
    simp
  have hl : (bitsB s.data.toList).length = 8 * s.size := bitsB_length _
  have h := take_show (l := nl L) (by rw [nl_length]; exact hok.1) (by rw [nl_length]; exact hok.2.1) (nl_in hok) (bitsB s.data.toList) [] (Z ++ bitsB u.data.toList) (fun bs n p => rfl)
  rw [nl_length, hl] at h
  rw [hb, h]
  rfl
theorem show_none {L : List Int} (h : (showAns L).2 = 0) : DOk L ∧ (showAns L).1 = showD (nl L) := by
  unfold showAns at h ⊢
  by_cases h1 : DOk L
  · rw [if_pos h1]
    exact ⟨h1, rfl⟩
  · rw [if_neg h1] at h
    exact absurd h (by decide)
theorem sizeD_next {l : List Nat} {i : Nat} (hi : i < l.length) : sizeD (l.getD 0 0) (l.take (i + 1)) = sizeD (l.getD 0 0) (l.take i) + ((l.getD i 0 - aheadD l i) + (aheadD l i - l.getD i 0)) := by
  have h := congrArg List.length (stepsB_next hi)
  rw [List.length_append, stepsB_length, stepsB_length, stepB_length, List.length_take, List.length_take] at h
  omega

section
variable (R : DeltaDone)
include R

set_option maxHeartbeats 1600000 in
set_option maxRecDepth 100000 in
theorem back_big (w : World) (A : Option Addr) (n c : Nat) (s u : ByteArray) (_hn : n ≤ maxLen) (hs : s.size ≤ 140737488355328) (hu : u.size ≤ 140737488355328) (hbig : 5000 < s.size + u.size) : Calls Try.prog 5 #[.slice A n c, .string s, .string u] w fun e w' => e = .returned (.bool true) ∧ Below w.heap.size w w' := by
  have HAW := Lib.hid (awake_any R)
  unfold maxLen at _hn
  have d0 : decide ((5000 : Int) < (s.size : Int) + (u.size : Int)) = true := decide_eq_true (by omega)
  go_enter Try.func5, Try.ntmps5
  go_wp2_with fail
  refine (HAW.out w).mono ?_
  rintro e w1 ⟨rfl, hb⟩
  have HB := Lib.hid hb
  clear hb
  go_wp2_with fail
  go_ret
  exact ⟨rfl, HB.out⟩

set_option maxHeartbeats 3200000 in
set_option maxRecDepth 100000 in
theorem back_walk (w : World) (A : Option Addr) (n c : Nat) (L : List Int) (s u : ByteArray) (hz : ZIn w A n L) (hnc : n ≤ c) (hn : n ≤ maxLen) (hsu : s.size + u.size ≤ 5000) : Calls Try.prog 5 #[.slice A n c, .string s, .string u] w fun e w' => e = .returned (.bool true) ∧ Below w.heap.size w w' := by
  have HAW := Lib.hid (awake_any R)
  have d0 : decide ((5000 : Int) < (s.size : Int) + (u.size : Int)) = false := decide_eq_false (by omega)
  have HA := Lib.hid (R.shows w A n c L hz hnc hn)
  have hsh := show_short L
  have hco := show_code L
  have hlm := hz.1
  have hg := guardB
  by_cases hk : (showAns L).2 = 0
  · obtain ⟨hok, he⟩ := show_none hk
    have hans : showAns L = (showD (nl L), 0) := by rw [← hk, ← he]
    have hback := back_ans L s u hok ⟨(pack (showD (nl L))).toArray⟩ rfl
    rw [hans] at HA hsh
    have hsh2 : (showD (nl L)).length ≤ 11000 := hsh
    have hsz : (ByteArray.mk (pack (showD (nl L))).toArray).size ≤ 2000 := by
      show (pack (showD (nl L))).toArray.size ≤ 2000
      rw [List.size_toArray, pack_length]
      omega
    have HA2 : Hid (Calls Try.prog 8 #[.slice A n c] w fun e w' => e = .returned (.tuple #[.agg #[.string ⟨(pack (showD (nl L))).toArray⟩, .int .i64 (showD (nl L)).length], .int .i64 0]) ∧ Below w.heap.size w w') := HA
    obtain ⟨q, hq⟩ : ∃ q, q = (showD (nl L)).length := ⟨_, rfl⟩
    rw [← hq] at HA2 hsh2 hback
    generalize hT : (ByteArray.mk (pack (showD (nl L))).toArray) = T at *
    have HZ := Lib.hid hz
    have HOK := Lib.hid hok
    have HLM := Lib.hid hlm
    have hsum : (s ++ T ++ u).size = s.size + T.size + u.size := by rw [ByteArray.size_append, ByteArray.size_append]
    obtain ⟨U, hU⟩ : ∃ U, U = s ++ T ++ u := ⟨_, rfl⟩
    rw [← hU] at hback hsum
    have HU := Lib.hid hU
    obtain ⟨a8, ha8⟩ : ∃ a8, a8 = 8 * s.size := ⟨_, rfl⟩
    have ha8z : (8 : Int) * (s.size : Int) = (a8 : Int) := by omega
    have ha8b : a8 ≤ 40000 := by omega
    have hn258 : n ≤ 258 := by have := hok.2.1; omega
    rw [← ha8, hlm] at hback
    have HTK := Lib.hid fun w1 : World => R.take w1 U (a8 : Int) (n : Int) (by omega) (by omega) (by omega) (by omega) (by omega)
    rw [hback, HU.out] at HTK
    unfold maxLen at hn
    clear hz hlm hsh hco hk he hans hback HA hsum hU hT hq ha8 hok
    go_enter Try.func5, Try.ntmps5
    go_wp2_with fail
    refine HA2.out.mono ?_
    rintro e w1 ⟨rfl, hb1⟩
    have HB1 := Lib.hid hb1
    have hz1 := hb1.size
    have hba : Below w1.heap.size w1 (w1.alloc (.cells #[.string T, .int .i64 q] 24)) := (Below.refl _ _).alloc (Nat.le_refl _) _
    have HZ1 := Lib.hid ((HZ.out.below hb1).below hba)
    have HT3 := Lib.hid (HTK.out (w1.alloc (.cells #[.string T, .int .i64 q] 24)))
    clear hb1 hba HTK HZ
    go_wp2_with fail
    refine HT3.out.mono ?_
    intro e w2 h
    obtain ⟨A2, c2, rfl, _, hi2, hb2⟩ := all_slice h
    dsimp only at hi2 ⊢
    have hlen : (nl L).length = n := by rw [nl_length, HLM.out]
    rw [hlen] at hi2 ⊢
    have hk2 := (step_of_below hb2).blk (blk_new w1 24 #[.string T, .int .i64 q]) List.not_mem_nil List.not_mem_nil
    have hzl := ints_from_zin (HZ1.out.below hb2) (fun x hx => by have := HOK.out.2.2 x hx; omega)
    have HS := Lib.hid (ints_same w2 A2 A n c2 c (nl L) hi2 hzl (by omega))
    have HB2 := Lib.hid ((HB1.out.alloc hz1 (.cells #[.string T, .int .i64 q] 24)).trans (hb2.mono (by simp; omega)))
    have HK2 := Lib.hid hk2
    obtain ⟨t, ht⟩ : ∃ t, t = a8 + q := ⟨_, rfl⟩
    have htz : (a8 : Int) + (q : Int) = (t : Int) := by omega
    have htb : t ≤ 100000 := by omega
    rw [← ht]
    have e2 : ((t : Int) == (t : Int)) = true := beq_self_eq_true _
    clear h hi2 hb2 hk2 hzl hlen ht
    go_wp2_with fail
    refine HS.out.mono ?_
    rintro e w3 ⟨rfl, m3, rfl⟩
    have hk3 : Blk (w2.drewN m3) w1.heap.size 24 #[.string T, .int .i64 q] := HK2.out
    have HB3 := Lib.hid (below_drewN HB2.out m3)
    generalize w2.drewN m3 = w4 at *
    have q1 : w4.cell? ⟨w1.heap.size, 1, none⟩ = some (.int .i64 q) := blk_cell hk3 1
    clear hk3
    go_wp2_with fail
    refine (HAW.out w4).mono ?_
    rintro e w5 ⟨rfl, hb5⟩
    have HB5 := Lib.hid (HB3.out.trans (hb5.mono HB3.out.size))
    clear hb5
    go_wp2_with fail
    go_ret
    exact ⟨rfl, HB5.out⟩
  · have hnil := show_wrong L hk
    generalize showAns L = ans at *
    obtain ⟨bs, k⟩ := ans
    have hnil2 : bs = [] := hnil
    subst hnil2
    have hk2 : k ≠ 0 := hk
    have hco2 : k ≤ 80 := hco
    have HA2 : Hid (Calls Try.prog 8 #[.slice A n c] w fun e w' => e = .returned (.tuple #[.agg #[.string ⟨#[]⟩, .int .i64 0], .int .i64 k]) ∧ Below w.heap.size w w') := HA
    have d2 : ((k : Int) != 0) = true := by
      rw [bne_iff_ne]
      omega
    have heq := bits_eql ⟨#[]⟩ 0
    unfold maxLen at hn
    clear hz hlm hsh hco hk hnil HA hk2
    go_enter Try.func5, Try.ntmps5
    go_wp2_with fail
    refine HA2.out.mono ?_
    rintro e w1 ⟨rfl, hb1⟩
    have hba : Below w1.heap.size w1 (w1.alloc (.cells #[.string ⟨#[]⟩, .int .i64 0] 24)) := (Below.refl _ _).alloc (Nat.le_refl _) _
    have HB1 := Lib.hid (hb1.trans (hba.mono hb1.size))
    clear hb1 hba
    go_wp2_with fail
    refine (HAW.out _).mono ?_
    rintro e w5 ⟨rfl, hb5⟩
    have HB5 := Lib.hid (HB1.out.trans (hb5.mono HB1.out.size))
    clear hb5
    go_wp2_with fail
    go_ret
    exact ⟨rfl, HB5.out⟩

set_option maxHeartbeats 3200000 in
set_option maxRecDepth 100000 in
theorem sizes_walk (w : World) (A : Option Addr) (n c : Nat) (L : List Int) (hz : ZIn w A n L) (hnc : n ≤ c) (hn : n ≤ maxLen) : Calls Try.prog 6 #[.slice A n c] w fun e w' => e = .returned (.bool true) ∧ Below w.heap.size w w' := by
  have HAW := Lib.hid (awake_any R)
  have HA := Lib.hid (R.shows w A n c L hz hnc hn)
  have hsh := show_short L
  have hco := show_code L
  have hlm := hz.1
  by_cases hk : (showAns L).2 = 0
  · obtain ⟨hok, he⟩ := show_none hk
    have hans : showAns L = (showD (nl L), 0) := by rw [← hk, ← he]
    rw [hans] at HA hsh
    have hsh2 : (showD (nl L)).length ≤ 11000 := hsh
    have HA2 : Hid (Calls Try.prog 8 #[.slice A n c] w fun e w' => e = .returned (.tuple #[.agg #[.string ⟨(pack (showD (nl L))).toArray⟩, .int .i64 (showD (nl L)).length], .int .i64 0]) ∧ Below w.heap.size w w') := HA
    have hlen := showD_length (nl L)
    have hin := nl_in hok
    have hn258 : n ≤ 258 := by have := hok.2.1; omega
    have hn2 : 2 ≤ n := by have := hok.1; omega
    obtain ⟨b, off, rfl, hcells⟩ := hz.2 (by omega)
    have hget : ∀ i, i < n → w.cell? ⟨b, off + i, none⟩ = some (.int .i64 ((nl L).getD i 0 : Nat)) := by
      intro i hi
      have := (hok.2.2 _ (int_mem (L := L) (j := i) (by omega))).1
      rw [hcells i hi, nl_get, Int.toNat_of_nonneg (by omega)]
    obtain ⟨q, hq⟩ : ∃ q, q = (showD (nl L)).length := ⟨_, rfl⟩
    rw [← hq] at HA2 hsh2 hlen
    generalize hT : (ByteArray.mk (pack (showD (nl L))).toArray) = T at *
    obtain ⟨l, hl⟩ : ∃ l, l = nl L := ⟨_, rfl⟩
    have hll : l.length = n := by rw [hl, nl_length, hlm]
    rw [← hl] at hlen hin hget
    have HLEN := Lib.hid hlen
    have HIN := Lib.hid hin
    have HGET := Lib.hid hget
    have HLL := Lib.hid hll
    clear hz hlm hsh hco hk he hans HA hT hq hok hlen hin hget hcells hll hl
    unfold maxLen at hn
    go_enter Try.func6, Try.ntmps6
    go_wp2_with fail
    refine HA2.out.mono ?_
    rintro e w1 ⟨rfl, hb1⟩
    have hba : Below w1.heap.size w1 (w1.alloc (.cells #[.string T, .int .i64 q] 24)) := (Below.refl _ _).alloc (Nat.le_refl _) _
    have hb2 := hb1.trans (hba.mono hb1.size)
    have HB2 := Lib.hid hb2
    have HK := Lib.hid (blk_new w1 24 #[.string T, .int .i64 q])
    have HG2 := Lib.hid fun (i : Nat) (hi : i < n) => (hb2.cell (p := ⟨b, off + i, none⟩) (World.block_lt_of_cell? w _ (HGET.out i hi))).trans (HGET.out i hi)
    clear hb1 hba hb2 HGET
    go_wp2_with fail
    obtain ⟨w2, hw2⟩ : ∃ w2, w2 = w1.alloc (.cells #[.string T, .int .i64 q] 24) := ⟨_, rfl⟩
    rw [← hw2] at HB2 HK HG2 ⊢
    clear hw2
    go_loopw [5, 6] (fun nv iv' wx => ∃ i t : Nat, 1 ≤ i ∧ i ≤ n ∧ iv' = .int .i64 i ∧ nv = .int .i64 t ∧ t ≤ 263 + 40 * i ∧ Hid (t = 5 + n + 2 * sizeD (l.getD 0 0) (l.take i)) ∧ ∃ d, wx = w2.drewN d) (fun _ iv' _ => n - (intOf iv').toNat)
    case atStart =>
      refine ⟨1, 5 + n, Nat.le_refl _, by omega, rfl, by simp, by omega, Lib.hid ?_, 0, rfl⟩
      have h := sizeD_next (l := l) (i := 0) (by rw [HLL.out]; omega)
      have h0 : sizeD (l.getD 0 0) (l.take 0) = 0 := rfl
      have ha : aheadD l 0 = l.getD 0 0 := rfl
      rw [h0, ha] at h
      have h1 : sizeD (l.getD 0 0) (l.take 1) = 0 := by rw [h]; omega
      rw [h1]
      rfl
    case round =>
      obtain ⟨i, t, hi1, hi, rfl, rfl, ht, hsz, hd⟩ := hrel
      have HD := Lib.hid hd
      by_cases e : i < n
      · have d0 : decide ((i : Int) < (n : Int)) = true := decide_eq_true (by omega)
        have q1 : wr.cell? ⟨b, off + i, none⟩ = some (.int .i64 (l.getD i 0 : Nat)) := by
          obtain ⟨d, rfl⟩ := hd
          exact HG2.out i e
        have q2 : wr.cell? ⟨b, off + (i - 1), none⟩ = some (.int .i64 (l.getD (i - 1) 0 : Nat)) := by
          obtain ⟨d, rfl⟩ := hd
          exact HG2.out (i - 1) (by omega)
        have hx20 := HIN.out _ (nat_mem (L := l) (j := i) (by rw [HLL.out]; exact e))
        have ha20 := HIN.out _ (nat_mem (L := l) (j := i - 1) (by rw [HLL.out]; omega))
        have hnext := sizeD_next (l := l) (i := i) (by rw [HLL.out]; exact e)
        obtain ⟨x, hx⟩ : ∃ x, x = l.getD i 0 := ⟨_, rfl⟩
        obtain ⟨a, ha⟩ : ∃ a, a = l.getD (i - 1) 0 := ⟨_, rfl⟩
        rw [show aheadD l i = a from ha.symm, ← hx] at hnext
        rw [← hx] at q1 hx20
        rw [← ha] at q2 ha20
        obtain ⟨i1, hi1e⟩ : ∃ i1, i1 = i - 1 := ⟨_, rfl⟩
        rw [← hi1e] at q2
        have hi1z : (i : Int) - 1 = (i1 : Int) := by omega
        have hi1n : i1 < n := by omega
        obtain ⟨u, hu⟩ : ∃ u : Int, u = (x : Int) - (a : Int) := ⟨_, rfl⟩
        obtain ⟨v, hv⟩ : ∃ v : Int, v = (a : Int) - (x : Int) := ⟨_, rfl⟩
        have hu2 : (x : Int) - (a : Int) = u := hu.symm
        have hv2 : (a : Int) - (x : Int) = v := hv.symm
        obtain ⟨dd, hdd⟩ : ∃ dd, dd = (x - a) + (a - x) := ⟨_, rfl⟩
        have hddb : dd ≤ 20 := by omega
        have hmax : (if u < v then v else u) = (dd : Int) := by
          by_cases h : u < v
          · rw [if_pos h]; omega
          · rw [if_neg h]; omega
        have hub : -20 ≤ u ∧ u ≤ 20 := by omega
        have hvb : -20 ≤ v ∧ v ≤ 20 := by omega
        obtain ⟨t2, ht2⟩ : ∃ t2, t2 = t + 2 * dd := ⟨_, rfl⟩
        have ht2z : (t : Int) + 2 * (dd : Int) = (t2 : Int) := by omega
        have ht2b : t2 ≤ 263 + 40 * (i + 1) := by omega
        have hfin : t2 = 5 + n + 2 * sizeD (l.getD 0 0) (l.take (i + 1)) := by rw [hnext, ← hdd, ht2, hsz.out]; omega
        have HFIN := Lib.hid hfin
        clear hnext hx ha hi1e hu hv hdd ht2 hfin hd hx20 ha20 hsz
        go_wp2_with fail
        go_region
        go_wp2_with fail
        go_roundw
        case rel =>
          obtain ⟨d, hd⟩ := HD.out
          exact ⟨i + 1, t2, by omega, by omega, by go_num, rfl, ht2b, HFIN, d + 1, by rw [hd]; rfl⟩
        case measure => simp [intOf]; omega
      · obtain rfl : i = n := by omega
        have d0 : decide ((i : Int) < (i : Int)) = false := decide_eq_false (by omega)
        have hqt : t = q := by
          rw [hsz.out, HLEN.out, HLL.out, List.take_of_length_le (Nat.le_of_eq HLL.out)]
        subst hqt
        have hk3 : Blk wr w1.heap.size 24 #[.string T, .int .i64 t] := by
          obtain ⟨d, rfl⟩ := hd
          exact HK.out
        have HB3 : Hid (Below w.heap.size w wr) := Lib.hid (by
          obtain ⟨d, rfl⟩ := hd
          exact below_drewN HB2.out d)
        have q1 : wr.cell? ⟨w1.heap.size, 1, none⟩ = some (.int .i64 t) := blk_cell hk3 1
        have e2 : ((t : Int) == (t : Int)) = true := beq_self_eq_true _
        clear hk3 hd hsz
        go_wp2_with fail
        refine (HAW.out wr).mono ?_
        rintro e w5 ⟨rfl, hb5⟩
        have HB5 := Lib.hid (HB3.out.trans (hb5.mono HB3.out.size))
        clear hb5
        go_wp2_with fail
        go_ret
        exact ⟨rfl, HB5.out⟩
  · generalize showAns L = ans at *
    obtain ⟨bs, k⟩ := ans
    have hk2 : k ≠ 0 := hk
    have hco2 : k ≤ 80 := hco
    have HA2 : Hid (Calls Try.prog 8 #[.slice A n c] w fun e w' => e = .returned (.tuple #[.agg #[.string ⟨(pack bs).toArray⟩, .int .i64 bs.length], .int .i64 k]) ∧ Below w.heap.size w w') := HA
    generalize (ByteArray.mk (pack bs).toArray) = T at *
    generalize bs.length = q at *
    have d2 : ((k : Int) != 0) = true := by
      rw [bne_iff_ne]
      omega
    unfold maxLen at hn
    clear hz hlm hsh hco hk HA hk2
    go_enter Try.func6, Try.ntmps6
    go_wp2_with fail
    refine HA2.out.mono ?_
    rintro e w1 ⟨rfl, hb1⟩
    have hba : Below w1.heap.size w1 (w1.alloc (.cells #[.string T, .int .i64 q] 24)) := (Below.refl _ _).alloc (Nat.le_refl _) _
    have HB1 := Lib.hid (hb1.trans (hba.mono hb1.size))
    clear hb1 hba
    go_wp2_with fail
    refine (HAW.out _).mono ?_
    rintro e w5 ⟨rfl, hb5⟩
    have HB5 := Lib.hid (HB1.out.trans (hb5.mono HB1.out.size))
    clear hb5
    go_wp2_with fail
    go_ret
    exact ⟨rfl, HB5.out⟩
end

end Go.Proofs.Yticigahhdhindaa
