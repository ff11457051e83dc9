/- Pax's code: mayBe, size, record, cut, pair, Last. Conditions: a pair's texts of at most 999990 bytes together; the tables are there where a size is told. -/
import Derived.Test.YtdjmfkodjjjhfaaGreatDoorPws
import Derived.Test.YtdjmfkodjjjhfaaGreatDoorFwg
import Derived.Deep.RegionHeld3
import Derived.Laws.Concat
import Derived.Test.YtdjmfkodjjjhfaaGreatDoorPxj
import Derived.Test.YtdjmfkodjjjhfaaGreatDoorFwd
import Derived.Laws.IdiomStrings
import Derived.Laws.BytesArg
import Derived.Lib.AppendStr
namespace Go.Proofs.YtdjmfkodjjjhfaaGreatDoor
open Go.RowKit

abbrev pairV (K V : ByteArray) : Value := .agg #[.string K, .string V]
theorem empty_same (K : ByteArray) : (K.toList == []) = decide (K.data.toList = []) := by
  rw [ByteArray.toList_eq]
  cases K.data.toList <;> rfl
set_option maxHeartbeats 1600000 in
set_option maxRecDepth 100000 in
theorem cmay_any (w : World) (K V : ByteArray) : Calls Tryz.prog 54 #[pairV K V] w fun e w' => e = .returned (.bool (decide (keyK K.data.toList))) ∧ Below w.heap.size w w' := by
  have HC := Lib.hid fun wx : World => contains_any wx K
  have hb0 := blk_new w 56 #[.string K, .string V]
  have HB := Lib.hid (show Below w.heap.size w (w.alloc (.cells #[.string K, .string V] 56)) from (Below.refl _ _).alloc (Nat.le_refl _) _)
  have d0 := empty_same K
  by_cases h0 : K.data.toList = []
  · rw [decide_eq_true h0] at d0
    rw [decide_eq_false (show ¬ keyK K.data.toList from fun h => h.1 h0)]
    clear HC h0
    go_enter Tryz.func54, Tryz.ntmps54
    go_upto_region 1 with fail
    generalize w.alloc (.cells #[.string K, .string V] 56) = w2 at *
    have e0 := (blk_cell hb0 0).trans (rfl : _ = some (Value.string K))
    clear hb0
    go_wp2_with fail
    go_ret
    exact ⟨rfl, HB.out⟩
  · rw [decide_eq_false h0] at d0
    obtain ⟨b, hb⟩ : ∃ b, b = decide ((61 : UInt8) ∈ K.data.toList) := ⟨_, rfl⟩
    have hr : decide (keyK K.data.toList) = !b := by
      rw [hb]
      unfold keyK
      by_cases h1 : (61 : UInt8) ∈ K.data.toList <;> simp [h0, h1]
    rw [← hb] at HC
    rw [hr]
    clear hb hr h0
    go_enter Tryz.func54, Tryz.ntmps54
    go_upto_region 1 with fail
    generalize w.alloc (.cells #[.string K, .string V] 56) = w2 at *
    have e0 := (blk_cell hb0 0).trans (rfl : _ = some (Value.string K))
    clear hb0
    go_wp2_with fail
    refine (HC.out w2).mono ?_
    rintro e w2 ⟨rfl, rfl⟩
    go_wp2_with fail
    go_ret
    exact ⟨rfl, HB.out⟩
theorem pres_size (K V : ByteArray) : (prestL (K.data.toList, V.data.toList)).length = K.size + V.size + 3 := prestL_length _
set_option maxHeartbeats 3200000 in
set_option maxRecDepth 100000 in
theorem csize_any (w : World) (hT : Tabs w) (K V : ByteArray) (h : K.size + V.size ≤ 999980) : Calls Tryz.prog 55 #[pairV K V] w fun e w' => e = .returned (.int .i64 (recN (K.data.toList, V.data.toList))) ∧ Below w.heap.size w w' := by
  obtain ⟨r, hr⟩ : ∃ r, r = K.size + V.size + 3 := ⟨_, rfl⟩
  have HRN : Hid (recN (K.data.toList, V.data.toList) = r + digN r) := Lib.hid (by rw [recN, pres_size, ← hr, Nat.add_comm])
  have hrb : r ≤ 999983 := by omega
  have HST := Lib.hid fun d h1 h2 => dig_step r d (by omega) h1 h2
  have HD6 : Hid (digN r ≤ 6) := Lib.hid (by
    unfold digN
    repeat' split
    all_goals omega)
  obtain ⟨N, hN⟩ : ∃ N, N = digN r := ⟨_, rfl⟩
  rw [← hN] at HD6 HST HRN
  have hn6 := HD6.out
  have HTB : Hid (∀ wx : World, Below w.heap.size w wx → Tabs wx) := Lib.hid fun wx hb => hT.below hb
  have CD : Hid (∀ (wx : World) (d : Nat), Tabs wx → d ≤ 6 → Calls Tryz.prog 93 #[.int .i64 ((r + d : Nat) : Int)] wx fun e w' => e = .returned (.string (strF (decL (r + d)))) ∧ Below wx.heap.size wx w') := Lib.hid fun wx d ht hd => by
    have h := cdigits_any wx ht ((r + d : Nat) : Int) (by omega) (by omega)
    rw [digits_dec] at h
    exact h
  have hb0 := blk_new w 56 #[.string K, .string V]
  have HB := Lib.hid (show Below w.heap.size w (w.alloc (.cells #[.string K, .string V] 56)) from (Below.refl _ _).alloc (Nat.le_refl _) _)
  have hrr : (1 : Int) + (K.size : Int) + 1 + (V.size : Int) + 1 = (r : Int) := by omega
  rw [HRN.out]
  clear hr hT hN
  go_enter Tryz.func55, Tryz.ntmps55
  go_upto_region 1 with fail
  generalize w.alloc (.cells #[.string K, .string V] 56) = w2 at *
  have e0 := (blk_cell hb0 0).trans (rfl : _ = some (Value.string K))
  have e1 := (blk_cell hb0 1).trans (rfl : _ = some (Value.string V))
  clear hb0
  go_wp2_with fail
  go_loopw [4] (fun sn wx => ∃ d : Nat, sn = .int .i64 ((r + d : Nat) : Int) ∧ d ≤ N ∧ Hid (d ≤ (decL (r + d)).length) ∧ Below w.heap.size w wx) (fun sn _ => r + N - (intOf sn).toNat)
  case atStart => exact ⟨0, by go_num, Nat.zero_le _, Lib.hid (Nat.zero_le _), HB.out⟩
  case round =>
    obtain ⟨d, rfl, hdn, hdi, hbx⟩ := hrel
    have HBX := Lib.hid hbx
    have hs := HST.out d hdn hdi.out
    have C1 := Lib.hid (CD.out wr d (HTB.out _ hbx) (by omega))
    have C2 := Lib.hid fun (wx : World) (hb : Below w.heap.size w wx) => CD.out wx d (HTB.out _ hb) (by omega)
    obtain ⟨q, hq⟩ : ∃ q, q = (decL (r + d)).length := ⟨_, rfl⟩
    have hDz : (strF (decL (r + d))).size = q := by rw [strF_size, hq]
    rw [← hq] at hs
    obtain ⟨D, hD⟩ : ∃ D, D = strF (decL (r + d)) := ⟨_, rfl⟩
    rw [← hD] at C1 C2 hDz
    obtain ⟨m, hm⟩ : ∃ m, m = r + d := ⟨_, rfl⟩
    rw [← hm] at C1 C2 ⊢
    have HMM := Lib.hid hm
    obtain ⟨s1, s2, s3⟩ := hs
    have HDZ := Lib.hid hDz
    have hDb : D.size ≤ 6 := by omega
    clear e0 e1 hrr hq hD hbx hdi hDz hm
    by_cases ed : d < q
    · have HN3 := Lib.hid (s3 ed)
      have t1 : decide ((m : Int) < (r : Int) + (D.size : Int)) = true := decide_eq_true (by have := HDZ.out; have := HMM.out; omega)
      clear s2 s3
      go_wp2_with fail
      refine C1.out.mono ?_
      rintro e w3 ⟨rfl, hb3⟩
      have HB3 := Lib.hid (HBX.out.trans (hb3.mono HBX.out.size))
      clear hb3
      go_wp2_with fail
      refine (C2.out w3 HB3.out).mono ?_
      rintro e w4 ⟨rfl, hb4⟩
      have HB4 := Lib.hid (HB3.out.trans (hb4.mono HB3.out.size))
      clear hb4
      go_wp2_with fail
      go_roundw
      case rel => exact ⟨q, by rw [HDZ.out]; go_num, by omega, Lib.hid HN3.out, HB4.out⟩
      case measure => have := HDZ.out; have := HMM.out; simp [intOf]; omega
    · have t1 : decide ((m : Int) < (r : Int) + (D.size : Int)) = false := decide_eq_false (by have := HDZ.out; have := HMM.out; omega)
      have hdN := s2 (by omega)
      have HM : Hid (m = r + N) := Lib.hid (by have := HMM.out; omega)
      clear s3 hdN
      go_wp2_with fail
      refine C1.out.mono ?_
      rintro e w3 ⟨rfl, hb3⟩
      have HB3 := Lib.hid (HBX.out.trans (hb3.mono HBX.out.size))
      clear hb3
      go_wp2_with fail
      go_ret
      exact ⟨by rw [HM.out]; rfl, HB3.out⟩

set_option maxHeartbeats 3200000 in
set_option maxRecDepth 100000 in
theorem crecord_any (w : World) (hT : Tabs w) (K V : ByteArray) (h : K.size + V.size ≤ 999980) : Calls Tryz.prog 56 #[pairV K V] w fun e w' => e = .returned (.string (strF (recL (K.data.toList, V.data.toList)))) ∧ Below w.heap.size w w' := by
  obtain ⟨n, hn⟩ : ∃ n, n = recN (K.data.toList, V.data.toList) := ⟨_, rfl⟩
  have hlen := recL_length (K.data.toList, V.data.toList) (show K.size + V.size ≤ 999990 by omega)
  have hnb : n ≤ 999999 := by
    rw [hn, recN, pres_size]
    have : digN (K.size + V.size + 3) ≤ 6 := by
      unfold digN
      repeat' split
      all_goals omega
    omega
  have HTB : Hid (∀ wx : World, Below w.heap.size w wx → Tabs wx) := Lib.hid fun wx hb => hT.below hb
  have CS : Hid (∀ wx : World, Below w.heap.size w wx → Calls Tryz.prog 55 #[pairV K V] wx fun e w' => e = .returned (.int .i64 n) ∧ Below wx.heap.size wx w') := Lib.hid fun wx hb => by rw [hn]; exact csize_any wx (hT.below hb) K V h
  have CD : Hid (∀ wx : World, Below w.heap.size w wx → Calls Tryz.prog 93 #[.int .i64 n] wx fun e w' => e = .returned (.string (strF (decL n))) ∧ Below wx.heap.size wx w') := Lib.hid fun wx hb => by
    have h := cdigits_any wx (hT.below hb) (n : Int) (by omega) (by omega)
    rw [digits_dec] at h
    exact h
  have hdz : (strF (decL n)).size ≤ 999999 := by
    rw [strF_size]
    have : recL (K.data.toList, V.data.toList) = decL n ++ prestL (K.data.toList, V.data.toList) := by rw [hn]; rfl
    rw [this, List.length_append, ← hn] at hlen
    omega
  have HC : Hid (strF (decL n) ++ ⟨#[32]⟩ ++ K ++ ⟨#[61]⟩ ++ V ++ ⟨#[10]⟩ = strF (recL (K.data.toList, V.data.toList))) := Lib.hid (by
    apply ByteArray.ext
    apply Array.toList_inj.1
    simp [recL, prestL, strF, hn])
  generalize strF (recL (K.data.toList, V.data.toList)) = X at *
  generalize strF (decL n) = D at *
  have hb0 := blk_new w 56 #[.string K, .string V]
  have HB := Lib.hid (show Below w.heap.size w (w.alloc (.cells #[.string K, .string V] 56)) from (Below.refl _ _).alloc (Nat.le_refl _) _)
  have hca : ∀ (w9 : World) (a b : ByteArray), a.size + b.size ≤ 9223372036854775807 → (Op.stringOp .add a b).run Tryz.prog w9 = .ok (.string (a ++ b)) w9 := fun w9 a b h => run_string_add_sum w9 a b h
  have z0 : ∀ (x : UInt8), (⟨#[x]⟩ : ByteArray).size = 1 := fun x => rfl
  have z1 : (D ++ ⟨#[32]⟩).size = D.size + 1 := ByteArray.size_append
  have z2 : (D ++ ⟨#[32]⟩ ++ K).size = D.size + 1 + K.size := by rw [ByteArray.size_append, z1]
  have z3 : (D ++ ⟨#[32]⟩ ++ K ++ ⟨#[61]⟩).size = D.size + 1 + K.size + 1 := by rw [ByteArray.size_append, z2]; rfl
  have z4 : (D ++ ⟨#[32]⟩ ++ K ++ ⟨#[61]⟩ ++ V).size = D.size + 1 + K.size + 1 + V.size := by rw [ByteArray.size_append, z3]
  have hc1 := fun w9 => hca w9 D ⟨#[32]⟩ (by rw [z0]; omega)
  have hc2 := fun w9 => hca w9 (D ++ ⟨#[32]⟩) K (by rw [z1]; omega)
  have hc3 := fun w9 => hca w9 (D ++ ⟨#[32]⟩ ++ K) ⟨#[61]⟩ (by rw [z2, z0]; omega)
  have hc4 := fun w9 => hca w9 (D ++ ⟨#[32]⟩ ++ K ++ ⟨#[61]⟩) V (by rw [z3]; omega)
  have hc5 := fun w9 => hca w9 (D ++ ⟨#[32]⟩ ++ K ++ ⟨#[61]⟩ ++ V) ⟨#[10]⟩ (by rw [z4, z0]; omega)
  clear hT hn hlen hca z0 z1 z2 z3 z4
  go_enter Tryz.func56, Tryz.ntmps56
  go_upto_region 1 with fail
  have HKC := Lib.hid hb0
  have HBC := Lib.hid HB.out.drew
  have HKC2 : Hid (Blk (w.alloc (.cells #[.string K, .string V] 56)).drew w.heap.size 56 #[.string K, .string V]) := HKC
  clear hb0 HKC HB
  have HKC := HKC2
  clear HKC2
  have HKP : Hid (∀ wx : World, Blk wx w.heap.size 56 #[.string K, .string V] → wx.cell? ⟨w.heap.size, 0, none⟩ = some (.string K) ∧ wx.cell? ⟨w.heap.size, 1, none⟩ = some (.string V)) := Lib.hid fun wx hk => ⟨blk_cell hk 0, blk_cell hk 1⟩
  go_region_held3 (fun w' => w'.cell? ⟨w.heap.size, 0, none⟩ = some (.string K) ∧ w'.cell? ⟨w.heap.size, 1, none⟩ = some (.string V))
    (first | exact HKP.out _ HKC.out)
    (first
      | (go_at_call 55; refine (CS.out _ HBC.out).mono ?_; rintro e wn ⟨rfl, hb9⟩
         have HK9 := Lib.hid ((step_of_below hb9).blk HKC.out List.not_mem_nil List.not_mem_nil)
         have HB9 := Lib.hid (HBC.out.trans (hb9.mono HBC.out.size))
         clear hb9 HKC HBC
         have HKC := HK9
         have HBC := HB9
         clear HK9 HB9)
      | (go_at_call 93; refine (CD.out _ HBC.out).mono ?_; rintro e wn ⟨rfl, hb9⟩
         have HK9 := Lib.hid ((step_of_below hb9).blk HKC.out List.not_mem_nil List.not_mem_nil)
         have HB9 := Lib.hid (HBC.out.trans (hb9.mono HBC.out.size))
         clear hb9 HKC HBC
         have HKC := HK9
         have HBC := HB9
         clear HK9 HB9))
  rw [HC.out]
  go_wp2_with fail
  go_ret
  exact ⟨rfl, HBC.out⟩

set_option maxHeartbeats 1600000 in
set_option maxRecDepth 100000 in
theorem ccutr_any (w : World) (s : ByteArray) (hs : s.size ≤ 262144) : Calls Tryz.prog 100 #[.string s] w fun e w' => e = .returned (.string (strF (cutR s.data.toList))) ∧ Below w.heap.size w w' := by
  have C1 := Lib.hid (cutBl_any w s (by omega))
  obtain ⟨T, hT⟩ : ∃ T, T = strF (s.data.toList.takeWhile (· != 32)) := ⟨_, rfl⟩
  have hTz : T.size ≤ 262144 := by
    have h1 := (List.takeWhile_sublist (· != (32 : UInt8)) (l := s.data.toList)).length_le
    have h2 : s.data.toList.length = s.size := rfl
    rw [hT, strF_size]
    omega
  have C2 := Lib.hid fun wx : World => cdecimal_any wx T (by omega)
  have hTl : T.data.toList = s.data.toList.takeWhile (· != 32) := by rw [hT]; rfl
  rw [← hT] at C1
  rw [hTl] at C2
  have hsl : s.data.toList.length = s.size := rfl
  unfold cutR
  rw [hsl]
  generalize decimalA (s.data.toList.takeWhile (· != 32)) = E at *
  obtain ⟨n, x⟩ := E
  dsimp only at C2 ⊢
  generalize strF (behindB 32 s.data.toList) = R at *
  clear hT hTl hsl
  by_cases ex : x = 0
  · have t0 : ((x : Int) != 0) = false := by rw [ex]; rfl
    by_cases en : s.size < n
    · have t1 : decide ((s.size : Int) < (n : Int)) = true := decide_eq_true (by omega)
      rw [if_pos (.inr en)]
      clear ex
      go_enter Tryz.func100, Tryz.ntmps100
      go_wp2_with fail
      refine C1.out.mono ?_
      rintro e w2 ⟨⟨b, rfl⟩, d, rfl⟩
      have HB := Lib.hid (below_drewN (Below.refl w.heap.size w) d)
      generalize w.drewN d = w2 at *
      go_wp2_with fail
      refine (C2.out w2).mono ?_
      rintro e w3 ⟨rfl, hb3⟩
      have HB3 := Lib.hid (HB.out.trans (hb3.mono HB.out.size))
      clear hb3
      go_wp2_with fail
      go_ret
      exact ⟨rfl, HB3.out⟩
    · have t1 : decide ((s.size : Int) < (n : Int)) = false := decide_eq_false (by omega)
      have c1 : (n : Int) ≤ (s.size : Int) := by omega
      rw [if_neg (by rintro (h | h); exact h ex; exact en h), ← extF_front]
      clear ex
      go_enter Tryz.func100, Tryz.ntmps100
      go_wp2_with fail
      refine C1.out.mono ?_
      rintro e w2 ⟨⟨b, rfl⟩, d, rfl⟩
      have HB := Lib.hid (below_drewN (Below.refl w.heap.size w) d)
      generalize w.drewN d = w2 at *
      go_wp2_with fail
      refine (C2.out w2).mono ?_
      rintro e w3 ⟨rfl, hb3⟩
      have HB3 := Lib.hid (HB.out.trans (hb3.mono HB.out.size))
      clear hb3
      go_wp2_with fail
      go_ret
      exact ⟨rfl, HB3.out⟩
  · have t0 : ((x : Int) != 0) = true := bne_iff_ne.2 (by omega)
    rw [if_pos (.inl ex)]
    clear ex
    go_enter Tryz.func100, Tryz.ntmps100
    go_wp2_with fail
    refine C1.out.mono ?_
    rintro e w2 ⟨⟨b, rfl⟩, d, rfl⟩
    have HB := Lib.hid (below_drewN (Below.refl w.heap.size w) d)
    generalize w.drewN d = w2 at *
    go_wp2_with fail
    refine (C2.out w2).mono ?_
    rintro e w3 ⟨rfl, hb3⟩
    have HB3 := Lib.hid (HB.out.trans (hb3.mono HB.out.size))
    clear hb3
    go_wp2_with fail
    go_ret
    exact ⟨rfl, HB3.out⟩
end Go.Proofs.YtdjmfkodjjjhfaaGreatDoor
/- Pax's code: pair, last, Last. Conditions: a text of at most 262144 bytes; the tables are there where a record is told. -/
namespace Go.Proofs.YtdjmfkodjjjhfaaGreatDoor
open Go.RowKit

theorem last_hit (k : ByteArray) (L : List PairB) (i : Nat) (hi : i < L.length) (h : lastA k (L.drop (i + 1)) none = none) (hk : (L.getD i noB).1 = k) : lastA k L none = some (L.getD i noB).2 := by
  have e : L = L.take i ++ L.getD i noB :: L.drop (i + 1) := by
    rw [List.getD_eq_getElem?_getD, List.getElem?_eq_getElem hi]
    show L = L.take i ++ L[i] :: L.drop (i + 1)
    rw [← List.drop_eq_getElem_cons hi, List.take_append_drop]
  generalize L.getD i noB = p at *
  generalize L.drop (i + 1) = R at *
  rw [e, lastA_append, lastA, if_pos hk, lastA_some, h]
  rfl
theorem last_miss (k : ByteArray) (L : List PairB) (i : Nat) (hi : i < L.length) (h : lastA k (L.drop (i + 1)) none = none) (hk : (L.getD i noB).1 ≠ k) : lastA k (L.drop i) none = none := by
  rw [List.drop_eq_getElem_cons hi, lastA, if_neg (by rw [List.getD_eq_getElem?_getD, List.getElem?_eq_getElem hi] at hk; exact hk)]
  exact h
abbrev lastV (g : Nat) : Value := .func (.func 103) #[] #[.pointer (some ⟨g, 0, none⟩)]
set_option maxRecDepth 100000 in
theorem csought_any (w : World) (g : Nat) (k K V : ByteArray) (hg : w.cell? ⟨g, 0, none⟩ = some (.string k)) : Calls Tryz.prog 103 #[pairV K V, .pointer (some ⟨g, 0, none⟩)] w fun e w' => e = .returned (.bool (decide (K = k))) ∧ Below w.heap.size w w' := by
  have hb0 := blk_new w 56 #[.string K, .string V]
  have HB := Lib.hid (show Below w.heap.size w (w.alloc (.cells #[.string K, .string V] 56)) from (Below.refl _ _).alloc (Nat.le_refl _) _)
  have d0 := bytes_eql K k
  generalize decide (K = k) = b at *
  have hg2 := (HB.out.cell (p := ⟨g, 0, none⟩) (World.block_lt_of_cell? w _ hg)).trans hg
  clear hg
  go_enter Tryz.func103, Tryz.ntmps103
  go_upto_region 1 with fail
  generalize w.alloc (.cells #[.string K, .string V] 56) = w2 at *
  have e0 := (blk_cell hb0 0).trans (rfl : _ = some (Value.string K))
  clear hb0
  go_wp2_with fail
  go_ret
  exact ⟨rfl, HB.out⟩

set_option maxHeartbeats 3200000 in
set_option maxRecDepth 100000 in
theorem clastp_any (w : World) (A : Option Addr) (n c g : Nat) (L : List PairB) (k : ByteArray) (hI : PIn w A n L) (hn : n ≤ maxLen) (hg : w.cell? ⟨g, 0, none⟩ = some (.string k)) :
    Calls Tryz.prog 102 #[.slice A n c, lastV g] w fun e w' => (∃ K V, e = .returned (.tuple #[pairV K V, .bool (optB (lastA k L none))]) ∧ V = optS (lastA k L none)) ∧ Below w.heap.size w w' := by
  have hlen := hI.1
  have HI := Lib.hid hI
  have HHIT := Lib.hid (last_hit k L)
  have HMISS := Lib.hid (last_miss k L)
  have H0 : Hid (lastA k (L.drop n) none = none) := Lib.hid (by rw [← hlen, List.drop_length]; rfl)
  have HL0 : Hid (lastA k (L.drop 0) none = lastA k L none) := Lib.hid (by rw [List.drop_zero])
  have CS : Hid (∀ (wx : World) (K V : ByteArray), Below w.heap.size w wx → Calls Tryz.prog 103 #[pairV K V, .pointer (some ⟨g, 0, none⟩)] wx fun e w' => e = .returned (.bool (decide (K = k))) ∧ Below wx.heap.size wx w') := Lib.hid fun wx K V hb => csought_any wx g k K V ((hb.cell (p := ⟨g, 0, none⟩) (World.block_lt_of_cell? w _ hg)).trans hg)
  have HP : Hid (∀ (K V : ByteArray) (b : Bool) (w' : World), lastA k L none = (if b then some V else none) → (b = false → V = ⟨#[]⟩) → Below w.heap.size w w' → (fun e w' => (∃ K V, e = Ending.returned (.tuple #[pairV K V, .bool (optB (lastA k L none))]) ∧ V = optS (lastA k L none)) ∧ Below w.heap.size w w') (.returned (.tuple #[pairV K V, .bool b])) w') := Lib.hid fun K V b w' h hv hb => by
    refine ⟨⟨K, V, ?_, ?_⟩, hb⟩
    · rw [h]; cases b <;> rfl
    · rw [h]
      cases b
      · exact hv rfl
      · rfl
  generalize (fun e w' => (∃ K V, e = Ending.returned (.tuple #[pairV K V, .bool (optB (lastA k L none))]) ∧ V = optS (lastA k L none)) ∧ Below w.heap.size w w') = PO at *
  unfold maxLen at hn
  have HLEN := Lib.hid hlen
  have hk0 := blk_new w 56 #[.string ⟨#[]⟩, .string ⟨#[]⟩]
  have HB := Lib.hid (show Below w.heap.size w (w.alloc (.cells #[.string ⟨#[]⟩, .string ⟨#[]⟩] 56)) from (Below.refl _ _).alloc (Nat.le_refl _) _)
  obtain ⟨g0, hg0⟩ : ∃ g0, g0 = w.heap.size := ⟨_, rfl⟩
  clear hI hg hlen
  go_enter Tryz.func102, Tryz.ntmps102
  go_upto_region 1 with fail
  generalize w.alloc (.cells #[.string ⟨#[]⟩, .string ⟨#[]⟩] 56) = w2 at *
  rw [← hg0] at hk0 ⊢
  have HK := Lib.hid hk0
  have HG0 := Lib.hid hg0
  clear hk0 hg0
  go_wp2_with fail
  go_loopw [6] (fun sn wx => ∃ q : Nat, sn = .int .i64 ((q : Int) - 1) ∧ q ≤ n ∧ Hid (lastA k (L.drop q) none = none) ∧ Hid (Blk wx g0 56 #[.string ⟨#[]⟩, .string ⟨#[]⟩]) ∧ Below w.heap.size w wx) (fun sn _ => (intOf sn + 1).toNat)
  case atStart => exact ⟨n, rfl, Nat.le_refl _, H0, HK, HB.out⟩
  case round =>
    obtain ⟨q, rfl, hqn, hq0, hbk, hbx⟩ := hrel
    have HBX := Lib.hid hbx
    cases q with
    | zero =>
      have d0 : decide ((0 : Int) ≤ ((0 : Nat) : Int) - 1) = false := by decide
      have HNO : Hid (lastA k L none = none) := Lib.hid (by rw [← HL0.out]; exact hq0.out)
      have hr2 := blk_new wr 56 #[.string ⟨#[]⟩, .string ⟨#[]⟩]
      have HB3 := Lib.hid (HBX.out.trans (show Below w.heap.size wr (wr.alloc (.cells #[.string ⟨#[]⟩, .string ⟨#[]⟩] 56)) from (Below.refl _ _).alloc HBX.out.size _))
      have hk3 : Blk (wr.alloc (.cells #[.string ⟨#[]⟩, .string ⟨#[]⟩] 56)) g0 56 #[.string ⟨#[]⟩, .string ⟨#[]⟩] := ((Step.refl wr.heap.size [] [] wr).alloc (Nat.le_refl _) _).blk hbk.out List.not_mem_nil List.not_mem_nil
      clear hbx
      go_upto_region 7 with fail
      generalize wr.alloc (.cells #[.string ⟨#[]⟩, .string ⟨#[]⟩] 56) = w3 at *
      have e0 := (blk_cell hk3 0).trans (rfl : _ = some (Value.string ⟨#[]⟩))
      have e1 := (blk_cell hk3 1).trans (rfl : _ = some (Value.string ⟨#[]⟩))
      have f0 := blk_frozen hk3 0
      have f1 := blk_frozen hk3 1
      have c0 := (blk_cell hr2 0).trans (rfl : _ = some (Value.string ⟨#[]⟩))
      have c1 := (blk_cell hr2 1).trans (rfl : _ = some (Value.string ⟨#[]⟩))
      clear hk3 hr2
      go_wp2_with fail
      refine bodyPost_ret (v := .tuple #[pairV ⟨#[]⟩ ⟨#[]⟩, .bool false]) ?_ rfl ?_
      · simp [results, Tryz.results102, go_sem, e0, e1]
      · exact HP.out ⟨#[]⟩ ⟨#[]⟩ false _ HNO.out (fun _ => rfl) ((HB3.out.setCell (p := ⟨g0, 0, none⟩) (by rw [HG0.out]; exact Nat.le_refl _) _).setCell (p := ⟨g0, 1, none⟩) (by rw [HG0.out]; exact Nat.le_refl _) _)
    | succ i =>
      have hi1 : (((i + 1 : Nat) : Int) - 1) = (i : Int) := by omega
      rw [hi1]
      have d0 : decide ((0 : Int) ≤ (i : Int)) = true := decide_eq_true (by omega)
      have hin : i < n := by omega
      obtain ⟨b, off, hA, hc⟩ := (HI.out.below hbx).2 (by omega)
      obtain ⟨c1, c2⟩ := hc i hin
      obtain ⟨K, hK⟩ : ∃ K, K = (L.getD i noB).1 := ⟨_, rfl⟩
      obtain ⟨U, hU⟩ : ∃ U, U = (L.getD i noB).2 := ⟨_, rfl⟩
      have hhit := HHIT.out i (by rw [HLEN.out]; exact hin) hq0.out
      have hmiss := HMISS.out i (by rw [HLEN.out]; exact hin) hq0.out
      rw [← hK] at c1 hhit hmiss
      rw [← hU] at c2 hhit
      have C1 := Lib.hid (CS.out wr K U hbx)
      have hz0 : (0 : Int) ≤ (i : Int) := by omega
      have hzn : (i : Int) < (n : Int) := by omega
      subst hA
      clear hc hK hU hq0 hi1 hbx
      by_cases ek : K = k
      · have HIT : Hid (lastA k L none = some U) := Lib.hid (hhit ek)
        rw [decide_eq_true ek] at C1
        clear hhit hmiss ek
        go_wp2_with fail
        refine C1.out.mono ?_
        rintro e w3 ⟨rfl, hb3⟩
        have HB3 := Lib.hid (HBX.out.trans (hb3.mono HBX.out.size))
        have hk3 := (step_of_below hb3).blk hbk.out List.not_mem_nil List.not_mem_nil
        have g1 := (hb3.cell (p := ⟨b, off + i * 2, none⟩) (World.block_lt_of_cell? wr _ c1)).trans c1
        have g2 := (hb3.cell (p := ⟨b, off + i * 2 + 1, none⟩) (World.block_lt_of_cell? wr _ c2)).trans c2
        have e0 := (blk_cell hk3 0).trans (rfl : _ = some (Value.string ⟨#[]⟩))
        have e1 := (blk_cell hk3 1).trans (rfl : _ = some (Value.string ⟨#[]⟩))
        have f0 := blk_frozen hk3 0
        have f1 := blk_frozen hk3 1
        clear hb3 hk3 c1 c2
        go_wp2_with fail
        refine bodyPost_ret (v := .tuple #[pairV K U, .bool true]) ?_ rfl ?_
        · simp [results, Tryz.results102, go_sem, e0, e1]
        · exact HP.out K U true _ HIT.out (fun h => by cases h) ((HB3.out.setCell (p := ⟨g0, 0, none⟩) (by rw [HG0.out]; exact Nat.le_refl _) _).setCell (p := ⟨g0, 1, none⟩) (by rw [HG0.out]; exact Nat.le_refl _) _)
      · have HMI : Hid (lastA k (L.drop i) none = none) := Lib.hid (hmiss ek)
        rw [decide_eq_false ek] at C1
        clear hhit hmiss ek
        go_wp2_with fail
        refine C1.out.mono ?_
        rintro e w3 ⟨rfl, hb3⟩
        have HB3 := Lib.hid (HBX.out.trans (hb3.mono HBX.out.size))
        have HK3 := Lib.hid ((step_of_below hb3).blk hbk.out List.not_mem_nil List.not_mem_nil)
        clear hb3
        go_wp2_with fail
        go_roundw
        case rel => exact ⟨i, rfl, by omega, HMI, HK3, HB3.out⟩
        case measure => simp [intOf]

set_option maxHeartbeats 1600000 in
set_option maxRecDepth 100000 in
theorem clast_any (w : World) (A : Option Addr) (n c : Nat) (L : List PairB) (k : ByteArray) (hI : PIn w A n L) (hn : n ≤ maxLen) :
    Calls Tryz.prog 64 #[.slice A n c, .string k] w fun e w' => e = .returned (.tuple #[.string (optS (lastA k L none)), .bool (optB (lastA k L none))]) ∧ Below w.heap.size w w' := by
  have hk0 := blk_new w 9 #[.string k]
  have hb1 : Below w.heap.size w (w.alloc (.cells #[.string k] 9)) := (Below.refl _ _).alloc (Nat.le_refl _) _
  have HI1 := hI.below hb1
  have HB := Lib.hid hb1
  obtain ⟨g, hg⟩ : ∃ g, g = w.heap.size := ⟨_, rfl⟩
  have C1 := Lib.hid (clastp_any (w.alloc (.cells #[.string k] 9)) A n c g L k HI1 hn (by rw [hg]; exact (blk_cell hk0 0).trans rfl))
  generalize optB (lastA k L none) = b at *
  generalize optS (lastA k L none) = v at *
  clear hI hb1 hk0 HI1
  go_enter Tryz.func64, Tryz.ntmps64
  go_upto_region 1 with fail
  generalize w.alloc (.cells #[.string k] 9) = w2 at *
  rw [← hg]
  clear hg
  go_wp2_with fail
  refine C1.out.mono ?_
  rintro e w3 ⟨⟨K, V, rfl, rfl⟩, hb3⟩
  have hr := blk_new w3 56 #[.string K, .string V]
  have HB3 := Lib.hid ((HB.out.trans (hb3.mono HB.out.size)).alloc ((HB.out.trans (hb3.mono HB.out.size)).size) (.cells #[.string K, .string V] 56))
  clear hb3
  go_upto_region 2 with fail
  generalize w3.alloc (.cells #[.string K, .string V] 56) = w4 at *
  have e1 := (blk_cell hr 1).trans (rfl : _ = some (Value.string V))
  clear hr
  go_wp2_with fail
  go_ret2
  exact ⟨rfl, HB3.out⟩

/-- A result's two cells, whatever stands in them. -/
def ResB (w : World) (g : Nat) : Prop := ∃ a b, Blk w g 56 #[a, b]
def resV (w : World) (g i : Nat) : Value := (w.cell? ⟨g, i, none⟩).getD undef
theorem ResB.cells {w : World} {g : Nat} (h : ResB w g) : w.cell? ⟨g, 0, none⟩ = some (resV w g 0) ∧ w.cell? ⟨g, 1, none⟩ = some (resV w g 1) ∧ w.frozen? ⟨g, 0, none⟩ = false ∧ w.frozen? ⟨g, 1, none⟩ = false := by
  obtain ⟨a, b, h⟩ := h
  have h0 : w.cell? ⟨g, 0, none⟩ = some a := blk_cell h 0
  have h1 : w.cell? ⟨g, 1, none⟩ = some b := blk_cell h 1
  refine ⟨?_, ?_, blk_frozen h 0, blk_frozen h 1⟩
  · rw [resV, h0]; rfl
  · rw [resV, h1]; rfl
theorem ResB.step {w w' : World} {g : Nat} (h : ResB w g) (hb : Below w.heap.size w w') : ResB w' g := by
  obtain ⟨a, b, h⟩ := h
  exact ⟨a, b, (step_of_below hb).blk h List.not_mem_nil List.not_mem_nil⟩
theorem ResB.store {w : World} {g : Nat} (h : ResB w g) (u v : Value) : ResB ((w.setCell ⟨g, 0, none⟩ u).setCell ⟨g, 1, none⟩ v) g := by
  obtain ⟨a, b, h⟩ := h
  exact ⟨u, v, blk_set (blk_set h 0 u) 1 v⟩
set_option maxRecDepth 100000 in
theorem blk_aside {w : World} {g k : Nat} {t : TypeId} {cs : Array Value} (h : Blk w g t cs) (hne : g ≠ k) (u v : Value) : Blk ((w.setCell ⟨k, 0, none⟩ u).setCell ⟨k, 1, none⟩ v) g t cs :=
  (((Step.refl k [k] [] w).set (p := ⟨k, 0, none⟩) (Nat.le_refl _) (by simp) u).set (p := ⟨k, 1, none⟩) (Nat.le_refl _) (by simp) v).blk h (by simpa using hne) List.not_mem_nil

set_option maxHeartbeats 3200000 in
set_option maxRecDepth 100000 in
theorem cpair_any (w : World) (hT : Tabs w) (s : ByteArray) (hs : s.size ≤ 262144) : Calls Tryz.prog 101 #[.string s] w fun e w' => e = .returned (.tuple #[pairV (strF (pairR s.data.toList).1) (strF (pairR s.data.toList).2), .bool (decide (isR s.data.toList))]) ∧ Below w.heap.size w w' := by
  have hpl := pair_len s.data.toList
  have hsl : s.data.toList.length = s.size := rfl
  obtain ⟨R, hR⟩ : ∃ R, R = strF (behindB 32 s.data.toList) := ⟨_, rfl⟩
  obtain ⟨T, hT2⟩ : ∃ T, T = strF (trimE (behindB 32 s.data.toList)) := ⟨_, rfl⟩
  have hRl : R.data.toList = behindB 32 s.data.toList := by rw [hR]; rfl
  have hTl : T.data.toList = trimE (behindB 32 s.data.toList) := by rw [hT2]; rfl
  have hRz : R.size ≤ 262144 := by
    have := behind_len 32 s.data.toList
    rw [hR, strF_size]; omega
  have hTz : T.size ≤ 262144 := by
    have h1 := behind_len 32 s.data.toList
    have h2 := trim_len (behindB 32 s.data.toList)
    rw [hT2, strF_size]; omega
  have C1 := Lib.hid fun wx : World => cutBl_any wx s (by omega)
  have C2 := Lib.hid fun wx : World => trim_any wx R (by omega)
  have C3 := Lib.hid fun wx : World => cutEq_any wx T (by omega)
  rw [← hR] at C1
  rw [hRl, ← hT2] at C2
  rw [hTl] at C3
  obtain ⟨K, hK⟩ : ∃ K, K = strF (pairR s.data.toList).1 := ⟨_, rfl⟩
  obtain ⟨V, hV⟩ : ∃ V, V = strF (pairR s.data.toList).2 := ⟨_, rfl⟩
  have hKl : K.data.toList = (pairR s.data.toList).1 := by rw [hK]; rfl
  have hVl : V.data.toList = (pairR s.data.toList).2 := by rw [hV]; rfl
  have hKV : K.size + V.size ≤ 262144 := by
    rw [hK, hV, strF_size, strF_size]; omega
  rw [show strF ((trimE (behindB 32 s.data.toList)).takeWhile (· != 61)) = K from hK.symm, show strF (behindB 61 (trimE (behindB 32 s.data.toList))) = V from hV.symm] at C3
  have HM : Hid (∀ wx : World, Calls Tryz.prog 54 #[pairV K V] wx fun e w' => e = .returned (.bool (decide (keyK K.data.toList))) ∧ Below wx.heap.size wx w') := Lib.hid fun wx => cmay_any wx K V
  have HTB : Hid (∀ wx : World, Below w.heap.size w wx → Tabs wx) := Lib.hid fun wx hb => hT.below hb
  have HR : Hid (∀ wx : World, Below w.heap.size w wx → Calls Tryz.prog 56 #[pairV K V] wx fun e w' => e = .returned (.string (strF (recL (K.data.toList, V.data.toList)))) ∧ Below wx.heap.size wx w') := Lib.hid fun wx hb => crecord_any wx (HTB.out _ hb) K V (by omega)
  obtain ⟨X, hX⟩ : ∃ X, X = strF (recL (K.data.toList, V.data.toList)) := ⟨_, rfl⟩
  rw [← hX] at HR
  have hXs := bytes_eql X s
  have hIS : isR s.data.toList ↔ keyK K.data.toList ∧ X = s := by
    unfold isR
    rw [hKl, hX, hKl, hVl]
    show keyK (pairR s.data.toList).1 ∧ recL (pairR s.data.toList) = s.data.toList ↔ _
    constructor
    · rintro ⟨h1, h2⟩
      refine ⟨h1, ?_⟩
      rw [h2, strF_of]
    · rintro ⟨h1, h2⟩
      exact ⟨h1, congrArg (fun t : ByteArray => t.data.toList) h2⟩
  rw [← hK, ← hV]
  obtain ⟨b, hb⟩ : ∃ b, b = decide (isR s.data.toList) := ⟨_, rfl⟩
  rw [← hb]
  have hk0 := blk_new w 56 #[.string ⟨#[]⟩, .string ⟨#[]⟩]
  have HB := Lib.hid (show Below w.heap.size w (w.alloc (.cells #[.string ⟨#[]⟩, .string ⟨#[]⟩] 56)) from (Below.refl _ _).alloc (Nat.le_refl _) _)
  obtain ⟨g0, hg0⟩ : ∃ g0, g0 = w.heap.size := ⟨_, rfl⟩
  clear hpl hsl hR hT2 hRl hTl hK hV hX hT
  go_enter Tryz.func101, Tryz.ntmps101
  go_upto_region 1 with fail
  generalize w.alloc (.cells #[.string ⟨#[]⟩, .string ⟨#[]⟩] 56) = w2 at *
  rw [← hg0] at hk0 ⊢
  have HK := Lib.hid hk0
  have HG0 := Lib.hid hg0
  clear hk0 hg0
  go_wp2_with fail
  refine (C1.out w2).mono ?_
  rintro e w3 ⟨⟨b1, rfl⟩, d1, hw3⟩
  have HK3 : Hid (Blk w3 g0 56 #[.string ⟨#[]⟩, .string ⟨#[]⟩]) := Lib.hid (by rw [hw3]; exact HK.out)
  have HB3 : Hid (Below w.heap.size w w3) := Lib.hid (by rw [hw3]; exact below_drewN HB.out d1)
  clear hw3 HK HB
  go_wp2_with fail
  refine (C2.out _).mono ?_
  rintro e w4 ⟨rfl, d2, hw4⟩
  have HK4 : Hid (Blk w4 g0 56 #[.string ⟨#[]⟩, .string ⟨#[]⟩]) := Lib.hid (by rw [hw4]; exact HK3.out)
  have HB4 : Hid (Below w.heap.size w w4) := Lib.hid (by rw [hw4]; exact below_drewN HB3.out d2)
  clear hw4 HK3 HB3
  go_wp2_with fail
  refine (C3.out _).mono ?_
  rintro e w5 ⟨⟨b2, rfl⟩, d3, hw5⟩
  have HK5 : Hid (Blk w5 g0 56 #[.string ⟨#[]⟩, .string ⟨#[]⟩]) := Lib.hid (by rw [hw5]; exact HK4.out)
  have HB5 : Hid (Below w.heap.size w w5) := Lib.hid (by rw [hw5]; exact below_drewN HB4.out d3)
  clear hw5 HK4 HB4
  obtain ⟨g1, hg1⟩ : ∃ g1, g1 = w5.heap.size := ⟨_, rfl⟩
  have HKC : Hid (Blk (w5.alloc (.cells #[.string K, .string V] 56)).drew g1 56 #[.string K, .string V]) := Lib.hid (by rw [hg1]; exact blk_new w5 _ _)
  have HKA : Hid (ResB (w5.alloc (.cells #[.string K, .string V] 56)).drew g0) := Lib.hid ⟨_, _, ((Step.refl w5.heap.size [] [] w5).alloc (Nat.le_refl _) _).blk HK5.out List.not_mem_nil List.not_mem_nil⟩
  have HKS : Hid (∀ (wx : World) (u v : Value), Blk wx g1 56 #[.string K, .string V] → Blk ((wx.setCell ⟨g0, 0, none⟩ u).setCell ⟨g0, 1, none⟩ v) g1 56 #[.string K, .string V]) := Lib.hid fun wx u v h => blk_aside h (by have := blk_lt HK5.out; omega) u v
  have HBC := Lib.hid (HB5.out.alloc HB5.out.size (.cells #[.string K, .string V] 56)).drew
  have HKP : Hid (∀ wx : World, Blk wx g1 56 #[.string K, .string V] → ResB wx g0 → wx.cell? ⟨g1, 0, none⟩ = some (.string K) ∧ wx.cell? ⟨g1, 1, none⟩ = some (.string V) ∧ wx.cell? ⟨g0, 0, none⟩ = some (resV wx g0 0) ∧ wx.cell? ⟨g0, 1, none⟩ = some (resV wx g0 1) ∧ wx.frozen? ⟨g0, 0, none⟩ = false ∧ wx.frozen? ⟨g0, 1, none⟩ = false) := Lib.hid fun wx hk ha => ⟨blk_cell hk 0, blk_cell hk 1, ha.cells.1, ha.cells.2.1, ha.cells.2.2.1, ha.cells.2.2.2⟩
  clear HK5 HB5
  go_upto_region 4 with fail
  rw [← hg1]
  clear hg1
  by_cases hk : keyK K.data.toList
  · rw [decide_eq_true hk] at HM
    have hbX : b = decide (X = s) := by
      rw [hb]
      exact decide_eq_decide.2 (hIS.trans ⟨fun h => h.2, fun h => ⟨hk, h⟩⟩)
    rw [← hbX] at hXs
    clear hk hIS hb hbX
    go_region_held3 (fun w' => w'.cell? ⟨g1, 0, none⟩ = some (.string K) ∧ w'.cell? ⟨g1, 1, none⟩ = some (.string V) ∧ w'.cell? ⟨g0, 0, none⟩ = some (resV w' g0 0) ∧ w'.cell? ⟨g0, 1, none⟩ = some (resV w' g0 1) ∧ w'.frozen? ⟨g0, 0, none⟩ = false ∧ w'.frozen? ⟨g0, 1, none⟩ = false)
      (first | exact HKP.out _ HKC.out HKA.out | exact HKP.out _ (HKS.out _ _ _ HKC.out) (HKA.out.store _ _))
      (first
      | (go_at_call 54; refine (HM.out _).mono ?_; rintro e wn ⟨rfl, hb9⟩
         have HK9 := Lib.hid ((step_of_below hb9).blk HKC.out List.not_mem_nil List.not_mem_nil)
         have HA9 := Lib.hid (HKA.out.step hb9)
         have HB9 := Lib.hid (HBC.out.trans (hb9.mono HBC.out.size))
         clear hb9 HKC HBC HKA
         have HKC := HK9
         have HBC := HB9
         have HKA := HA9
         clear HK9 HB9 HA9)
      | (go_at_call 56; refine (HR.out _ HBC.out).mono ?_; rintro e wn ⟨rfl, hb9⟩
         have HK9 := Lib.hid ((step_of_below hb9).blk HKC.out List.not_mem_nil List.not_mem_nil)
         have HA9 := Lib.hid (HKA.out.step hb9)
         have HB9 := Lib.hid (HBC.out.trans (hb9.mono HBC.out.size))
         clear hb9 HKC HBC HKA
         have HKC := HK9
         have HBC := HB9
         have HKA := HA9
         clear HK9 HB9 HA9)
      )
    obtain ⟨e0, e1, f0, f1⟩ := HKA.out.cells
    go_wp2_with fail
    refine bodyPost_ret (v := .tuple #[pairV K V, .bool b]) ?_ rfl ?_
    · simp [results, Tryz.results101, go_sem, e0, e1]
    · exact ⟨rfl, (HBC.out.setCell (p := ⟨g0, 0, none⟩) (by rw [HG0.out]; exact Nat.le_refl _) _).setCell (p := ⟨g0, 1, none⟩) (by rw [HG0.out]; exact Nat.le_refl _) _⟩
  · rw [decide_eq_false hk] at HM
    have hbX : b = false := by
      rw [hb]
      exact decide_eq_false fun h => hk (hIS.1 h).1
    clear hk hIS hb HR hXs
    subst hbX
    refine wp_region_held_drew (S := fun w' => w'.cell? ⟨g1, 0, none⟩ = some (.string K) ∧ w'.cell? ⟨g1, 1, none⟩ = some (.string V) ∧ w'.cell? ⟨g0, 0, none⟩ = some (resV w' g0 0) ∧ w'.cell? ⟨g0, 1, none⟩ = some (resV w' g0 1) ∧ w'.frozen? ⟨g0, 0, none⟩ = false ∧ w'.frozen? ⟨g0, 1, none⟩ = false) (by kernel_rfl) (HKP.out _ HKC.out HKA.out) (fun hHeld => ?_)
    refine wpAnyH_take (i := 0) (v := pairV K V) rfl (by kernel_rfl) (by kernel_rfl) (by kernel_rfl) (fun _ _ _ h => h) (Or.inl ⟨by rfl, fun wq hSw => by (try dsimp only at hSw); obtain ⟨s0, s1, s2, s3, s4, s5⟩ := hSw; go_simp⟩) (by assumption) ?_
    (try simp only [List.getElem_toArray, List.getElem_cons_zero, Act.put, List.setIfInBounds_toArray, List.set_cons_zero, List.set_cons_succ])
    refine wpAnyH_take (i := 1) (v := pairV K V) rfl (by kernel_rfl) (by kernel_rfl) (by kernel_rfl) (fun _ _ _ h => h) (Or.inl ⟨by rfl, fun wq hSw => by (try dsimp only at hSw); obtain ⟨s0, s1, s2, s3, s4, s5⟩ := hSw; go_simp⟩) (by assumption) ?_
    (try simp only [List.getElem_toArray, List.getElem_cons_succ, List.getElem_cons_zero, Act.put, List.setIfInBounds_toArray, List.set_cons_zero, List.set_cons_succ])
    refine wpAnyH_ready (rs := [2]) (by kernel_rfl) (by simp) (AllReadyH.cons rfl (fun KK hK => ?_) AllReadyH.nil)
    go_simp
    go_at_call 54
    refine (HM.out _).mono ?_
    rintro e wn ⟨rfl, hb9⟩
    have HKC2 := Lib.hid ((step_of_below hb9).blk HKC.out List.not_mem_nil List.not_mem_nil)
    have HKA2 := Lib.hid (HKA.out.step hb9)
    have HBC2 := Lib.hid (HBC.out.trans (hb9.mono HBC.out.size))
    have hS2 := HKP.out wn HKC2.out HKA2.out
    dsimp only
    refine hK.out _ _ hS2 (fun hHeld2 => ?_)
    clear hK hb9 hHeld
    (try simp only [List.getElem_toArray, List.getElem_cons_succ, List.getElem_cons_zero, Act.put, List.setIfInBounds_toArray, List.set_cons_zero, List.set_cons_succ])
    refine wpAnyH_take (i := 3) (v := .bool false) rfl (by kernel_rfl) (by kernel_rfl) (by kernel_rfl) (fun _ _ _ h => h) (Or.inl ⟨by rfl, fun wq _ => by go_simp⟩) (by assumption) ?_
    (try simp only [List.getElem_toArray, List.getElem_cons_succ, List.getElem_cons_zero, Act.put, List.setIfInBounds_toArray, List.set_cons_zero, List.set_cons_succ])
    refine wpAnyH_take (i := 4) (v := undef) rfl (by kernel_rfl) (by kernel_rfl) (by kernel_rfl) (fun _ _ _ h => h) (Or.inr ⟨by rfl, rfl⟩) (by assumption) ?_
    (try simp only [List.getElem_toArray, List.getElem_cons_succ, List.getElem_cons_zero, Act.put, List.setIfInBounds_toArray, List.set_cons_zero, List.set_cons_succ])
    refine wpAnyH_take (i := 5) (v := undef) rfl (by kernel_rfl) (by kernel_rfl) (by kernel_rfl) (fun _ _ _ h => h) (Or.inr ⟨by rfl, rfl⟩) (by assumption) ?_
    (try simp only [List.getElem_toArray, List.getElem_cons_succ, List.getElem_cons_zero, Act.put, List.setIfInBounds_toArray, List.set_cons_zero, List.set_cons_succ])
    refine wpAnyH_take (i := 6) (v := undef) rfl (by kernel_rfl) (by kernel_rfl) (by kernel_rfl) (fun _ _ _ h => h) (Or.inr ⟨by rfl, rfl⟩) (by assumption) ?_
    (try simp only [List.getElem_toArray, List.getElem_cons_succ, List.getElem_cons_zero, Act.put, List.setIfInBounds_toArray, List.set_cons_zero, List.set_cons_succ])
    refine wpAnyH_take (i := 7) (v := undef) rfl (by kernel_rfl) (by kernel_rfl) (by kernel_rfl) (fun _ _ _ h => h) (Or.inr ⟨by rfl, rfl⟩) (by assumption) ?_
    (try simp only [List.getElem_toArray, List.getElem_cons_succ, List.getElem_cons_zero, Act.put, List.setIfInBounds_toArray, List.set_cons_zero, List.set_cons_succ])
    refine wpAnyH_take (i := 8) (v := .bool false) rfl (by kernel_rfl) (by kernel_rfl) (by kernel_rfl) (fun _ _ _ h => h) (Or.inl ⟨by rfl, fun wq _ => by go_simp⟩) (by assumption) ?_
    (try simp only [List.getElem_toArray, List.getElem_cons_succ, List.getElem_cons_zero, Act.put, List.setIfInBounds_toArray, List.set_cons_zero, List.set_cons_succ])
    refine wpAnyH_ready (rs := [9]) (by kernel_rfl) (by simp) (AllReadyH.cons rfl (fun KK2 hK2 => ?_) AllReadyH.nil)
    obtain ⟨s0, s1, s2, s3, s4, s5⟩ := hS2
    go_simp
    refine hK2.out _ _ (HKP.out _ (HKS.out _ _ _ HKC2.out) (HKA2.out.store _ _)) (fun hHeld3 => ?_)
    clear hK2
    (try simp only [List.getElem_toArray, List.getElem_cons_succ, List.getElem_cons_zero, Act.put, List.setIfInBounds_toArray, List.set_cons_zero, List.set_cons_succ])
    refine wpAnyH_take (i := 10) (v := .bool false) rfl (by kernel_rfl) (by kernel_rfl) (by kernel_rfl) (fun _ _ _ h => h) (Or.inl ⟨by rfl, fun wq _ => by go_simp⟩) (by assumption) ?_
    (try simp only [List.getElem_toArray, List.getElem_cons_succ, List.getElem_cons_zero, Act.put, List.setIfInBounds_toArray, List.set_cons_zero, List.set_cons_succ])
    refine wpAnyH_done (by kernel_rfl) ?_ _
    go_wp2_with fail
    refine bodyPost_ret (v := .tuple #[pairV K V, .bool false]) ?_ rfl ?_
    · simp [results, Tryz.results101, go_sem, s2, s3]
    · exact ⟨rfl, (HBC2.out.setCell (p := ⟨g0, 0, none⟩) (by rw [HG0.out]; exact Nat.le_refl _) _).setCell (p := ⟨g0, 1, none⟩) (by rw [HG0.out]; exact Nat.le_refl _) _⟩
end Go.Proofs.YtdjmfkodjjjhfaaGreatDoor
/- What is asked of pax's functions (PaxDone); the answers that the document fixes; PaxLasts walked. Written ahead of stage 17. -/
namespace Go.Proofs.YtdjmfkodjjjhfaaGreatDoor
open Go.RowKit

def pencA (l : List PairL) : List UInt8 × Nat := if keysK l then (flatP l, 0) else ([], 170)
/-- Decode's answer: the pairs whose text it is, or none. -/
def DecPost (w : World) (t : ByteArray) (e : Ending) (w' : World) : Prop :=
  (∃ A n c L, e = .returned (.tuple #[.slice A n c, .int .i64 0]) ∧ t.size ≤ 262144 ∧ keysK (L.map toL) ∧ flatP (L.map toL) = t.data.toList ∧ n ≤ c ∧ c ≤ maxLen ∧ PIn w' A n L ∧ Below w.heap.size w w') ∨
  ∃ A c, e = .returned (.tuple #[.slice A 0 c, .int .i64 (if 262144 < t.size then 3 else 170 : Nat)]) ∧ c ≤ maxLen ∧ (∀ l, keysK l → flatP l = t.data.toList → 262144 < t.size) ∧ Below w.heap.size w w'
/-- What is asked of the code's functions. -/
structure PaxDone : Prop where
  encode : ∀ (w : World), Tabs w → ∀ (A : Option Addr) (n c : Nat) (L : List PairB), PIn w A n L → n ≤ maxLen → (flatP (L.map toL)).length ≤ 20000 → Calls Tryz.prog 29 #[.slice A n c] w fun e w' => e = .returned (.tuple #[.string (strF (pencA (L.map toL)).1), .int .i64 (pencA (L.map toL)).2]) ∧ Below w.heap.size w w'
  decode : ∀ (w : World), Tabs w → ∀ (t : ByteArray), t.size ≤ maxLen → Calls Tryz.prog 62 #[.string t] w (DecPost w t)
  last : ∀ (w : World) (A : Option Addr) (n c : Nat) (L : List PairB) (k : ByteArray), PIn w A n L → n ≤ maxLen → Calls Tryz.prog 64 #[.slice A n c, .string k] w fun e w' => e = .returned (.tuple #[.string (optS (lastA k L none)), .bool (optB (lastA k L none))]) ∧ Below w.heap.size w w'

def pathB : ByteArray := ⟨#[112, 97, 116, 104]⟩
def twoB : List PairB := [(pathB, ⟨#[97]⟩), (pathB, ⟨#[97, 98]⟩)]
theorem decL9 : decL 9 = [57] := by rw [decL]; rfl
theorem decL11 : decL 11 = [49, 49] := by rw [decL, if_neg (by decide), decL]; rfl
theorem rec_a : recL (toL (pathB, ⟨#[97]⟩)) = [57, 32, 112, 97, 116, 104, 61, 97, 10] := by
  rw [recL, show recN (toL (pathB, ⟨#[97]⟩)) = 9 from rfl, decL9]
  rfl
theorem rec_ab : recL (toL (pathB, ⟨#[97, 98]⟩)) = [49, 49, 32, 112, 97, 116, 104, 61, 97, 98, 10] := by
  rw [recL, show recN (toL (pathB, ⟨#[97, 98]⟩)) = 11 from rfl, decL11]
  rfl
theorem flat_two : flatP (twoB.map toL) = [57, 32, 112, 97, 116, 104, 61, 97, 10, 49, 49, 32, 112, 97, 116, 104, 61, 97, 98, 10] := by
  show recL (toL (pathB, ⟨#[97]⟩)) ++ (recL (toL (pathB, ⟨#[97, 98]⟩)) ++ []) = _
  rw [rec_a, rec_ab]
  rfl
set_option maxRecDepth 100000 in
theorem keys_two : keysK (twoB.map toL) := by
  intro p hp
  have hk : keyK pathB.data.toList := by decide
  rcases List.mem_cons.1 (show p ∈ [toL (pathB, ⟨#[97]⟩), toL (pathB, ⟨#[97, 98]⟩)] from hp) with h | h
  · rw [h]; exact hk
  · rw [List.mem_singleton.1 h]; exact hk
theorem toL_inj : ∀ (l m : List PairB), l.map toL = m.map toL → l = m
  | [], [], _ => rfl
  | [], _ :: _, h => by cases h
  | _ :: _, [], h => by cases h
  | p :: l, q :: m, h => by
    rw [List.map_cons, List.map_cons] at h
    obtain ⟨h1, h2⟩ := List.cons.inj h
    have e1 : p.1.data.toList = q.1.data.toList := congrArg Prod.fst h1
    have e2 : p.2.data.toList = q.2.data.toList := congrArg Prod.snd h1
    rw [toL_inj l m h2, show p = q from Prod.ext (ByteArray.ext (Array.toList_inj.1 e1)) (ByteArray.ext (Array.toList_inj.1 e2))]
/-- The pairs of a text are one list. -/
theorem pairs_one {L M : List PairB} (hL : keysK (L.map toL)) (hM : keysK (M.map toL)) (h : flatP (L.map toL) = flatP (M.map toL)) (hs : (flatP (L.map toL)).length ≤ 999990) : L = M :=
  toL_inj L M (flat_inj _ _ hL hM (short_of_flat _ hs) (short_of_flat _ (by rw [← h]; exact hs)) h)
theorem not_nine (l : List PairL) (hk : keysK l) : flatP l ≠ [57, 32, 112, 97, 116, 104, 61, 97, 98, 10] := by
  intro h
  have hs := short_of_flat l (by rw [h]; decide)
  cases l with
  | nil => cases h
  | cons p l =>
    have h1 := read_rec p (flatP l) (hk p List.mem_cons_self) (hs p List.mem_cons_self)
    rw [show recL p ++ flatP l = [57, 32, 112, 97, 116, 104, 61, 97, 98, 10] from h] at h1
    have e1 : readR [57, 32, 112, 97, 116, 104, 61, 97, 98, 10] = (([112, 97, 116, 104], [97]), [10]) := by decide +kernel
    rw [e1] at h1
    have e2 : ([112, 97, 116, 104], [97]) = p := congrArg Prod.fst h1
    have e3 : [10] = flatP l := congrArg Prod.snd h1
    have h2 : recL p ++ flatP l = [57, 32, 112, 97, 116, 104, 61, 97, 98, 10] := h
    rw [← e2, show recL ([112, 97, 116, 104], [97]) = [57, 32, 112, 97, 116, 104, 61, 97, 10] from rec_a, ← e3] at h2
    exact absurd h2 (by decide)

set_option maxRecDepth 100000 in
theorem two_in (w : World) : PIn (w.alloc (.cells #[.string ⟨#[112, 97, 116, 104]⟩, .string ⟨#[97]⟩, .string ⟨#[112, 97, 116, 104]⟩, .string ⟨#[97, 98]⟩] 56)) (some ⟨w.heap.size, 0, none⟩) 2 twoB := by
  refine ⟨rfl, fun _ => ⟨w.heap.size, 0, rfl, fun i hi => ?_⟩⟩
  have hc : ∀ j, (w.alloc (.cells #[.string ⟨#[112, 97, 116, 104]⟩, .string ⟨#[97]⟩, .string ⟨#[112, 97, 116, 104]⟩, .string ⟨#[97, 98]⟩] 56)).cell? ⟨w.heap.size, j, none⟩ = (#[Value.string ⟨#[112, 97, 116, 104]⟩, .string ⟨#[97]⟩, .string ⟨#[112, 97, 116, 104]⟩, .string ⟨#[97, 98]⟩] : Array Value)[j]? := fun j => by
    rw [World.cell?_alloc_new]
  rcases (show i = 0 ∨ i = 1 by omega) with rfl | rfl
  · exact ⟨hc 0, hc 1⟩
  · exact ⟨hc 2, hc 3⟩

section
variable (R : PaxDone)
include R
end
end Go.Proofs.YtdjmfkodjjjhfaaGreatDoor
/- Pax's code: Encode. Conditions: records of at most 20000 bytes together; the tables are there. -/
namespace Go.Proofs.YtdjmfkodjjjhfaaGreatDoor
open Go.RowKit

set_option maxRecDepth 100000 in
theorem xconv_row {w : World} {B : Nat} {v : Value} {l : List UInt8} (h : w.ownsRow B 5 1 v l.length (l.map bv)) : (convert 80 9 v).run Tryz.prog w = .ok (.string ⟨l.toArray⟩) w := by
  rcases h.2 with ⟨rfl, h0⟩ | ⟨g, cap, cur, rfl, _⟩
  · have : l = [] := List.eq_nil_of_length_eq_zero h0
    subst this
    exact run_convert_bytes_nil w 80 5 Tryz.underlying80 Tryz.underlying5 0 0 9 Tryz.underlying9
  · have hn : ∀ j (hj : j < l.length), w.cell? ((⟨g, 0, none⟩ : Addr).add j) = some (.int .u8 (l[j].toNat : Int)) := by
      intro j hj
      have h1 := h.cells (g := g) rfl j (.int .u8 (l[j].toNat : Int))
      exact h1 (by rw [List.getElem?_map, List.getElem?_eq_getElem hj]; rfl)
    exact run_convert_bytes_back w 80 9 5 ⟨g, 0, none⟩ cap l Tryz.underlying80 Tryz.underlying5 Tryz.underlying9 hn
theorem keys_next (L : List PairB) (q : Nat) (hq : q < L.length) (h : keysK ((L.map toL).take q)) (hk : keyK (L.getD q noB).1.data.toList) : keysK ((L.map toL).take (q + 1)) := by
  rw [List.take_succ_eq_append_getElem (by rw [List.length_map]; exact hq), List.getElem_map]
  refine keysK_append h fun p hp => ?_
  rw [List.mem_singleton.1 hp]
  rw [List.getD_eq_getElem?_getD, List.getElem?_eq_getElem hq] at hk
  exact hk
theorem keys_not (L : List PairB) (q : Nat) (hq : q < L.length) (hk : ¬ keyK (L.getD q noB).1.data.toList) : ¬ keysK (L.map toL) := fun h => by
  rw [List.getD_eq_getElem?_getD, List.getElem?_eq_getElem hq] at hk
  exact hk (h _ (List.mem_map.2 ⟨L[q], List.getElem_mem hq, rfl⟩))
theorem wflat_next (L : List PairB) (q : Nat) (hq : q < L.length) : flatP ((L.map toL).take (q + 1)) = flatP ((L.map toL).take q) ++ recL (toL (L.getD q noB)) := by
  rw [List.take_succ_eq_append_getElem (by rw [List.length_map]; exact hq), List.getElem_map, flatP_append, List.getD_eq_getElem?_getD, List.getElem?_eq_getElem hq]
  exact congrArg (_ ++ ·) (List.append_nil _)
theorem flat_le (l : List PairL) (q : Nat) : (flatP (l.take q)).length ≤ (flatP l).length := by
  have h := flatP_append (l.take q) (l.drop q)
  rw [List.take_append_drop] at h
  rw [h, List.length_append]
  omega
set_option maxHeartbeats 6400000 in
set_option maxRecDepth 1000000 in
theorem cpenc_any (w : World) (hT : Tabs w) (A : Option Addr) (n c : Nat) (L : List PairB) (hI : PIn w A n L) (hn : n ≤ maxLen) (hs : (flatP (L.map toL)).length ≤ 20000) :
    Calls Tryz.prog 29 #[.slice A n c] w fun e w' => e = .returned (.tuple #[.string (strF (pencA (L.map toL)).1), .int .i64 (pencA (L.map toL)).2]) ∧ Below w.heap.size w w' := by
  obtain ⟨i5, h5, hz0', hz1, hz2⟩ := info_parts Tryz.info5
  have hlen := hI.1
  have HI := Lib.hid hI
  have HTB : Hid (∀ wx : World, Below w.heap.size w wx → Tabs wx) := Lib.hid fun wx hb => hT.below hb
  have HKN := Lib.hid (keys_next L)
  have HKX := Lib.hid (keys_not L)
  have HFN := Lib.hid (wflat_next L)
  have HFL := Lib.hid fun q => Nat.le_trans (flat_le (L.map toL) q) hs
  have HALL : Hid ((L.map toL).take n = L.map toL) := Lib.hid (by rw [← hlen, ← List.length_map (f := toL), List.take_length])
  have HP : Hid (∀ (X : List UInt8) (k : Nat) (w' : World), pencA (L.map toL) = (X, k) → Below w.heap.size w w' → (fun e w' => e = Ending.returned (.tuple #[.string (strF (pencA (L.map toL)).1), .int .i64 (pencA (L.map toL)).2]) ∧ Below w.heap.size w w') (.returned (.tuple #[.string (strF X), .int .i64 k])) w') := Lib.hid fun X k w' h hb => ⟨by rw [h], hb⟩
  generalize (fun e w' => e = Ending.returned (.tuple #[.string (strF (pencA (L.map toL)).1), .int .i64 (pencA (L.map toL)).2]) ∧ Below w.heap.size w w') = PO at *
  have HSZ : Hid (∀ q, q < n → (L.getD q noB).1.size + (L.getD q noB).2.size ≤ 20000) := Lib.hid fun q hq => by
    have h1 := HFL.out (q + 1)
    rw [HFN.out q (by omega), List.length_append, recL, List.length_append, prestL_length] at h1
    have h2 : (toL (L.getD q noB)).1.length = (L.getD q noB).1.size := rfl
    have h3 : (toL (L.getD q noB)).2.length = (L.getD q noB).2.size := rfl
    omega
  have HLEN := Lib.hid hlen
  unfold maxLen at hn
  clear hI hlen hT hs
  go_enter Tryz.func29, Tryz.ntmps29
  go_wp2_with fail
  go_loopw [11] (fun sn wx => ∃ q : Nat, sn = .int .i64 q ∧ q ≤ n ∧ Hid (keysK ((L.map toL).take q)) ∧ Below w.heap.size w wx) (fun sn _ => n - (intOf sn).toNat)
  case atStart => exact ⟨0, rfl, Nat.zero_le _, Lib.hid (fun p hp => by simp at hp), Below.refl _ _⟩
  case round =>
    obtain ⟨q, rfl, hqn, hkq, hbx⟩ := hrel
    have HBX := Lib.hid hbx
    by_cases eq : q < n
    · have d0 : decide ((q : Int) < (n : Int)) = true := decide_eq_true (by omega)
      obtain ⟨b, off, hA, hc⟩ := (HI.out.below hbx).2 (by omega)
      obtain ⟨c1, c2⟩ := hc q eq
      have hkn := HKN.out q (by rw [HLEN.out]; exact eq) hkq.out
      have hkx := HKX.out q (by rw [HLEN.out]; exact eq)
      obtain ⟨K, hK⟩ : ∃ K, K = (L.getD q noB).1 := ⟨_, rfl⟩
      obtain ⟨U, hU⟩ : ∃ U, U = (L.getD q noB).2 := ⟨_, rfl⟩
      rw [← hK] at c1 hkn hkx
      rw [← hU] at c2
      have hr := blk_new wr 56 #[.string K, .string U]
      have HB2 := Lib.hid (HBX.out.alloc HBX.out.size (.cells #[.string K, .string U] 56))
      have hz0 : (0 : Int) ≤ (q : Int) := by omega
      have hzn : (q : Int) < (n : Int) := by omega
      subst hA
      clear hc hK hU hbx
      go_upto_region 4 with fail
      generalize wr.alloc (.cells #[.string K, .string U] 56) = w2 at *
      have e0 := (blk_cell hr 0).trans (rfl : _ = some (Value.string K))
      have e1 := (blk_cell hr 1).trans (rfl : _ = some (Value.string U))
      have C1 := Lib.hid (cmay_any w2 K U)
      clear hr
      by_cases ek : keyK K.data.toList
      · have HKN2 := Lib.hid (hkn ek)
        rw [decide_eq_true ek] at C1
        clear ek hkn hkx
        go_wp2_with fail
        refine C1.out.mono ?_
        rintro e w3 ⟨rfl, hb3⟩
        have HB3 := Lib.hid (HB2.out.trans (hb3.mono HB2.out.size))
        clear hb3
        go_wp2_with fail
        go_roundw
        case rel => exact ⟨q + 1, by go_num, by omega, HKN2, HB3.out⟩
        case measure => simp [intOf]; omega
      · have HF := Lib.hid fun w' => HP.out [] 170 w' (if_neg (hkx ek))
        rw [decide_eq_false ek] at C1
        clear ek hkn hkx
        go_wp2_with fail
        refine C1.out.mono ?_
        rintro e w3 ⟨rfl, hb3⟩
        have HB3 := Lib.hid (HF.out w3 (HB2.out.trans (hb3.mono HB2.out.size)))
        clear hb3
        go_wp2_with fail
        exact HB3.out
    · obtain rfl : q = n := by omega
      have d0 : decide ((q : Int) < (q : Int)) = false := decide_eq_false (by omega)
      have HF := Lib.hid fun w' => HP.out (flatP (L.map toL)) 0 w' (if_pos (by rw [← HALL.out]; exact hkq.out))
      clear hkq hqn hbx HKN HKX
      go_wp2_with fail
      go_loopw [6, 21] (fun sv sn wx => ∃ (p : Nat) (A2 : Option Addr) (m c2 : Nat), sv = .slice A2 m c2 ∧ sn = .int .i64 p ∧ p ≤ q ∧ m ≤ 20000 ∧ Hid (wx.ownsRow w.heap.size 5 1 (.slice A2 m c2) m ((flatP ((L.map toL).take p)).map bv)) ∧ Below w.heap.size w wx) (fun _ sn _ => q - (intOf sn).toNat)
      case atStart => exact ⟨0, none, 0, 0, rfl, rfl, Nat.zero_le _, Nat.zero_le _, Lib.hid (World.ownsRow_nil _ _ _ _), HBX.out⟩
      case round =>
        obtain ⟨p, A2, m, c2, rfl, rfl, hpq, hm, hrow, hbx⟩ := hrel
        have HBX := Lib.hid hbx
        by_cases ep : p < q
        · have d0 : decide ((p : Int) < (q : Int)) = true := decide_eq_true (by omega)
          obtain ⟨b, off, hA, hc⟩ := (HI.out.below hbx).2 (by omega)
          obtain ⟨c1, c3⟩ := hc p ep
          have hfn := HFN.out p (by rw [HLEN.out]; exact ep)
          have hfl := HFL.out (p + 1)
          have hsz := HSZ.out p ep
          have hfp := hrow.out.1
          rw [List.length_map] at hfp
          rw [hfn, List.length_append] at hfl
          obtain ⟨P, hP⟩ : ∃ P, P = L.getD p noB := ⟨_, rfl⟩
          rw [← hP] at c1 c3 hfn hfl hsz
          obtain ⟨K, U⟩ := P
          have hrl := recL_length (toL (K, U)) (show K.size + U.size ≤ 999990 by have : K.size + U.size ≤ 20000 := hsz; omega)
          have hsz2 : K.size + U.size ≤ 20000 := hsz
          have c1 : wr.cell? ⟨b, off + p * 2, none⟩ = some (.string K) := c1
          have c3 : wr.cell? ⟨b, off + p * 2 + 1, none⟩ = some (.string U) := c3
          have hr := blk_new wr 56 #[.string K, .string U]
          have hb2 := HBX.out.alloc HBX.out.size (.cells #[.string K, .string U] 56)
          have hbr : Below wr.heap.size wr (wr.alloc (.cells #[.string K, .string U] 56)) := (Below.refl _ _).alloc (Nat.le_refl _) _
          have HROW2 := Lib.hid ((step_of_below hbr).row hrow.out (fun k _ => List.not_mem_nil) List.not_mem_nil)
          have HB2 := Lib.hid hb2
          have hz0 : (0 : Int) ≤ (p : Int) := by omega
          have hzn : (p : Int) < (q : Int) := by omega
          obtain ⟨s, hs⟩ : ∃ s, s = recN (toL (K, U)) := ⟨_, rfl⟩
          obtain ⟨X, hX⟩ : ∃ X, X = strF (recL (toL (K, U))) := ⟨_, rfl⟩
          have hXz : X.size = s := by rw [hX, strF_size, hrl, hs]
          have hXl : X.data.toList = recL (toL (K, U)) := by rw [hX]; rfl
          have CZ : Hid (∀ wx : World, Below w.heap.size w wx → Calls Tryz.prog 55 #[pairV K U] wx fun e w' => e = .returned (.int .i64 s) ∧ Below wx.heap.size wx w') := Lib.hid fun wx hb => by rw [hs]; exact csize_any wx (HTB.out _ hb) K U (by omega)
          have CR : Hid (∀ wx : World, Below w.heap.size w wx → Calls Tryz.prog 56 #[pairV K U] wx fun e w' => e = .returned (.string X) ∧ Below wx.heap.size wx w') := Lib.hid fun wx hb => by rw [hX]; exact crecord_any wx (HTB.out _ hb) K U (by omega)
          rw [← hXl] at hfn
          rw [hrl, ← hs] at hfl
          have hms : m + s ≤ 20000 := by omega
          have t1 : decide (((262144 : Int) - (m : Int)) < (s : Int)) = false := decide_eq_false (by omega)
          have HFN2 := Lib.hid hfn
          subst hA
          clear hc hP hbx hrow hb2 hbr hfn hfl hfp hrl hs hX hXl hsz
          go_upto_region 11 with fail
          generalize wr.alloc (.cells #[.string K, .string U] 56) = w2 at *
          have e0 := (blk_cell hr 0).trans (rfl : _ = some (Value.string K))
          have e1 := (blk_cell hr 1).trans (rfl : _ = some (Value.string U))
          have HR := Lib.hid hr
          clear hr
          go_wp2_with fail
          refine (CZ.out w2 HB2.out).mono ?_
          rintro e w3 ⟨rfl, hb3⟩
          have HB3 := Lib.hid (HB2.out.trans (hb3.mono HB2.out.size))
          have HROW3 := Lib.hid ((step_of_below hb3).row HROW2.out (fun k _ => List.not_mem_nil) List.not_mem_nil)
          have hr3 := (step_of_below hb3).blk HR.out List.not_mem_nil List.not_mem_nil
          have e2 := (blk_cell hr3 0).trans (rfl : _ = some (Value.string K))
          have e3 := (blk_cell hr3 1).trans (rfl : _ = some (Value.string U))
          clear hb3 hr3 HB2 HROW2 HR e0 e1
          go_wp2_with fail
          refine (CR.out w3 HB3.out).mono ?_
          rintro e w4 ⟨rfl, hb4⟩
          have HB4 := Lib.hid (HB3.out.trans (hb4.mono HB3.out.size))
          have hrow4 := (step_of_below hb4).row HROW3.out (fun k _ => List.not_mem_nil) List.not_mem_nil
          have hsize4 := HB4.out.size
          clear hb4 HB3 HROW3 e2 e3
          have HXZ := Lib.hid hXz
          clear hXz
          go_wp2_with (at_builtin; refine Lib.wpList_append_own_string _ rfl _ _ 80 9 rfl w.heap.size 5 i5 Tryz.underlying80 Tryz.underlying9 h5 hz0' hz1 hz2 _ _ _ rfl hrow4 X rfl ?c3 ?c4 ?c5 ?_)
          case c3 => have := HXZ.out; unfold maxLen; omega
          case c4 => have := HXZ.out; omega
          case c5 => exact hsize4
          intro v5 w5 hown5 hgrow5 _
          have HB5 := Lib.hid (HB4.out.grown hgrow5 hsize4 (fun k hk => (hrow4.lt k hk).1))
          rw [HXZ.out] at hown5
          obtain ⟨A5, c5, rfl, _⟩ := own_slice hown5
          have hown6 : w5.ownsRow w.heap.size 5 1 (.slice A5 (m + s) c5) (m + s) ((flatP ((L.map toL).take (p + 1))).map bv) := by
            rw [HFN2.out, List.map_append]
            exact hown5
          have HOWN := Lib.hid hown6
          clear hown5 hown6 hgrow5 hrow4
          obtain ⟨m2, hm2⟩ : ∃ m2, m2 = m + s := ⟨_, rfl⟩
          rw [← hm2] at HOWN hms ⊢
          clear hm2
          go_wp2_with fail
          go_roundw
          case rel => exact ⟨p + 1, A5, m2, c5, rfl, by go_num, by omega, hms, HOWN, HB5.out⟩
          case measure => simp [intOf]; omega
        · obtain rfl : p = q := by omega
          have d0 : decide ((p : Int) < (p : Int)) = false := decide_eq_false (by omega)
          have hro := hrow.out
          rw [HALL.out] at hro
          have hml : m = (flatP (L.map toL)).length := by
            have := hro.1
            rw [List.length_map] at this
            omega
          have hcv := xconv_row (B := w.heap.size) (v := .slice A2 m c2) (l := flatP (L.map toL)) (by rw [← hml]; exact hro)
          have HG := Lib.hid (HF.out _ hbx)
          clear hro hml hrow hbx
          go_wp2_with fail
          exact HG.out
end Go.Proofs.YtdjmfkodjjjhfaaGreatDoor
