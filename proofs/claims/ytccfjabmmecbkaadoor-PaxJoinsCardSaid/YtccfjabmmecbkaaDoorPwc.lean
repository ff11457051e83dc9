/- Pax's code: mayBe, size, record, cut, pair, Last. Conditions: a pair's texts of at most 999990 bytes together; the tables are there where a size is told. -/
import Derived.Test.YtccfjabmmecbkaaDoorPws
import Derived.Test.YtccfjabmmecbkaaDoorFwg
import Derived.Deep.RegionHeld3
import Derived.Laws.Concat
namespace Go.Proofs.YtccfjabmmecbkaaDoor
open Go.RowKit

abbrev pairV (K V : ByteArray) : Value := .agg #[.string K, .string V]
theorem empty_same (K : ByteArray) : (K.toList == []) = decide (K.data.toList = []) := by
  rw [ByteArray.toList_eq]
  cases K.data.toList <;> rfl
set_option maxHeartbeats 1600000 in
set_option maxRecDepth 100000 in
theorem cmay_any (w : World) (K V : ByteArray) : Calls Tryd.prog 15 #[pairV K V] w fun e w' => e = .returned (.bool (decide (keyK K.data.toList))) ∧ Below w.heap.size w w' := by
  have HC := Lib.hid fun wx : World => contains_any wx K
  have hb0 := blk_new w 36 #[.string K, .string V]
  have HB := Lib.hid (show Below w.heap.size w (w.alloc (.cells #[.string K, .string V] 36)) from (Below.refl _ _).alloc (Nat.le_refl _) _)
  have d0 := empty_same K
  by_cases h0 : K.data.toList = []
  · rw [decide_eq_true h0] at d0
    rw [decide_eq_false (show ¬ keyK K.data.toList from fun h => h.1 h0)]
    clear HC h0
    go_enter Tryd.func15, Tryd.ntmps15
    go_upto_region 1 with fail
    generalize w.alloc (.cells #[.string K, .string V] 36) = w2 at *
    have e0 := (blk_cell hb0 0).trans (rfl : _ = some (Value.string K))
    clear hb0
    go_wp2_with fail
    go_ret
    exact ⟨rfl, HB.out⟩
  · rw [decide_eq_false h0] at d0
    obtain ⟨b, hb⟩ : ∃ b, b = decide ((61 : UInt8) ∈ K.data.toList) := ⟨_, rfl⟩
    have hr : decide (keyK K.data.toList) = !b := by
      rw [hb]
      unfold keyK
      by_cases h1 : (61 : UInt8) ∈ K.data.toList <;> simp [h0, h1]
    rw [← hb] at HC
    rw [hr]
    clear hb hr h0
    go_enter Tryd.func15, Tryd.ntmps15
    go_upto_region 1 with fail
    generalize w.alloc (.cells #[.string K, .string V] 36) = w2 at *
    have e0 := (blk_cell hb0 0).trans (rfl : _ = some (Value.string K))
    clear hb0
    go_wp2_with fail
    refine (HC.out w2).mono ?_
    rintro e w2 ⟨rfl, rfl⟩
    go_wp2_with fail
    go_ret
    exact ⟨rfl, HB.out⟩
theorem pres_size (K V : ByteArray) : (prestL (K.data.toList, V.data.toList)).length = K.size + V.size + 3 := prestL_length _
set_option maxHeartbeats 3200000 in
set_option maxRecDepth 100000 in
theorem csize_any (w : World) (hT : Tabs w) (K V : ByteArray) (h : K.size + V.size ≤ 999980) : Calls Tryd.prog 16 #[pairV K V] w fun e w' => e = .returned (.int .i64 (recN (K.data.toList, V.data.toList))) ∧ Below w.heap.size w w' := by
  obtain ⟨r, hr⟩ : ∃ r, r = K.size + V.size + 3 := ⟨_, rfl⟩
  have HRN : Hid (recN (K.data.toList, V.data.toList) = r + digN r) := Lib.hid (by rw [recN, pres_size, ← hr, Nat.add_comm])
  have hrb : r ≤ 999983 := by omega
  have HST := Lib.hid fun d h1 h2 => dig_step r d (by omega) h1 h2
  have HD6 : Hid (digN r ≤ 6) := Lib.hid (by
    unfold digN
    repeat' split
    all_goals omega)
  obtain ⟨N, hN⟩ : ∃ N, N = digN r := ⟨_, rfl⟩
  rw [← hN] at HD6 HST HRN
  have hn6 := HD6.out
  have HTB : Hid (∀ wx : World, Below w.heap.size w wx → Tabs wx) := Lib.hid fun wx hb => hT.below hb
  have CD : Hid (∀ (wx : World) (d : Nat), Tabs wx → d ≤ 6 → Calls Tryd.prog 21 #[.int .i64 ((r + d : Nat) : Int)] wx fun e w' => e = .returned (.string (strF (decL (r + d)))) ∧ Below wx.heap.size wx w') := Lib.hid fun wx d ht hd => by
    have h := cdigits_any wx ht ((r + d : Nat) : Int) (by omega) (by omega)
    rw [digits_dec] at h
    exact h
  have hb0 := blk_new w 36 #[.string K, .string V]
  have HB := Lib.hid (show Below w.heap.size w (w.alloc (.cells #[.string K, .string V] 36)) from (Below.refl _ _).alloc (Nat.le_refl _) _)
  have hrr : (1 : Int) + (K.size : Int) + 1 + (V.size : Int) + 1 = (r : Int) := by omega
  rw [HRN.out]
  clear hr hT hN
  go_enter Tryd.func16, Tryd.ntmps16
  go_upto_region 1 with fail
  generalize w.alloc (.cells #[.string K, .string V] 36) = w2 at *
  have e0 := (blk_cell hb0 0).trans (rfl : _ = some (Value.string K))
  have e1 := (blk_cell hb0 1).trans (rfl : _ = some (Value.string V))
  clear hb0
  go_wp2_with fail
  go_loopw [4] (fun sn wx => ∃ d : Nat, sn = .int .i64 ((r + d : Nat) : Int) ∧ d ≤ N ∧ Hid (d ≤ (decL (r + d)).length) ∧ Below w.heap.size w wx) (fun sn _ => r + N - (intOf sn).toNat)
  case atStart => exact ⟨0, by go_num, Nat.zero_le _, Lib.hid (Nat.zero_le _), HB.out⟩
  case round =>
    obtain ⟨d, rfl, hdn, hdi, hbx⟩ := hrel
    have HBX := Lib.hid hbx
    have hs := HST.out d hdn hdi.out
    have C1 := Lib.hid (CD.out wr d (HTB.out _ hbx) (by omega))
    have C2 := Lib.hid fun (wx : World) (hb : Below w.heap.size w wx) => CD.out wx d (HTB.out _ hb) (by omega)
    obtain ⟨q, hq⟩ : ∃ q, q = (decL (r + d)).length := ⟨_, rfl⟩
    have hDz : (strF (decL (r + d))).size = q := by rw [strF_size, hq]
    rw [← hq] at hs
    obtain ⟨D, hD⟩ : ∃ D, D = strF (decL (r + d)) := ⟨_, rfl⟩
    rw [← hD] at C1 C2 hDz
    obtain ⟨m, hm⟩ : ∃ m, m = r + d := ⟨_, rfl⟩
    rw [← hm] at C1 C2 ⊢
    have HMM := Lib.hid hm
    obtain ⟨s1, s2, s3⟩ := hs
    have HDZ := Lib.hid hDz
    have hDb : D.size ≤ 6 := by omega
    clear e0 e1 hrr hq hD hbx hdi hDz hm
    by_cases ed : d < q
    · have HN3 := Lib.hid (s3 ed)
      have t1 : decide ((m : Int) < (r : Int) + (D.size : Int)) = true := decide_eq_true (by have := HDZ.out; have := HMM.out; omega)
      clear s2 s3
      go_wp2_with fail
      refine C1.out.mono ?_
      rintro e w3 ⟨rfl, hb3⟩
      have HB3 := Lib.hid (HBX.out.trans (hb3.mono HBX.out.size))
      clear hb3
      go_wp2_with fail
      refine (C2.out w3 HB3.out).mono ?_
      rintro e w4 ⟨rfl, hb4⟩
      have HB4 := Lib.hid (HB3.out.trans (hb4.mono HB3.out.size))
      clear hb4
      go_wp2_with fail
      go_roundw
      case rel => exact ⟨q, by rw [HDZ.out]; go_num, by omega, Lib.hid HN3.out, HB4.out⟩
      case measure => have := HDZ.out; have := HMM.out; simp [intOf]; omega
    · have t1 : decide ((m : Int) < (r : Int) + (D.size : Int)) = false := decide_eq_false (by have := HDZ.out; have := HMM.out; omega)
      have hdN := s2 (by omega)
      have HM : Hid (m = r + N) := Lib.hid (by have := HMM.out; omega)
      clear s3 hdN
      go_wp2_with fail
      refine C1.out.mono ?_
      rintro e w3 ⟨rfl, hb3⟩
      have HB3 := Lib.hid (HBX.out.trans (hb3.mono HBX.out.size))
      clear hb3
      go_wp2_with fail
      go_ret
      exact ⟨by rw [HM.out]; rfl, HB3.out⟩

set_option maxHeartbeats 3200000 in
set_option maxRecDepth 100000 in
theorem crecord_any (w : World) (hT : Tabs w) (K V : ByteArray) (h : K.size + V.size ≤ 999980) : Calls Tryd.prog 17 #[pairV K V] w fun e w' => e = .returned (.string (strF (recL (K.data.toList, V.data.toList)))) ∧ Below w.heap.size w w' := by
  obtain ⟨n, hn⟩ : ∃ n, n = recN (K.data.toList, V.data.toList) := ⟨_, rfl⟩
  have hlen := recL_length (K.data.toList, V.data.toList) (show K.size + V.size ≤ 999990 by omega)
  have hnb : n ≤ 999999 := by
    rw [hn, recN, pres_size]
    have : digN (K.size + V.size + 3) ≤ 6 := by
      unfold digN
      repeat' split
      all_goals omega
    omega
  have HTB : Hid (∀ wx : World, Below w.heap.size w wx → Tabs wx) := Lib.hid fun wx hb => hT.below hb
  have CS : Hid (∀ wx : World, Below w.heap.size w wx → Calls Tryd.prog 16 #[pairV K V] wx fun e w' => e = .returned (.int .i64 n) ∧ Below wx.heap.size wx w') := Lib.hid fun wx hb => by rw [hn]; exact csize_any wx (hT.below hb) K V h
  have CD : Hid (∀ wx : World, Below w.heap.size w wx → Calls Tryd.prog 21 #[.int .i64 n] wx fun e w' => e = .returned (.string (strF (decL n))) ∧ Below wx.heap.size wx w') := Lib.hid fun wx hb => by
    have h := cdigits_any wx (hT.below hb) (n : Int) (by omega) (by omega)
    rw [digits_dec] at h
    exact h
  have hdz : (strF (decL n)).size ≤ 999999 := by
    rw [strF_size]
    have : recL (K.data.toList, V.data.toList) = decL n ++ prestL (K.data.toList, V.data.toList) := by rw [hn]; rfl
    rw [this, List.length_append, ← hn] at hlen
    omega
  have HC : Hid (strF (decL n) ++ ⟨#[32]⟩ ++ K ++ ⟨#[61]⟩ ++ V ++ ⟨#[10]⟩ = strF (recL (K.data.toList, V.data.toList))) := Lib.hid (by
    apply ByteArray.ext
    apply Array.toList_inj.1
    simp [recL, prestL, strF, hn])
  generalize strF (recL (K.data.toList, V.data.toList)) = X at *
  generalize strF (decL n) = D at *
  have hb0 := blk_new w 36 #[.string K, .string V]
  have HB := Lib.hid (show Below w.heap.size w (w.alloc (.cells #[.string K, .string V] 36)) from (Below.refl _ _).alloc (Nat.le_refl _) _)
  have hca : ∀ (w9 : World) (a b : ByteArray), a.size + b.size ≤ 9223372036854775807 → (Op.stringOp .add a b).run Tryd.prog w9 = .ok (.string (a ++ b)) w9 := fun w9 a b h => run_string_add_sum w9 a b h
  have z0 : ∀ (x : UInt8), (⟨#[x]⟩ : ByteArray).size = 1 := fun x => rfl
  have z1 : (D ++ ⟨#[32]⟩).size = D.size + 1 := ByteArray.size_append
  have z2 : (D ++ ⟨#[32]⟩ ++ K).size = D.size + 1 + K.size := by rw [ByteArray.size_append, z1]
  have z3 : (D ++ ⟨#[32]⟩ ++ K ++ ⟨#[61]⟩).size = D.size + 1 + K.size + 1 := by rw [ByteArray.size_append, z2]; rfl
  have z4 : (D ++ ⟨#[32]⟩ ++ K ++ ⟨#[61]⟩ ++ V).size = D.size + 1 + K.size + 1 + V.size := by rw [ByteArray.size_append, z3]
  have hc1 := fun w9 => hca w9 D ⟨#[32]⟩ (by rw [z0]; omega)
  have hc2 := fun w9 => hca w9 (D ++ ⟨#[32]⟩) K (by rw [z1]; omega)
  have hc3 := fun w9 => hca w9 (D ++ ⟨#[32]⟩ ++ K) ⟨#[61]⟩ (by rw [z2, z0]; omega)
  have hc4 := fun w9 => hca w9 (D ++ ⟨#[32]⟩ ++ K ++ ⟨#[61]⟩) V (by rw [z3]; omega)
  have hc5 := fun w9 => hca w9 (D ++ ⟨#[32]⟩ ++ K ++ ⟨#[61]⟩ ++ V) ⟨#[10]⟩ (by rw [z4, z0]; omega)
  clear hT hn hlen hca z0 z1 z2 z3 z4
  go_enter Tryd.func17, Tryd.ntmps17
  go_upto_region 1 with fail
  have HKC := Lib.hid hb0
  have HBC := Lib.hid HB.out.drew
  have HKC2 : Hid (Blk (w.alloc (.cells #[.string K, .string V] 36)).drew w.heap.size 36 #[.string K, .string V]) := HKC
  clear hb0 HKC HB
  have HKC := HKC2
  clear HKC2
  have HKP : Hid (∀ wx : World, Blk wx w.heap.size 36 #[.string K, .string V] → wx.cell? ⟨w.heap.size, 0, none⟩ = some (.string K) ∧ wx.cell? ⟨w.heap.size, 1, none⟩ = some (.string V)) := Lib.hid fun wx hk => ⟨blk_cell hk 0, blk_cell hk 1⟩
  go_region_held3 (fun w' => w'.cell? ⟨w.heap.size, 0, none⟩ = some (.string K) ∧ w'.cell? ⟨w.heap.size, 1, none⟩ = some (.string V))
    (first | exact HKP.out _ HKC.out)
    (first
      | (go_at_call 16; refine (CS.out _ HBC.out).mono ?_; rintro e wn ⟨rfl, hb9⟩
         have HK9 := Lib.hid ((step_of_below hb9).blk HKC.out List.not_mem_nil List.not_mem_nil)
         have HB9 := Lib.hid (HBC.out.trans (hb9.mono HBC.out.size))
         clear hb9 HKC HBC
         have HKC := HK9
         have HBC := HB9
         clear HK9 HB9)
      | (go_at_call 21; refine (CD.out _ HBC.out).mono ?_; rintro e wn ⟨rfl, hb9⟩
         have HK9 := Lib.hid ((step_of_below hb9).blk HKC.out List.not_mem_nil List.not_mem_nil)
         have HB9 := Lib.hid (HBC.out.trans (hb9.mono HBC.out.size))
         clear hb9 HKC HBC
         have HKC := HK9
         have HBC := HB9
         clear HK9 HB9))
  rw [HC.out]
  go_wp2_with fail
  go_ret
  exact ⟨rfl, HBC.out⟩

set_option maxHeartbeats 1600000 in
set_option maxRecDepth 100000 in
theorem ccutr_any (w : World) (s : ByteArray) (hs : s.size ≤ 262144) : Calls Tryd.prog 18 #[.string s] w fun e w' => e = .returned (.string (strF (cutR s.data.toList))) ∧ Below w.heap.size w w' := by
  have C1 := Lib.hid (cutBl_any w s (by omega))
  obtain ⟨T, hT⟩ : ∃ T, T = strF (s.data.toList.takeWhile (· != 32)) := ⟨_, rfl⟩
  have hTz : T.size ≤ 262144 := by
    have h1 := (List.takeWhile_sublist (· != (32 : UInt8)) (l := s.data.toList)).length_le
    have h2 : s.data.toList.length = s.size := rfl
    rw [hT, strF_size]
    omega
  have C2 := Lib.hid fun wx : World => cdecimal_any wx T (by omega)
  have hTl : T.data.toList = s.data.toList.takeWhile (· != 32) := by rw [hT]; rfl
  rw [← hT] at C1
  rw [hTl] at C2
  have hsl : s.data.toList.length = s.size := rfl
  unfold cutR
  rw [hsl]
  generalize decimalA (s.data.toList.takeWhile (· != 32)) = E at *
  obtain ⟨n, x⟩ := E
  dsimp only at C2 ⊢
  generalize strF (behindB 32 s.data.toList) = R at *
  clear hT hTl hsl
  by_cases ex : x = 0
  · have t0 : ((x : Int) != 0) = false := by rw [ex]; rfl
    by_cases en : s.size < n
    · have t1 : decide ((s.size : Int) < (n : Int)) = true := decide_eq_true (by omega)
      rw [if_pos (.inr en)]
      clear ex
      go_enter Tryd.func18, Tryd.ntmps18
      go_wp2_with fail
      refine C1.out.mono ?_
      rintro e w2 ⟨⟨b, rfl⟩, d, rfl⟩
      have HB := Lib.hid (below_drewN (Below.refl w.heap.size w) d)
      generalize w.drewN d = w2 at *
      go_wp2_with fail
      refine (C2.out w2).mono ?_
      rintro e w3 ⟨rfl, hb3⟩
      have HB3 := Lib.hid (HB.out.trans (hb3.mono HB.out.size))
      clear hb3
      go_wp2_with fail
      go_ret
      exact ⟨rfl, HB3.out⟩
    · have t1 : decide ((s.size : Int) < (n : Int)) = false := decide_eq_false (by omega)
      have c1 : (n : Int) ≤ (s.size : Int) := by omega
      rw [if_neg (by rintro (h | h); exact h ex; exact en h), ← extF_front]
      clear ex
      go_enter Tryd.func18, Tryd.ntmps18
      go_wp2_with fail
      refine C1.out.mono ?_
      rintro e w2 ⟨⟨b, rfl⟩, d, rfl⟩
      have HB := Lib.hid (below_drewN (Below.refl w.heap.size w) d)
      generalize w.drewN d = w2 at *
      go_wp2_with fail
      refine (C2.out w2).mono ?_
      rintro e w3 ⟨rfl, hb3⟩
      have HB3 := Lib.hid (HB.out.trans (hb3.mono HB.out.size))
      clear hb3
      go_wp2_with fail
      go_ret
      exact ⟨rfl, HB3.out⟩
  · have t0 : ((x : Int) != 0) = true := bne_iff_ne.2 (by omega)
    rw [if_pos (.inl ex)]
    clear ex
    go_enter Tryd.func18, Tryd.ntmps18
    go_wp2_with fail
    refine C1.out.mono ?_
    rintro e w2 ⟨⟨b, rfl⟩, d, rfl⟩
    have HB := Lib.hid (below_drewN (Below.refl w.heap.size w) d)
    generalize w.drewN d = w2 at *
    go_wp2_with fail
    refine (C2.out w2).mono ?_
    rintro e w3 ⟨rfl, hb3⟩
    have HB3 := Lib.hid (HB.out.trans (hb3.mono HB.out.size))
    clear hb3
    go_wp2_with fail
    go_ret
    exact ⟨rfl, HB3.out⟩
end Go.Proofs.YtccfjabmmecbkaaDoor
