/- The reference of bwt, walked: Forward. -/
import Derived.Test.YtglcideecelemaaBr
namespace Go.Proofs.Ytglcideecelemaa
open Go.RowKit

set_option maxRecDepth 100000 in
theorem rfwd_none (w : World) : Calls Try.prog 10 #[.string ⟨#[]⟩] w fun e w' => e = .returned (.tuple #[.string ⟨#[]⟩, .int .i64 0, .int .i64 2]) ∧ w = w' := by
  go_enter Try.func10, Try.ntmps10
  go_wp2_with fail
  go_ret3
  exact ⟨rfl, rfl⟩

set_option maxRecDepth 100000 in
theorem rfwd_big (w : World) (s : ByteArray) (hs : 262144 < s.size) : Calls Try.prog 10 #[.string s] w fun e w' => e = .returned (.tuple #[.string ⟨#[]⟩, .int .i64 0, .int .i64 3]) ∧ w = w' := by
  have d0 : decide ((262144 : Int) < (s.size : Int)) = true := decide_eq_true (by omega)
  have hne := not_empty s (by omega)
  go_enter Try.func10, Try.ntmps10
  go_wp2_with fail
  go_ret3
  exact ⟨rfl, rfl⟩

set_option maxHeartbeats 1600000 in
set_option maxRecDepth 100000 in
theorem rfwd_any (w : World) (s : ByteArray) (h0 : 0 < s.size) (hs : s.size ≤ 262144) : Calls Try.prog 10 #[.string s] w (FwdPost w s.data.toList) := by
  have d0 : decide ((262144 : Int) < (s.size : Int)) = false := decide_eq_false (by omega)
  have hne := not_empty s h0
  have HSL := Lib.hid (show s.data.toList.length = s.size from rfl)
  have HO := Lib.hid (rord_any w s (by omega))
  have hs6 : s.size ≤ 1000000 := by omega
  clear hs
  go_enter Try.func10, Try.ntmps10
  go_wp2_with fail
  refine HO.out.mono ?_
  rintro e w2 ⟨A, c, L, rfl, hown, hord, hb⟩
  obtain ⟨k0, hk0, hkv, hklow⟩ := isRank_find hord 0 (by rw [HSL.out]; exact h0)
  have hlen : L.length = s.size := (isOrd_length hord).trans HSL.out
  have hin := ints_of_own hown
  rw [hlen] at hin ⊢
  obtain ⟨g, o, rfl, hcell⟩ := hin.2 h0
  have hk0s : k0 < s.size := by omega
  have HC := Lib.hid hcell
  have HORD := Lib.hid hord
  have HB := Lib.hid hb
  have HKV := Lib.hid hkv
  have HK0 := Lib.hid hk0
  have HLEN := Lib.hid hlen
  have HLT := Lib.hid (isOrd_lt hord)
  clear hown hin hcell hord hb hkv hklow hk0 hlen d0 hne
  go_wp2_with fail
  go_loop [5, 6, 8] (fun out row k => ∃ (q : Nat) (t : ByteArray) (ρ : Nat), q ≤ s.size ∧ k = .int .i64 q ∧ out = .string t ∧ t.data.toList = (lastCol s.data.toList L).take q ∧ row = .int .i64 ρ ∧ ρ = if k0 < q then k0 else 0) (fun _ _ k => s.size - (intOf k).toNat)
  case atStart => exact ⟨0, ⟨#[]⟩, 0, Nat.zero_le _, rfl, rfl, rfl, rfl, by rw [if_neg (by omega)]⟩
  case round =>
    obtain ⟨q, t, ρ, hq, rfl, rfl, ht, rfl, hρ⟩ := hrel
    by_cases e : q < s.size
    · have d1 : decide ((q : Int) < (s.size : Int)) = true := decide_eq_true (by omega)
      have hc := HC.out q e
      have hxl := HLT.out q (by rw [HSL.out]; exact e)
      rw [HSL.out] at hxl
      have hln := last_next s.data.toList L q (by rw [HLEN.out]; exact e)
      rw [HSL.out] at hln
      have hx0 : L.getD q 0 = 0 ↔ q = k0 := by
        constructor
        · intro h
          have h1 := isOrd_nodup HORD.out
          have hq1 : q < L.length := by rw [HLEN.out]; exact e
          have h3 : L.getD q 0 = L.getD k0 0 := h.trans HKV.out.symm
          rw [List.getD_eq_getElem?_getD, List.getElem?_eq_getElem hq1, List.getD_eq_getElem?_getD, List.getElem?_eq_getElem HK0.out] at h3
          exact nodup_inj h1 hq1 HK0.out h3
        · rintro rfl
          exact HKV.out
      obtain ⟨x, hx⟩ : ∃ x, x = L.getD q 0 := ⟨_, rfl⟩
      rw [← hx] at hc hxl hln hx0
      obtain ⟨p, hp⟩ : ∃ p, p = (x + (s.size - 1)) % s.size := ⟨_, rfl⟩
      have hpl : p < s.size := by rw [hp]; exact Nat.mod_lt _ h0
      have hma : ((x : Int) + (s.size : Int) - 1) % (s.size : Int) = (p : Int) := by
        rw [hp, Int.natCast_emod, Int.natCast_add, show ((s.size - 1 : Nat) : Int) = (s.size : Int) - 1 by omega]
        congr 1
        omega
      have hra := rat_get s (x + (s.size - 1)) p hp hpl
      rw [← hra] at hln
      have hpi0 : (0 : Int) ≤ (p : Int) := by omega
      have hpi1 : (p : Int) ≤ (p : Int) + 1 := by omega
      have hpi2 : (p : Int) + 1 ≤ (s.size : Int) := by omega
      have hts : t.size = q := by
        show t.data.toList.length = q
        rw [ht, List.length_take, lastCol_length, HLEN.out]
        omega
      have hes : (s.extract p (p + 1)).size = 1 := by rw [ByteArray.size_extract]; omega
      obtain ⟨t2, ht2⟩ : ∃ t2, t2 = t ++ s.extract p (p + 1) := ⟨_, rfl⟩
      have hcat : ∀ w9 : World, (Op.stringOp .add t (s.extract p (p + 1))).run Try.prog w9 = .ok (.string t2) w9 := fun w9 => (run_string_add_sum w9 _ _ (by omega)).trans (by rw [ht2])
      have ht2d : t2.data.toList = (lastCol s.data.toList L).take (q + 1) := by
        rw [hln, ← ht, ht2]
        show (t ++ s.extract p (p + 1)).data.toList = _
        rw [ByteArray.data_append, Array.toList_append, ByteArray.data_extract, Array.toList_extract, List.extract_eq_take_drop, show p + 1 - p = 1 by omega]
        congr 1
        have hpl2 : p < s.data.toList.length := hpl
        rw [List.drop_eq_getElem_cons hpl2]
        rfl
      have HT2 := Lib.hid ht2d
      have HR := Lib.hid hρ
      have HX0 := Lib.hid hx0
      clear hln hx hp hra ht hts hes ht2 ht2d hρ hx0
      by_cases e3 : x = 0
      · have hqk : q = k0 := HX0.out.1 e3
        have q1 : ((x : Int) == 0) = true := by rw [e3]; rfl
        have HQK := Lib.hid hqk
        have HE := Lib.hid e3
        clear hqk e3
        go_wp2_with fail
        go_round
        case rel => exact ⟨q + 1, t2, q, by omega, by go_num, rfl, HT2.out, rfl, by rw [HQK.out, if_pos (by omega)]⟩
        case measure => simp [intOf]; omega
      · have hqk : ¬ q = k0 := fun h => e3 (HX0.out.2 h)
        have q1 : ((x : Int) == 0) = false := by
          simp only [beq_eq_false_iff_ne, ne_eq]
          omega
        have HE := Lib.hid e3
        clear e3
        go_wp2_with fail
        go_round
        case rel =>
          refine ⟨q + 1, t2, ρ, by omega, by go_num, rfl, HT2.out, rfl, ?_⟩
          rw [HR.out]
          by_cases h : k0 < q
          · rw [if_pos h, if_pos (by omega)]
          · rw [if_neg h, if_neg (by omega)]
        case measure => simp [intOf]; omega
    · obtain rfl : q = s.size := by omega
      have d1 : decide ((s.size : Int) < (s.size : Int)) = false := decide_eq_false (by omega)
      have hT : (lastCol s.data.toList L).take s.size = lastCol s.data.toList L := List.take_of_length_le (by rw [lastCol_length, HLEN.out]; exact Nat.le_refl _)
      have hρ2 : ρ = k0 := by rw [hρ, if_pos hk0s]
      have htt : t = ⟨(lastCol s.data.toList L).toArray⟩ := by
        apply ByteArray.ext
        apply Array.ext'
        show t.data.toList = _
        rw [ht, hT]
      subst hρ2 htt
      clear hρ ht hT
      go_wp2_with fail
      go_ret3
      exact ⟨L, _, rfl, HORD.out, HK0.out, HKV.out, HB.out⟩

end Go.Proofs.Ytglcideecelemaa
