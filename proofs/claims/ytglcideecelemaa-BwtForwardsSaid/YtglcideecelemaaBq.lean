/- The reference of bwt, walked: Places, Back. Conditions: at most a million bytes. -/
import Derived.Test.YtglcideecelemaaBf
namespace Go.Proofs.Ytglcideecelemaa
open Go.RowKit

/-- The places of the bytes below b, and of b's own among the first i. -/
def flatB (s : List UInt8) (b : Nat) : List Nat := (List.range b).flatMap (posL s)
def filtB (s : List UInt8) (b i : Nat) : List Nat := (List.range i).filter fun j => (s.getD j 0).toNat == b
theorem flat_next (s : List UInt8) (b : Nat) : flatB s (b + 1) = flatB s b ++ filtB s b s.length := by
  rw [flatB, List.range_succ, List.flatMap_append]
  simp [flatB, filtB, posL]
theorem filt_next (s : List UInt8) (b i : Nat) : filtB s b (i + 1) = filtB s b i ++ if (s.getD i 0).toNat = b then [i] else [] := by
  rw [filtB, List.range_succ, List.filter_append]
  congr 1
  simp only [List.filter_cons, List.filter_nil, beq_iff_eq]
theorem flat_len (s : List UInt8) (b : Nat) (hb : b ≤ 256) : (flatB s b).length ≤ s.length := by
  rw [flatB, flat_length]
  exact first_le s b hb
theorem filt_len (s : List UInt8) (b i : Nat) (hi : i ≤ s.length) : (filtB s b i).length ≤ s.length := by
  rw [filtB, pos_len s b i hi]
  exact cnt_le s i b

set_option maxHeartbeats 1600000 in
set_option maxRecDepth 100000 in
theorem rplaces_any (w : World) (s : ByteArray) (hs : s.size ≤ 1000000) : Calls Try.prog 20 #[.string s] w fun e w' => ∃ v, e = .returned v ∧ w'.ownsRow w.heap.size 3 1 v s.size ((placesL s.data.toList).map iv) ∧ Below w.heap.size w w' := by
  obtain ⟨i3, h3, hz0, hz1, hz2⟩ := info_parts Try.info3
  have HSL := Lib.hid (show s.data.toList.length = s.size from rfl)
  have HFN := Lib.hid (flat_next s.data.toList)
  have HIN := Lib.hid (filt_next s.data.toList)
  have HFL := Lib.hid (flat_len s.data.toList)
  have HIL := Lib.hid (filt_len s.data.toList)
  have HPL := Lib.hid (places_length s.data.toList)
  go_enter Try.func20, Try.ntmps20
  go_wp2_with fail
  go_loopw [3, 4] (fun v x wx => ∃ b : Nat, b ≤ 256 ∧ x = .int .i64 b ∧ wx.ownsRow w.heap.size 3 1 v (flatB s.data.toList b).length ((flatB s.data.toList b).map iv) ∧ Below w.heap.size w wx) (fun _ x _ => 256 - (intOf x).toNat)
  case atStart => exact ⟨0, by omega, rfl, World.ownsRow_nil _ _ _ _, Below.refl _ _⟩
  case round =>
    obtain ⟨b, hb, rfl, hown, hbl⟩ := hrel
    have HO := Lib.hid hown
    have HB := Lib.hid hbl
    by_cases e : b < 256
    · have d1 : decide ((b : Int) < 256) = true := decide_eq_true (by omega)
      clear hown hbl
      go_wp2_with fail
      go_loopw [3, 5] (fun v x wx => ∃ (i : Nat) (M : List Nat), i ≤ s.size ∧ x = .int .i64 i ∧ M = flatB s.data.toList b ++ filtB s.data.toList b i ∧ wx.ownsRow w.heap.size 3 1 v M.length (M.map iv) ∧ Below w.heap.size w wx) (fun _ x _ => s.size - (intOf x).toNat)
      case atStart => exact ⟨0, flatB s.data.toList b, Nat.zero_le _, rfl, by simp [filtB], HO.out, HB.out⟩
      case round =>
        obtain ⟨i, M, hi, rfl, hM, hown, hbl⟩ := hrel
        have hz := hbl.size
        have hm2 : M.length ≤ 2000000 := by
          have h1 := HFL.out b hb
          have h2 := HIL.out b i (by rw [HSL.out]; exact hi)
          rw [HSL.out] at h1 h2
          rw [hM, List.length_append]
          omega
        obtain ⟨A0, c0, rfl, hn0, hm0, hA0⟩ := own_slice hown
        clear hA0
        unfold maxLen at hm0
        have HO2 := Lib.hid hown
        have HB2 := Lib.hid hbl
        have HM := Lib.hid hM
        obtain ⟨n, hn⟩ : ∃ n, n = M.length := ⟨_, rfl⟩
        obtain ⟨X, hX⟩ : ∃ X, X = M.map iv := ⟨_, rfl⟩
        rw [← hn, ← hX] at hown
        rw [← hn] at hn0 hm2 ⊢
        have HOX := Lib.hid hown
        have HN := Lib.hid hn
        have HX := Lib.hid hX
        clear hown hbl hM hn hX
        by_cases e2 : i < s.size
        · have d2 : decide ((i : Int) < (s.size : Int)) = true := decide_eq_true (by omega)
          have hby := getD_byte s i e2
          have hnx := HIN.out b i
          rw [hby] at hnx
          have hc256 := UInt8.toNat_lt s[i]
          obtain ⟨c, hcc⟩ : ∃ c, c = s[i].toNat := ⟨_, rfl⟩
          rw [← hcc] at hnx hc256
          have hcs : s[i].toNat = c := hcc.symm
          have HNX := Lib.hid hnx
          clear hby hnx hcc
          by_cases e3 : c = b
          · have q1 : ((c : Int) == (b : Int)) = true := by rw [e3]; simp
            have HE := Lib.hid e3
            clear e3
            go_wp2_with (at_builtin; refine wpList_append_own _ rfl _ _ 34 rfl w.heap.size 3 i3 (.int .i64 0) 1 8 Try.underlying34 h3 hz0 hz1 hz2 rfl (by decide) _ _ _ rfl (HOX.out.alloc _) ⟨wr.heap.size, 0, none⟩ 1 1 [.int .i64 i] rfl rfl ?c1 ?c2 ?c3 ?c4 ?c5 ?_)
            case c1 => exact cell_one _ _ _
            case c2 => intro u hu; simp at hu; subst hu; rfl
            case c3 => unfold maxLen; omega
            case c4 => omega
            case c5 => simp; omega
            intro v3 w3 hown3 hgrow3 _
            have hb3 : Below w.heap.size w w3 := (HB2.out.alloc hz _).grown hgrow3 (by simp; omega) (fun k hk => (HOX.out.lt k hk).1)
            have HO3 := Lib.hid hown3
            have HB3 := Lib.hid hb3
            clear hown3 hgrow3 hb3
            go_wp2_with fail
            go_roundw
            case rel =>
              refine ⟨i + 1, M ++ [i], by omega, by go_num, ?_, ?_, HB3.out⟩
              · rw [HNX.out, if_pos HE.out, HM.out, List.append_assoc]
              · rw [List.length_append, ← HN.out, List.map_append, ← HX.out]
                exact HO3.out
            case measure => simp [intOf]; omega
          · have q1 : ((c : Int) == (b : Int)) = false := by
              simp only [beq_eq_false_iff_ne, ne_eq]
              omega
            have HE := Lib.hid e3
            clear e3
            go_wp2_with fail
            go_roundw
            case rel =>
              refine ⟨i + 1, M, by omega, by go_num, ?_, ?_, HB2.out⟩
              · rw [HNX.out, if_neg HE.out, HM.out, List.append_nil]
              · rw [← HN.out, ← HX.out]
                exact HOX.out
            case measure => simp [intOf]; omega
        · obtain rfl : i = s.size := by omega
          have d2 : decide ((s.size : Int) < (s.size : Int)) = false := decide_eq_false (by omega)
          have hMM : M = flatB s.data.toList (b + 1) := by rw [HM.out, HFN.out, HSL.out]
          have HMM := Lib.hid hMM
          clear hMM
          go_wp2_with fail
          go_roundw
          case rel => exact ⟨b + 1, by omega, by go_num, by rw [← HMM.out, ← HN.out, ← HX.out]; exact HOX.out, HB2.out⟩
          case measure => simp [intOf]; omega
    · obtain rfl : b = 256 := by omega
      have d1 : decide ((256 : Int) < 256) = false := by decide
      have hP : flatB s.data.toList 256 = placesL s.data.toList := rfl
      rw [hP, HPL.out, HSL.out] at hown
      obtain ⟨A0, c0, rfl, hn0, hm0, hA0⟩ := own_slice hown
      have HO2 := Lib.hid hown
      clear hown hbl hP hA0
      go_wp2_with fail
      go_ret
      exact ⟨_, rfl, HO2.out, HB.out⟩

end Go.Proofs.Ytglcideecelemaa
