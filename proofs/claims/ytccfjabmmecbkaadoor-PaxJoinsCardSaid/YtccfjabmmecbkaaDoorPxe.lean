/- The law PaxBack, walked over what is asked of the code; no key and value of 2^61 bytes. Written ahead of stage 17. -/
import Derived.Test.YtccfjabmmecbkaaDoorPxd
namespace Go.Proofs.YtccfjabmmecbkaaDoor
open Go.RowKit

theorem strF_lists (l : List UInt8) : (strF l).data.toList = l := rfl
section
variable (R : PaxDone)
include R
set_option maxHeartbeats 3200000 in
set_option maxRecDepth 100000 in
theorem pback_law (w : World) (hT : Tabs w) (A : Option Addr) (n c : Nat) (L : List PairB) (s : ByteArray) (hI : PIn w A n L) (hn : n ≤ maxLen) (hS : ∀ p, p ∈ L → p.1.size ≤ 2 ^ 61 ∧ p.2.size ≤ 2 ^ 61) (hs : s.size ≤ maxLen) : Calls Tryd.prog 4 #[.slice A n c, .string s] w fun e w' => e = .returned (.bool true) ∧ Below w.heap.size w w' := by
  have HTB : Hid (∀ wx : World, Below w.heap.size w wx → Tabs wx) := Lib.hid fun wx hb => hT.below hb
  have HAW := Lib.hid (awake_pax R)
  have HI := Lib.hid hI
  have HLT : Hid (∀ wx : World, PIn wx A n L → Calls Tryd.prog 9 #[.slice A n c] wx fun e w' => e = .returned (.bool (lightB L 0)) ∧ Below wx.heap.size wx w') := Lib.hid fun wx h => light_any wx A n c L h hn hS
  have hss := hs
  unfold maxLen at hss
  by_cases hlt : lightB L 0 = true
  · rw [hlt] at HLT
    by_cases hbig : 20000 < s.size
    · have d0 : decide ((20000 : Int) < (s.size : Int)) = true := decide_eq_true (by omega)
      clear R hT hI hS hs hbig hlt
      go_enter Tryd.func4, Tryd.ntmps4
      go_wp2_with fail
      refine (HLT.out w HI.out).mono ?_
      rintro e w1 ⟨rfl, hb1⟩
      have HB1 := Lib.hid hb1
      clear hb1
      go_wp2_with fail
      refine (HAW.out w1 (HTB.out _ HB1.out)).mono ?_
      rintro e w2 ⟨rfl, hb2⟩
      have HB2 := Lib.hid (HB1.out.trans (hb2.mono HB1.out.size))
      clear hb2
      go_wp2_with fail
      go_ret
      exact ⟨rfl, HB2.out⟩
    · have d0 : decide ((20000 : Int) < (s.size : Int)) = false := decide_eq_false (by omega)
      have hfl : (flatP (L.map toL)).length ≤ 20000 := by
        have := light_flat (L.map toL) 0 (by rw [← lightB_is]; exact hlt) (by omega)
        omega
      have CE : Hid (∀ wx : World, Tabs wx → PIn wx A n L → Calls Tryd.prog 10 #[.slice A n c] wx fun e w' => e = .returned (.tuple #[.string (strF (pencA (L.map toL)).1), .int .i64 (pencA (L.map toL)).2]) ∧ Below wx.heap.size wx w') := Lib.hid fun wx ht h => R.encode wx ht A n c L h hn hfl
      have CS : Hid (∀ wx : World, Tabs wx → Calls Tryd.prog 11 #[.string s] wx fun e w' => (∃ A2 n2 c2 L2, e = .returned (.tuple #[.slice A2 n2 c2, .int .i64 0]) ∧ n2 ≤ c2 ∧ c2 ≤ maxLen ∧ PIn w' A2 n2 L2 ∧ (∀ (wy : World) (c3 : Nat), Tabs wy → PIn wy A2 n2 L2 → Calls Tryd.prog 10 #[.slice A2 n2 c3] wy fun e w' => e = .returned (.tuple #[.string s, .int .i64 0]) ∧ Below wy.heap.size wy w') ∧ Below wx.heap.size wx w') ∨ ∃ A2 c2, e = .returned (.tuple #[.slice A2 0 c2, .int .i64 170]) ∧ c2 ≤ maxLen ∧ Below wx.heap.size wx w') := Lib.hid fun wx ht => by
        refine (R.decode wx ht s hs).mono ?_
        rintro e w' (⟨A2, n2, c2, L2, he, _, hk, hf, hnc, hcm, hI2, hb⟩ | ⟨A2, c2, he, hcm, _, hb⟩)
        · refine .inl ⟨A2, n2, c2, L2, he, hnc, hcm, hI2, fun wy c3 hty hy => ?_, hb⟩
          have h := R.encode wy hty A2 n2 c3 L2 hy (Nat.le_trans hnc hcm) (by rw [hf]; show s.size ≤ _; omega)
          rw [pencA, if_pos hk, hf] at h
          dsimp only at h
          rw [strF_self] at h
          exact h
        · rw [if_neg (show ¬ 262144 < s.size by omega)] at he
          exact .inr ⟨A2, c2, he, hcm, hb⟩
      by_cases hk : keysK (L.map toL)
      · have CT : Hid (∀ wx : World, Tabs wx → Calls Tryd.prog 11 #[.string (strF (flatP (L.map toL)))] wx fun e w' => ∃ A2 c2, e = .returned (.tuple #[.slice A2 n c2, .int .i64 0]) ∧ n ≤ c2 ∧ c2 ≤ maxLen ∧ PIn w' A2 n L ∧ Below wx.heap.size wx w') := Lib.hid fun wx ht => by
          refine (R.decode wx ht (strF (flatP (L.map toL))) (by show (flatP (L.map toL)).length ≤ _; unfold maxLen; omega)).mono ?_
          rintro e w' (⟨A2, n2, c2, L2, he, _, hk2, hf, hnc, hcm, hI2, hb⟩ | ⟨A2, c2, _, _, hno, _⟩)
          · have hL := pairs_one hk2 hk hf (by rw [hf, strF_lists]; omega)
            subst hL
            have hn2 : n2 = n := by rw [← hI2.1, ← hI.1]
            subst hn2
            exact ⟨A2, c2, he, hnc, hcm, hI2, hb⟩
          · have h1 := hno _ hk rfl
            have h2 : (strF (flatP (L.map toL))).size = (flatP (L.map toL)).length := rfl
            omega
        have CM : Hid (∀ (wx : World) (A2 : Option Addr) (c2 : Nat), PIn wx A n L → PIn wx A2 n L → Calls Tryd.prog 12 #[.slice A n c, .slice A2 n c2] wx fun e w' => e = .returned (.bool true) ∧ Below wx.heap.size wx w') := Lib.hid fun wx A2 c2 h1 h2 => by
          have h := rsame_any wx A A2 n c n c2 L L h1 h2 hn hn
          rw [decide_eq_true (rfl : L = L)] at h
          exact h
        rw [pencA, if_pos hk] at CE
        dsimp only at CE
        generalize strF (flatP (L.map toL)) = T at *
        clear R hT hI hS hs hbig hlt hk hfl
        go_enter Tryd.func4, Tryd.ntmps4
        go_wp2_with fail
        refine (HLT.out w HI.out).mono ?_
        rintro e w1 ⟨rfl, hb1⟩
        have HB1 := Lib.hid hb1
        clear hb1
        go_wp2_with fail
        refine (CE.out w1 (HTB.out _ HB1.out) (HI.out.below HB1.out)).mono ?_
        rintro e w2 ⟨rfl, hb2⟩
        have HB2 := Lib.hid (HB1.out.trans (hb2.mono HB1.out.size))
        clear hb2
        go_wp2_with fail
        refine (CT.out w2 (HTB.out _ HB2.out)).mono ?_
        rintro e w3 ⟨A9, c9, rfl, hnc9, hcm9, hI9, hb3⟩
        have HI9 := Lib.hid hI9
        have HB3 := Lib.hid (HB2.out.trans (hb3.mono HB2.out.size))
        clear hb3 hI9
        unfold maxLen at hcm9
        go_wp2_with fail
        refine (CM.out w3 A9 c9 (HI.out.below HB3.out) HI9.out).mono ?_
        rintro e w4 ⟨rfl, hb4⟩
        have HB4 := Lib.hid (HB3.out.trans (hb4.mono HB3.out.size))
        clear hb4
        go_wp2_with fail
        refine (CS.out w4 (HTB.out _ HB4.out)).mono ?_
        rintro e w5 (⟨A2, n2, c2, L2, rfl, hnc, hcm, hI2, hen, hb5⟩ | ⟨A2, c2, rfl, hcm, hb5⟩)
        · have HI2 := Lib.hid hI2
          have HEN := Lib.hid hen
          have HB5 := Lib.hid (HB4.out.trans (hb5.mono HB4.out.size))
          clear hI2 hen hb5
          unfold maxLen at hcm
          go_wp2_with fail
          refine (HEN.out w5 c2 (HTB.out _ HB5.out) HI2.out).mono ?_
          rintro e w6 ⟨rfl, hb6⟩
          have HB6 := Lib.hid (HB5.out.trans (hb6.mono HB5.out.size))
          clear hb6
          go_wp2_with fail
          refine (HAW.out w6 (HTB.out _ HB6.out)).mono ?_
          rintro e w7 ⟨rfl, hb7⟩
          have HB7 := Lib.hid (HB6.out.trans (hb7.mono HB6.out.size))
          clear hb7
          go_wp2_with fail
          go_ret
          exact ⟨rfl, HB7.out⟩
        · have HB5 := Lib.hid (HB4.out.trans (hb5.mono HB4.out.size))
          clear hb5
          unfold maxLen at hcm
          go_wp2_with fail
          refine (HAW.out w5 (HTB.out _ HB5.out)).mono ?_
          rintro e w6 ⟨rfl, hb6⟩
          have HB6 := Lib.hid (HB5.out.trans (hb6.mono HB5.out.size))
          clear hb6
          go_wp2_with fail
          go_ret
          exact ⟨rfl, HB6.out⟩
      · rw [pencA, if_neg hk] at CE
        dsimp only at CE
        generalize strF [] = T at *
        clear R hT hI hS hs hbig hlt hk hfl
        go_enter Tryd.func4, Tryd.ntmps4
        go_wp2_with fail
        refine (HLT.out w HI.out).mono ?_
        rintro e w1 ⟨rfl, hb1⟩
        have HB1 := Lib.hid hb1
        clear hb1
        go_wp2_with fail
        refine (CE.out w1 (HTB.out _ HB1.out) (HI.out.below HB1.out)).mono ?_
        rintro e w2 ⟨rfl, hb2⟩
        have HB2 := Lib.hid (HB1.out.trans (hb2.mono HB1.out.size))
        clear hb2
        go_wp2_with fail
        refine (CS.out w2 (HTB.out _ HB2.out)).mono ?_
        rintro e w3 (⟨A2, n2, c2, L2, rfl, hnc, hcm, hI2, hen, hb3⟩ | ⟨A2, c2, rfl, hcm, hb3⟩)
        · have HI2 := Lib.hid hI2
          have HEN := Lib.hid hen
          have HB3 := Lib.hid (HB2.out.trans (hb3.mono HB2.out.size))
          clear hI2 hen hb3
          unfold maxLen at hcm
          go_wp2_with fail
          refine (HEN.out w3 c2 (HTB.out _ HB3.out) HI2.out).mono ?_
          rintro e w4 ⟨rfl, hb4⟩
          have HB4 := Lib.hid (HB3.out.trans (hb4.mono HB3.out.size))
          clear hb4
          go_wp2_with fail
          refine (HAW.out w4 (HTB.out _ HB4.out)).mono ?_
          rintro e w5 ⟨rfl, hb5⟩
          have HB5 := Lib.hid (HB4.out.trans (hb5.mono HB4.out.size))
          clear hb5
          go_wp2_with fail
          go_ret
          exact ⟨rfl, HB5.out⟩
        · have HB3 := Lib.hid (HB2.out.trans (hb3.mono HB2.out.size))
          clear hb3
          unfold maxLen at hcm
          go_wp2_with fail
          refine (HAW.out w3 (HTB.out _ HB3.out)).mono ?_
          rintro e w4 ⟨rfl, hb4⟩
          have HB4 := Lib.hid (HB3.out.trans (hb4.mono HB3.out.size))
          clear hb4
          go_wp2_with fail
          go_ret
          exact ⟨rfl, HB4.out⟩
  · rw [Bool.not_eq_true] at hlt
    rw [hlt] at HLT
    clear R hT hI hS hs hlt
    go_enter Tryd.func4, Tryd.ntmps4
    go_wp2_with fail
    refine (HLT.out w HI.out).mono ?_
    rintro e w1 ⟨rfl, hb1⟩
    have HB1 := Lib.hid hb1
    clear hb1
    go_wp2_with fail
    refine (HAW.out w1 (HTB.out _ HB1.out)).mono ?_
    rintro e w2 ⟨rfl, hb2⟩
    have HB2 := Lib.hid (HB1.out.trans (hb2.mono HB1.out.size))
    clear hb2
    go_wp2_with fail
    go_ret
    exact ⟨rfl, HB2.out⟩
end
end Go.Proofs.YtccfjabmmecbkaaDoor
