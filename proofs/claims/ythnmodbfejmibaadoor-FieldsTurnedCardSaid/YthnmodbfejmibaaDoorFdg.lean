/- Fields: Back walked. Written ahead of stage 15. -/
import Derived.Test.YthnmodbfejmibaaDoorFde
import Derived.Test.YthnmodbfejmibaaDoorFdf
namespace Go.Proofs.YthnmodbfejmibaaDoor
open Go.RowKit

theorem octalA_len (n width : Int) : (octalA n width).1.length ≤ 20 := by
  unfold octalA
  split
  · exact Nat.zero_le _
  split
  · exact Nat.zero_le _
  · show (octL (width.toNat - 1) n ++ [0]).length ≤ 20
    rw [List.length_append, octL_length, List.length_singleton]
    omega
set_option maxRecDepth 100000 in
theorem decL_len : ∀ (j n : Nat), n < 10 ^ (j + 1) → (decL n).length ≤ j + 1
  | 0, n, h => by
    rw [decL, if_pos (by simpa using h)]
    exact Nat.le_refl _
  | j + 1, n, h => by
    rw [decL]
    split
    · exact Nat.succ_le_succ (Nat.zero_le _)
    · rw [List.length_append, List.length_singleton]
      have h2 : n / 10 < 10 ^ (j + 1) := by
        rw [Nat.pow_succ] at h
        omega
      have := decL_len j (n / 10) h2
      omega
theorem digitsA_len (n : Int) (h : n ≤ 9223372036854775807) : (digitsA n).length ≤ 19 := by
  by_cases e : n < 0
  · unfold digitsA
    rw [if_pos e]
    exact Nat.zero_le _
  · obtain ⟨m, rfl⟩ : ∃ m : Nat, n = m := ⟨n.toNat, by omega⟩
    rw [digits_dec]
    exact decL_len 18 m (by omega)
theorem textA_len (s : List UInt8) (width : Int) : (textA s width).1.length ≤ 512 := by
  unfold textA
  split
  · exact Nat.zero_le _
  rename_i h1
  split
  · exact Nat.zero_le _
  rename_i h2
  show (s ++ List.replicate (width.toNat - s.length) 0).length ≤ 512
  have h3 : ¬ width < (s.length : Int) := fun x => h2 (.inl x)
  rw [List.length_append, List.length_replicate]
  omega
theorem decimalA_le (s : List UInt8) : (decimalA s).1 ≤ 9007199254740992 := by
  unfold decimalA
  split
  · exact Nat.zero_le _
  cases decF s 0 with
  | none => exact Nat.zero_le _
  | some n =>
    show (if 9007199254740992 < n then ((0 : Nat), (3 : Nat)) else (n, 0)).1 ≤ _
    split
    · exact Nat.zero_le _
    · show n ≤ _
      omega
/-- One call's answer, an error's number told apart. -/
theorem code_zero {k : Nat} (h : k = 0) : ((k : Int) == 0) = true ∧ ((k : Int) != 0) = false := by subst h; exact ⟨rfl, rfl⟩
theorem code_other {k : Nat} (h : k ≠ 0) : ((k : Int) == 0) = false ∧ ((k : Int) != 0) = true := ⟨beq_false_of_ne (by omega), bne_iff_ne.2 (by omega)⟩
section
variable (R : FieldsDone)
include R
set_option maxHeartbeats 12800000 in
set_option maxRecDepth 100000 in
theorem back_law (w : World) (hT : Tabs w) (n width : Int) (s : ByteArray) (hn1 : -9223372036854775808 ≤ n) (hn2 : n ≤ 9223372036854775807) (hw1 : -9223372036854775808 ≤ width) (hw2 : width ≤ 9223372036854775807) (hs : s.size ≤ 140737488355328) : Calls Tryd.prog 8 #[.int .i64 n, .int .i64 width, .string s] w fun e w' => e = .returned (.bool true) ∧ Below w.heap.size w w' := by
  have HTB : Hid (∀ wx : World, Below w.heap.size w wx → Tabs wx) := Lib.hid fun wx hb => hT.below hb
  have HB0 := Lib.hid (Below.refl w.heap.size w)
  have HAW := Lib.hid (awake_fields R)
  clear hT
  have HO := Lib.hid fun (wx : World) (ht : Tabs wx) => R.octal wx ht n width hn1 hn2 hw1 hw2
  have HT := Lib.hid fun wx => R.text wx s width hs hw1 hw2
  have HD := Lib.hid fun (wx : World) (ht : Tabs wx) => R.digits wx ht n hn1 hn2
  have HE := Lib.hid fun wx => R.decimal wx s hs
  have hol := octalA_len n width
  have htl := textA_len s.data.toList width
  have hdl := digitsA_len n hn2
  have hel := decimalA_le s.data.toList
  have ho : ∀ X, octalA n width = (X, 0) → n ≤ 9007199254740992 → numberA X = (n.toNat, 0) ∧ 0 ≤ n ∧ (X.length : Int) = width := fun X h1 h2 => octal_back n width X h2 h1
  have ht : ∀ X, textA s.data.toList width = (X, 0) → cutZ X = s.data.toList ∧ (X.length : Int) = width := fun X h => text_back _ _ X h
  have he : ∀ d, decimalA s.data.toList = (d, 0) → decL d = s.data.toList := fun d h => decimal_back _ d h
  have hd : 0 ≤ n → n ≤ 9007199254740992 → decimalA (digitsA n) = (n.toNat, 0) := fun h1 h2 => by
    obtain ⟨m, rfl⟩ : ∃ m : Nat, n = m := ⟨n.toNat, by omega⟩
    rw [digits_dec, Int.toNat_natCast]
    exact decimal_digits m (by omega)
  have HSELF := Lib.hid (strF_self s)
  obtain ⟨X, k, hX⟩ : ∃ X k, octalA n width = (X, k) := ⟨_, _, rfl⟩
  obtain ⟨Y, h, hY⟩ : ∃ Y h, textA s.data.toList width = (Y, h) := ⟨_, _, rfl⟩
  obtain ⟨d, i, hE⟩ : ∃ d i, decimalA s.data.toList = (d, i) := ⟨_, _, rfl⟩
  rw [hX] at ho hol
  rw [hY] at ht htl
  rw [hE] at he hel
  have HO : Hid (∀ wx : World, Tabs wx → Calls Tryd.prog 10 #[.int .i64 n, .int .i64 width] wx fun e w' => e = .returned (.tuple #[.string (strF X), .int .i64 k]) ∧ Below wx.heap.size wx w') := Lib.hid fun wx htb => by have h := HO.out wx htb; rw [hX] at h; exact h
  have HT : Hid (∀ wx : World, Calls Tryd.prog 15 #[.string s, .int .i64 width] wx fun e w' => e = .returned (.tuple #[.string (strF Y), .int .i64 h]) ∧ Below wx.heap.size wx w') := Lib.hid fun wx => by have h := HT.out wx; rw [hY] at h; exact h
  have HE : Hid (∀ wx : World, Calls Tryd.prog 19 #[.string s] wx fun e w' => e = .returned (.tuple #[.int .i64 d, .int .i64 i]) ∧ Below wx.heap.size wx w') := Lib.hid fun wx => by have h := HE.out wx; rw [hE] at h; exact h
  clear hX hY hE
  dsimp only at hol htl hel
  have hol : X.length ≤ 20 := hol
  have htl : Y.length ≤ 512 := htl
  have hel : d ≤ 9007199254740992 := hel
  have hn0 := fun wx => R.number wx (strF X) (by rw [strF_size]; omega)
  rw [strF_list] at hn0
  obtain ⟨m, f, hN⟩ : ∃ m f, numberA X = (m, f) := ⟨_, _, rfl⟩
  rw [hN] at hn0
  have HN : Hid (∀ wx : World, Calls Tryd.prog 13 #[.string (strF X)] wx fun e w' => e = .returned (.tuple #[.int .i64 m, .int .i64 f]) ∧ Below wx.heap.size wx w') := Lib.hid hn0
  have hg0 := fun wx => R.decimal wx (strF (digitsA n)) (by rw [strF_size]; omega)
  rw [strF_list] at hg0
  obtain ⟨q, g, hG⟩ : ∃ q g, decimalA (digitsA n) = (q, g) := ⟨_, _, rfl⟩
  rw [hG] at hg0
  have HG : Hid (∀ wx : World, Calls Tryd.prog 19 #[.string (strF (digitsA n))] wx fun e w' => e = .returned (.tuple #[.int .i64 q, .int .i64 g]) ∧ Below wx.heap.size wx w') := Lib.hid hg0
  have hc0 := fun wx => R.cut wx (strF Y) (by rw [strF_size]; omega)
  rw [strF_list] at hc0
  have HCT : Hid (h = 0 → ∀ wx : World, Calls Tryd.prog 17 #[.string (strF Y)] wx fun e w' => e = .returned (.string s) ∧ Below wx.heap.size wx w') := Lib.hid fun h0 wx => by
    have h := hc0 wx
    rw [(ht Y (by rw [h0])).1, HSELF.out] at h
    exact h
  have HWT : Hid (h = 0 → ((strF Y).size : Int) = width) := Lib.hid fun h0 => (ht Y (by rw [h0])).2
  have HDD : Hid (i = 0 → ∀ wx : World, Tabs wx → Calls Tryd.prog 21 #[.int .i64 d] wx fun e w' => e = .returned (.string s) ∧ Below wx.heap.size wx w') := Lib.hid fun h0 wx htb => by
    have h := R.digits wx htb d (by omega) (by omega)
    rw [digits_dec, he d (by rw [h0]), HSELF.out] at h
    exact h
  have HOB : Hid (k = 0 → n ≤ 9007199254740992 → (m : Int) = n ∧ f = 0 ∧ ((strF X).size : Int) = width) := Lib.hid fun h0 h1 => by
    have h := ho X (by rw [h0]) h1
    rw [hN] at h
    have h2 := congrArg Prod.fst h.1
    have h3 := congrArg Prod.snd h.1
    dsimp only at h2 h3
    exact ⟨by have := h.2.1; omega, h3, h.2.2⟩
  have HGB : Hid (0 ≤ n → n ≤ 9007199254740992 → (q : Int) = n ∧ g = 0) := Lib.hid fun h0 h1 => by
    have h := hd h0 h1
    rw [hG] at h
    have h2 := congrArg Prod.fst h
    have h3 := congrArg Prod.snd h
    dsimp only at h2 h3
    exact ⟨by omega, h3⟩
  have hxs : (strF X).size ≤ 20 := hol
  have hys : (strF Y).size ≤ 512 := htl
  clear ho ht he hd hn0 hg0 hc0 hN hG HSELF hol htl hdl R
  generalize strF X = T1 at *
  generalize strF Y = T3 at *
  generalize strF (digitsA n) = T2 at *
  by_cases cb : n ≤ 9007199254740992
  · have c1 : decide (n ≤ 9007199254740992) = true := decide_eq_true cb
    by_cases cn : 0 ≤ n
    · have c2 : decide (0 ≤ n) = true := decide_eq_true cn
      obtain ⟨v1, v2⟩ := HGB.out cn cb
      have u6 : ((q : Int) != n) = false := by rw [v1]; exact bne_self_eq_false _
      obtain ⟨u8, u7⟩ := code_zero v2
      clear v1 v2 HGB
      by_cases ck : k = 0
      · obtain ⟨ck1, ck2⟩ := code_zero ck
        obtain ⟨v1, v2, v3⟩ := HOB.out ck (by omega)
        have u1 : ((m : Int) != n) = false := by rw [v1]; exact bne_self_eq_false _
        obtain ⟨u3, u2⟩ := code_zero v2
        have u4 : ((T1.size : Int) != width) = false := by rw [v3]; exact bne_self_eq_false _
        clear v1 v2 v3
        clear HOB ck
        by_cases ch : h = 0
        · obtain ⟨ch1, ch2⟩ := code_zero ch
          have HC2 := Lib.hid (HCT.out ch)
          have u5 : ((T3.size : Int) != width) = false := by rw [HWT.out ch]; exact bne_self_eq_false _
          clear HCT HWT ch
          by_cases ci : i = 0
          · obtain ⟨ci1, ci2⟩ := code_zero ci
            have HD2 := Lib.hid (HDD.out ci)
            clear HDD ci
            go_enter Tryd.func8, Tryd.ntmps8
            go_wp2_with fail
            refine (HO.out w (HTB.out _ (Hid.out (by assumption)))).mono ?_
            rintro e w1 ⟨rfl, hb1⟩
            have HB1 := Lib.hid hb1
            clear hb1
            go_wp2_with fail
            refine (HN.out w1).mono ?_
            rintro e w2 ⟨rfl, hb2⟩
            have HB2 := Lib.hid (HB1.out.trans (hb2.mono HB1.out.size))
            clear hb2
            go_wp2_with fail
            refine (HD.out w2 (HTB.out _ (Hid.out (by assumption)))).mono ?_
            rintro e w3 ⟨rfl, hb3⟩
            have HB3 := Lib.hid (HB2.out.trans (hb3.mono HB2.out.size))
            clear hb3
            go_wp2_with fail
            refine (HG.out w3).mono ?_
            rintro e w4 ⟨rfl, hb4⟩
            have HB4 := Lib.hid (HB3.out.trans (hb4.mono HB3.out.size))
            clear hb4
            go_wp2_with fail
            refine (HT.out w4).mono ?_
            rintro e w5 ⟨rfl, hb5⟩
            have HB5 := Lib.hid (HB4.out.trans (hb5.mono HB4.out.size))
            clear hb5
            go_wp2_with fail
            refine (HC2.out w5).mono ?_
            rintro e w6 ⟨rfl, hb6⟩
            have HB6 := Lib.hid (HB5.out.trans (hb6.mono HB5.out.size))
            clear hb6
            go_wp2_with fail
            refine (HE.out w6).mono ?_
            rintro e w7 ⟨rfl, hb7⟩
            have HB7 := Lib.hid (HB6.out.trans (hb7.mono HB6.out.size))
            clear hb7
            go_wp2_with fail
            refine (HD2.out w7 (HTB.out _ (Hid.out (by assumption)))).mono ?_
            rintro e w8 ⟨rfl, hb8⟩
            have HB8 := Lib.hid (HB7.out.trans (hb8.mono HB7.out.size))
            clear hb8
            go_wp2_with fail
            refine (HAW.out w8 (HTB.out _ (Hid.out (by assumption)))).mono ?_
            rintro e w9 ⟨rfl, hb9⟩
            have HB9 := Lib.hid (HB8.out.trans (hb9.mono HB8.out.size))
            clear hb9
            go_wp2_with fail
            go_ret
            exact ⟨rfl, HB9.out⟩
          · obtain ⟨ci1, ci2⟩ := code_other ci
            clear HDD ci
            go_enter Tryd.func8, Tryd.ntmps8
            go_wp2_with fail
            refine (HO.out w (HTB.out _ (Hid.out (by assumption)))).mono ?_
            rintro e w1 ⟨rfl, hb1⟩
            have HB1 := Lib.hid hb1
            clear hb1
            go_wp2_with fail
            refine (HN.out w1).mono ?_
            rintro e w2 ⟨rfl, hb2⟩
            have HB2 := Lib.hid (HB1.out.trans (hb2.mono HB1.out.size))
            clear hb2
            go_wp2_with fail
            refine (HD.out w2 (HTB.out _ (Hid.out (by assumption)))).mono ?_
            rintro e w3 ⟨rfl, hb3⟩
            have HB3 := Lib.hid (HB2.out.trans (hb3.mono HB2.out.size))
            clear hb3
            go_wp2_with fail
            refine (HG.out w3).mono ?_
            rintro e w4 ⟨rfl, hb4⟩
            have HB4 := Lib.hid (HB3.out.trans (hb4.mono HB3.out.size))
            clear hb4
            go_wp2_with fail
            refine (HT.out w4).mono ?_
            rintro e w5 ⟨rfl, hb5⟩
            have HB5 := Lib.hid (HB4.out.trans (hb5.mono HB4.out.size))
            clear hb5
            go_wp2_with fail
            refine (HC2.out w5).mono ?_
            rintro e w6 ⟨rfl, hb6⟩
            have HB6 := Lib.hid (HB5.out.trans (hb6.mono HB5.out.size))
            clear hb6
            go_wp2_with fail
            refine (HE.out w6).mono ?_
            rintro e w7 ⟨rfl, hb7⟩
            have HB7 := Lib.hid (HB6.out.trans (hb7.mono HB6.out.size))
            clear hb7
            go_wp2_with fail
            refine (HAW.out w7 (HTB.out _ (Hid.out (by assumption)))).mono ?_
            rintro e w8 ⟨rfl, hb8⟩
            have HB8 := Lib.hid (HB7.out.trans (hb8.mono HB7.out.size))
            clear hb8
            go_wp2_with fail
            go_ret
            exact ⟨rfl, HB8.out⟩
        · obtain ⟨ch1, ch2⟩ := code_other ch
          clear HCT HWT ch
          by_cases ci : i = 0
          · obtain ⟨ci1, ci2⟩ := code_zero ci
            have HD2 := Lib.hid (HDD.out ci)
            clear HDD ci
            go_enter Tryd.func8, Tryd.ntmps8
            go_wp2_with fail
            refine (HO.out w (HTB.out _ (Hid.out (by assumption)))).mono ?_
            rintro e w1 ⟨rfl, hb1⟩
            have HB1 := Lib.hid hb1
            clear hb1
            go_wp2_with fail
            refine (HN.out w1).mono ?_
            rintro e w2 ⟨rfl, hb2⟩
            have HB2 := Lib.hid (HB1.out.trans (hb2.mono HB1.out.size))
            clear hb2
            go_wp2_with fail
            refine (HD.out w2 (HTB.out _ (Hid.out (by assumption)))).mono ?_
            rintro e w3 ⟨rfl, hb3⟩
            have HB3 := Lib.hid (HB2.out.trans (hb3.mono HB2.out.size))
            clear hb3
            go_wp2_with fail
            refine (HG.out w3).mono ?_
            rintro e w4 ⟨rfl, hb4⟩
            have HB4 := Lib.hid (HB3.out.trans (hb4.mono HB3.out.size))
            clear hb4
            go_wp2_with fail
            refine (HT.out w4).mono ?_
            rintro e w5 ⟨rfl, hb5⟩
            have HB5 := Lib.hid (HB4.out.trans (hb5.mono HB4.out.size))
            clear hb5
            go_wp2_with fail
            refine (HE.out w5).mono ?_
            rintro e w6 ⟨rfl, hb6⟩
            have HB6 := Lib.hid (HB5.out.trans (hb6.mono HB5.out.size))
            clear hb6
            go_wp2_with fail
            refine (HD2.out w6 (HTB.out _ (Hid.out (by assumption)))).mono ?_
            rintro e w7 ⟨rfl, hb7⟩
            have HB7 := Lib.hid (HB6.out.trans (hb7.mono HB6.out.size))
            clear hb7
            go_wp2_with fail
            refine (HAW.out w7 (HTB.out _ (Hid.out (by assumption)))).mono ?_
            rintro e w8 ⟨rfl, hb8⟩
            have HB8 := Lib.hid (HB7.out.trans (hb8.mono HB7.out.size))
            clear hb8
            go_wp2_with fail
            go_ret
            exact ⟨rfl, HB8.out⟩
          · obtain ⟨ci1, ci2⟩ := code_other ci
            clear HDD ci
            go_enter Tryd.func8, Tryd.ntmps8
            go_wp2_with fail
            refine (HO.out w (HTB.out _ (Hid.out (by assumption)))).mono ?_
            rintro e w1 ⟨rfl, hb1⟩
            have HB1 := Lib.hid hb1
            clear hb1
            go_wp2_with fail
            refine (HN.out w1).mono ?_
            rintro e w2 ⟨rfl, hb2⟩
            have HB2 := Lib.hid (HB1.out.trans (hb2.mono HB1.out.size))
            clear hb2
            go_wp2_with fail
            refine (HD.out w2 (HTB.out _ (Hid.out (by assumption)))).mono ?_
            rintro e w3 ⟨rfl, hb3⟩
            have HB3 := Lib.hid (HB2.out.trans (hb3.mono HB2.out.size))
            clear hb3
            go_wp2_with fail
            refine (HG.out w3).mono ?_
            rintro e w4 ⟨rfl, hb4⟩
            have HB4 := Lib.hid (HB3.out.trans (hb4.mono HB3.out.size))
            clear hb4
            go_wp2_with fail
            refine (HT.out w4).mono ?_
            rintro e w5 ⟨rfl, hb5⟩
            have HB5 := Lib.hid (HB4.out.trans (hb5.mono HB4.out.size))
            clear hb5
            go_wp2_with fail
            refine (HE.out w5).mono ?_
            rintro e w6 ⟨rfl, hb6⟩
            have HB6 := Lib.hid (HB5.out.trans (hb6.mono HB5.out.size))
            clear hb6
            go_wp2_with fail
            refine (HAW.out w6 (HTB.out _ (Hid.out (by assumption)))).mono ?_
            rintro e w7 ⟨rfl, hb7⟩
            have HB7 := Lib.hid (HB6.out.trans (hb7.mono HB6.out.size))
            clear hb7
            go_wp2_with fail
            go_ret
            exact ⟨rfl, HB7.out⟩
      · obtain ⟨ck1, ck2⟩ := code_other ck
        clear HOB ck
        by_cases ch : h = 0
        · obtain ⟨ch1, ch2⟩ := code_zero ch
          have HC2 := Lib.hid (HCT.out ch)
          have u5 : ((T3.size : Int) != width) = false := by rw [HWT.out ch]; exact bne_self_eq_false _
          clear HCT HWT ch
          by_cases ci : i = 0
          · obtain ⟨ci1, ci2⟩ := code_zero ci
            have HD2 := Lib.hid (HDD.out ci)
            clear HDD ci
            go_enter Tryd.func8, Tryd.ntmps8
            go_wp2_with fail
            refine (HO.out w (HTB.out _ (Hid.out (by assumption)))).mono ?_
            rintro e w1 ⟨rfl, hb1⟩
            have HB1 := Lib.hid hb1
            clear hb1
            go_wp2_with fail
            refine (HN.out w1).mono ?_
            rintro e w2 ⟨rfl, hb2⟩
            have HB2 := Lib.hid (HB1.out.trans (hb2.mono HB1.out.size))
            clear hb2
            go_wp2_with fail
            refine (HD.out w2 (HTB.out _ (Hid.out (by assumption)))).mono ?_
            rintro e w3 ⟨rfl, hb3⟩
            have HB3 := Lib.hid (HB2.out.trans (hb3.mono HB2.out.size))
            clear hb3
            go_wp2_with fail
            refine (HG.out w3).mono ?_
            rintro e w4 ⟨rfl, hb4⟩
            have HB4 := Lib.hid (HB3.out.trans (hb4.mono HB3.out.size))
            clear hb4
            go_wp2_with fail
            refine (HT.out w4).mono ?_
            rintro e w5 ⟨rfl, hb5⟩
            have HB5 := Lib.hid (HB4.out.trans (hb5.mono HB4.out.size))
            clear hb5
            go_wp2_with fail
            refine (HC2.out w5).mono ?_
            rintro e w6 ⟨rfl, hb6⟩
            have HB6 := Lib.hid (HB5.out.trans (hb6.mono HB5.out.size))
            clear hb6
            go_wp2_with fail
            refine (HE.out w6).mono ?_
            rintro e w7 ⟨rfl, hb7⟩
            have HB7 := Lib.hid (HB6.out.trans (hb7.mono HB6.out.size))
            clear hb7
            go_wp2_with fail
            refine (HD2.out w7 (HTB.out _ (Hid.out (by assumption)))).mono ?_
            rintro e w8 ⟨rfl, hb8⟩
            have HB8 := Lib.hid (HB7.out.trans (hb8.mono HB7.out.size))
            clear hb8
            go_wp2_with fail
            refine (HAW.out w8 (HTB.out _ (Hid.out (by assumption)))).mono ?_
            rintro e w9 ⟨rfl, hb9⟩
            have HB9 := Lib.hid (HB8.out.trans (hb9.mono HB8.out.size))
            clear hb9
            go_wp2_with fail
            go_ret
            exact ⟨rfl, HB9.out⟩
          · obtain ⟨ci1, ci2⟩ := code_other ci
            clear HDD ci
            go_enter Tryd.func8, Tryd.ntmps8
            go_wp2_with fail
            refine (HO.out w (HTB.out _ (Hid.out (by assumption)))).mono ?_
            rintro e w1 ⟨rfl, hb1⟩
            have HB1 := Lib.hid hb1
            clear hb1
            go_wp2_with fail
            refine (HN.out w1).mono ?_
            rintro e w2 ⟨rfl, hb2⟩
            have HB2 := Lib.hid (HB1.out.trans (hb2.mono HB1.out.size))
            clear hb2
            go_wp2_with fail
            refine (HD.out w2 (HTB.out _ (Hid.out (by assumption)))).mono ?_
            rintro e w3 ⟨rfl, hb3⟩
            have HB3 := Lib.hid (HB2.out.trans (hb3.mono HB2.out.size))
            clear hb3
            go_wp2_with fail
            refine (HG.out w3).mono ?_
            rintro e w4 ⟨rfl, hb4⟩
            have HB4 := Lib.hid (HB3.out.trans (hb4.mono HB3.out.size))
            clear hb4
            go_wp2_with fail
            refine (HT.out w4).mono ?_
            rintro e w5 ⟨rfl, hb5⟩
            have HB5 := Lib.hid (HB4.out.trans (hb5.mono HB4.out.size))
            clear hb5
            go_wp2_with fail
            refine (HC2.out w5).mono ?_
            rintro e w6 ⟨rfl, hb6⟩
            have HB6 := Lib.hid (HB5.out.trans (hb6.mono HB5.out.size))
            clear hb6
            go_wp2_with fail
            refine (HE.out w6).mono ?_
            rintro e w7 ⟨rfl, hb7⟩
            have HB7 := Lib.hid (HB6.out.trans (hb7.mono HB6.out.size))
            clear hb7
            go_wp2_with fail
            refine (HAW.out w7 (HTB.out _ (Hid.out (by assumption)))).mono ?_
            rintro e w8 ⟨rfl, hb8⟩
            have HB8 := Lib.hid (HB7.out.trans (hb8.mono HB7.out.size))
            clear hb8
            go_wp2_with fail
            go_ret
            exact ⟨rfl, HB8.out⟩
        · obtain ⟨ch1, ch2⟩ := code_other ch
          clear HCT HWT ch
          by_cases ci : i = 0
          · obtain ⟨ci1, ci2⟩ := code_zero ci
            have HD2 := Lib.hid (HDD.out ci)
            clear HDD ci
            go_enter Tryd.func8, Tryd.ntmps8
            go_wp2_with fail
            refine (HO.out w (HTB.out _ (Hid.out (by assumption)))).mono ?_
            rintro e w1 ⟨rfl, hb1⟩
            have HB1 := Lib.hid hb1
            clear hb1
            go_wp2_with fail
            refine (HN.out w1).mono ?_
            rintro e w2 ⟨rfl, hb2⟩
            have HB2 := Lib.hid (HB1.out.trans (hb2.mono HB1.out.size))
            clear hb2
            go_wp2_with fail
            refine (HD.out w2 (HTB.out _ (Hid.out (by assumption)))).mono ?_
            rintro e w3 ⟨rfl, hb3⟩
            have HB3 := Lib.hid (HB2.out.trans (hb3.mono HB2.out.size))
            clear hb3
            go_wp2_with fail
            refine (HG.out w3).mono ?_
            rintro e w4 ⟨rfl, hb4⟩
            have HB4 := Lib.hid (HB3.out.trans (hb4.mono HB3.out.size))
            clear hb4
            go_wp2_with fail
            refine (HT.out w4).mono ?_
            rintro e w5 ⟨rfl, hb5⟩
            have HB5 := Lib.hid (HB4.out.trans (hb5.mono HB4.out.size))
            clear hb5
            go_wp2_with fail
            refine (HE.out w5).mono ?_
            rintro e w6 ⟨rfl, hb6⟩
            have HB6 := Lib.hid (HB5.out.trans (hb6.mono HB5.out.size))
            clear hb6
            go_wp2_with fail
            refine (HD2.out w6 (HTB.out _ (Hid.out (by assumption)))).mono ?_
            rintro e w7 ⟨rfl, hb7⟩
            have HB7 := Lib.hid (HB6.out.trans (hb7.mono HB6.out.size))
            clear hb7
            go_wp2_with fail
            refine (HAW.out w7 (HTB.out _ (Hid.out (by assumption)))).mono ?_
            rintro e w8 ⟨rfl, hb8⟩
            have HB8 := Lib.hid (HB7.out.trans (hb8.mono HB7.out.size))
            clear hb8
            go_wp2_with fail
            go_ret
            exact ⟨rfl, HB8.out⟩
          · obtain ⟨ci1, ci2⟩ := code_other ci
            clear HDD ci
            go_enter Tryd.func8, Tryd.ntmps8
            go_wp2_with fail
            refine (HO.out w (HTB.out _ (Hid.out (by assumption)))).mono ?_
            rintro e w1 ⟨rfl, hb1⟩
            have HB1 := Lib.hid hb1
            clear hb1
            go_wp2_with fail
            refine (HN.out w1).mono ?_
            rintro e w2 ⟨rfl, hb2⟩
            have HB2 := Lib.hid (HB1.out.trans (hb2.mono HB1.out.size))
            clear hb2
            go_wp2_with fail
            refine (HD.out w2 (HTB.out _ (Hid.out (by assumption)))).mono ?_
            rintro e w3 ⟨rfl, hb3⟩
            have HB3 := Lib.hid (HB2.out.trans (hb3.mono HB2.out.size))
            clear hb3
            go_wp2_with fail
            refine (HG.out w3).mono ?_
            rintro e w4 ⟨rfl, hb4⟩
            have HB4 := Lib.hid (HB3.out.trans (hb4.mono HB3.out.size))
            clear hb4
            go_wp2_with fail
            refine (HT.out w4).mono ?_
            rintro e w5 ⟨rfl, hb5⟩
            have HB5 := Lib.hid (HB4.out.trans (hb5.mono HB4.out.size))
            clear hb5
            go_wp2_with fail
            refine (HE.out w5).mono ?_
            rintro e w6 ⟨rfl, hb6⟩
            have HB6 := Lib.hid (HB5.out.trans (hb6.mono HB5.out.size))
            clear hb6
            go_wp2_with fail
            refine (HAW.out w6 (HTB.out _ (Hid.out (by assumption)))).mono ?_
            rintro e w7 ⟨rfl, hb7⟩
            have HB7 := Lib.hid (HB6.out.trans (hb7.mono HB6.out.size))
            clear hb7
            go_wp2_with fail
            go_ret
            exact ⟨rfl, HB7.out⟩
    · have c2 : decide (0 ≤ n) = false := decide_eq_false cn
      clear HGB
      by_cases ck : k = 0
      · obtain ⟨ck1, ck2⟩ := code_zero ck
        obtain ⟨v1, v2, v3⟩ := HOB.out ck (by omega)
        have u1 : ((m : Int) != n) = false := by rw [v1]; exact bne_self_eq_false _
        obtain ⟨u3, u2⟩ := code_zero v2
        have u4 : ((T1.size : Int) != width) = false := by rw [v3]; exact bne_self_eq_false _
        clear v1 v2 v3
        clear HOB ck
        by_cases ch : h = 0
        · obtain ⟨ch1, ch2⟩ := code_zero ch
          have HC2 := Lib.hid (HCT.out ch)
          have u5 : ((T3.size : Int) != width) = false := by rw [HWT.out ch]; exact bne_self_eq_false _
          clear HCT HWT ch
          by_cases ci : i = 0
          · obtain ⟨ci1, ci2⟩ := code_zero ci
            have HD2 := Lib.hid (HDD.out ci)
            clear HDD ci
            go_enter Tryd.func8, Tryd.ntmps8
            go_wp2_with fail
            refine (HO.out w (HTB.out _ (Hid.out (by assumption)))).mono ?_
            rintro e w1 ⟨rfl, hb1⟩
            have HB1 := Lib.hid hb1
            clear hb1
            go_wp2_with fail
            refine (HN.out w1).mono ?_
            rintro e w2 ⟨rfl, hb2⟩
            have HB2 := Lib.hid (HB1.out.trans (hb2.mono HB1.out.size))
            clear hb2
            go_wp2_with fail
            refine (HD.out w2 (HTB.out _ (Hid.out (by assumption)))).mono ?_
            rintro e w3 ⟨rfl, hb3⟩
            have HB3 := Lib.hid (HB2.out.trans (hb3.mono HB2.out.size))
            clear hb3
            go_wp2_with fail
            refine (HG.out w3).mono ?_
            rintro e w4 ⟨rfl, hb4⟩
            have HB4 := Lib.hid (HB3.out.trans (hb4.mono HB3.out.size))
            clear hb4
            go_wp2_with fail
            refine (HT.out w4).mono ?_
            rintro e w5 ⟨rfl, hb5⟩
            have HB5 := Lib.hid (HB4.out.trans (hb5.mono HB4.out.size))
            clear hb5
            go_wp2_with fail
            refine (HC2.out w5).mono ?_
            rintro e w6 ⟨rfl, hb6⟩
            have HB6 := Lib.hid (HB5.out.trans (hb6.mono HB5.out.size))
            clear hb6
            go_wp2_with fail
            refine (HE.out w6).mono ?_
            rintro e w7 ⟨rfl, hb7⟩
            have HB7 := Lib.hid (HB6.out.trans (hb7.mono HB6.out.size))
            clear hb7
            go_wp2_with fail
            refine (HD2.out w7 (HTB.out _ (Hid.out (by assumption)))).mono ?_
            rintro e w8 ⟨rfl, hb8⟩
            have HB8 := Lib.hid (HB7.out.trans (hb8.mono HB7.out.size))
            clear hb8
            go_wp2_with fail
            refine (HAW.out w8 (HTB.out _ (Hid.out (by assumption)))).mono ?_
            rintro e w9 ⟨rfl, hb9⟩
            have HB9 := Lib.hid (HB8.out.trans (hb9.mono HB8.out.size))
            clear hb9
            go_wp2_with fail
            go_ret
            exact ⟨rfl, HB9.out⟩
          · obtain ⟨ci1, ci2⟩ := code_other ci
            clear HDD ci
            go_enter Tryd.func8, Tryd.ntmps8
            go_wp2_with fail
            refine (HO.out w (HTB.out _ (Hid.out (by assumption)))).mono ?_
            rintro e w1 ⟨rfl, hb1⟩
            have HB1 := Lib.hid hb1
            clear hb1
            go_wp2_with fail
            refine (HN.out w1).mono ?_
            rintro e w2 ⟨rfl, hb2⟩
            have HB2 := Lib.hid (HB1.out.trans (hb2.mono HB1.out.size))
            clear hb2
            go_wp2_with fail
            refine (HD.out w2 (HTB.out _ (Hid.out (by assumption)))).mono ?_
            rintro e w3 ⟨rfl, hb3⟩
            have HB3 := Lib.hid (HB2.out.trans (hb3.mono HB2.out.size))
            clear hb3
            go_wp2_with fail
            refine (HG.out w3).mono ?_
            rintro e w4 ⟨rfl, hb4⟩
            have HB4 := Lib.hid (HB3.out.trans (hb4.mono HB3.out.size))
            clear hb4
            go_wp2_with fail
            refine (HT.out w4).mono ?_
            rintro e w5 ⟨rfl, hb5⟩
            have HB5 := Lib.hid (HB4.out.trans (hb5.mono HB4.out.size))
            clear hb5
            go_wp2_with fail
            refine (HC2.out w5).mono ?_
            rintro e w6 ⟨rfl, hb6⟩
            have HB6 := Lib.hid (HB5.out.trans (hb6.mono HB5.out.size))
            clear hb6
            go_wp2_with fail
            refine (HE.out w6).mono ?_
            rintro e w7 ⟨rfl, hb7⟩
            have HB7 := Lib.hid (HB6.out.trans (hb7.mono HB6.out.size))
            clear hb7
            go_wp2_with fail
            refine (HAW.out w7 (HTB.out _ (Hid.out (by assumption)))).mono ?_
            rintro e w8 ⟨rfl, hb8⟩
            have HB8 := Lib.hid (HB7.out.trans (hb8.mono HB7.out.size))
            clear hb8
            go_wp2_with fail
            go_ret
            exact ⟨rfl, HB8.out⟩
        · obtain ⟨ch1, ch2⟩ := code_other ch
          clear HCT HWT ch
          by_cases ci : i = 0
          · obtain ⟨ci1, ci2⟩ := code_zero ci
            have HD2 := Lib.hid (HDD.out ci)
            clear HDD ci
            go_enter Tryd.func8, Tryd.ntmps8
            go_wp2_with fail
            refine (HO.out w (HTB.out _ (Hid.out (by assumption)))).mono ?_
            rintro e w1 ⟨rfl, hb1⟩
            have HB1 := Lib.hid hb1
            clear hb1
            go_wp2_with fail
            refine (HN.out w1).mono ?_
            rintro e w2 ⟨rfl, hb2⟩
            have HB2 := Lib.hid (HB1.out.trans (hb2.mono HB1.out.size))
            clear hb2
            go_wp2_with fail
            refine (HD.out w2 (HTB.out _ (Hid.out (by assumption)))).mono ?_
            rintro e w3 ⟨rfl, hb3⟩
            have HB3 := Lib.hid (HB2.out.trans (hb3.mono HB2.out.size))
            clear hb3
            go_wp2_with fail
            refine (HG.out w3).mono ?_
            rintro e w4 ⟨rfl, hb4⟩
            have HB4 := Lib.hid (HB3.out.trans (hb4.mono HB3.out.size))
            clear hb4
            go_wp2_with fail
            refine (HT.out w4).mono ?_
            rintro e w5 ⟨rfl, hb5⟩
            have HB5 := Lib.hid (HB4.out.trans (hb5.mono HB4.out.size))
            clear hb5
            go_wp2_with fail
            refine (HE.out w5).mono ?_
            rintro e w6 ⟨rfl, hb6⟩
            have HB6 := Lib.hid (HB5.out.trans (hb6.mono HB5.out.size))
            clear hb6
            go_wp2_with fail
            refine (HD2.out w6 (HTB.out _ (Hid.out (by assumption)))).mono ?_
            rintro e w7 ⟨rfl, hb7⟩
            have HB7 := Lib.hid (HB6.out.trans (hb7.mono HB6.out.size))
            clear hb7
            go_wp2_with fail
            refine (HAW.out w7 (HTB.out _ (Hid.out (by assumption)))).mono ?_
            rintro e w8 ⟨rfl, hb8⟩
            have HB8 := Lib.hid (HB7.out.trans (hb8.mono HB7.out.size))
            clear hb8
            go_wp2_with fail
            go_ret
            exact ⟨rfl, HB8.out⟩
          · obtain ⟨ci1, ci2⟩ := code_other ci
            clear HDD ci
            go_enter Tryd.func8, Tryd.ntmps8
            go_wp2_with fail
            refine (HO.out w (HTB.out _ (Hid.out (by assumption)))).mono ?_
            rintro e w1 ⟨rfl, hb1⟩
            have HB1 := Lib.hid hb1
            clear hb1
            go_wp2_with fail
            refine (HN.out w1).mono ?_
            rintro e w2 ⟨rfl, hb2⟩
            have HB2 := Lib.hid (HB1.out.trans (hb2.mono HB1.out.size))
            clear hb2
            go_wp2_with fail
            refine (HD.out w2 (HTB.out _ (Hid.out (by assumption)))).mono ?_
            rintro e w3 ⟨rfl, hb3⟩
            have HB3 := Lib.hid (HB2.out.trans (hb3.mono HB2.out.size))
            clear hb3
            go_wp2_with fail
            refine (HG.out w3).mono ?_
            rintro e w4 ⟨rfl, hb4⟩
            have HB4 := Lib.hid (HB3.out.trans (hb4.mono HB3.out.size))
            clear hb4
            go_wp2_with fail
            refine (HT.out w4).mono ?_
            rintro e w5 ⟨rfl, hb5⟩
            have HB5 := Lib.hid (HB4.out.trans (hb5.mono HB4.out.size))
            clear hb5
            go_wp2_with fail
            refine (HE.out w5).mono ?_
            rintro e w6 ⟨rfl, hb6⟩
            have HB6 := Lib.hid (HB5.out.trans (hb6.mono HB5.out.size))
            clear hb6
            go_wp2_with fail
            refine (HAW.out w6 (HTB.out _ (Hid.out (by assumption)))).mono ?_
            rintro e w7 ⟨rfl, hb7⟩
            have HB7 := Lib.hid (HB6.out.trans (hb7.mono HB6.out.size))
            clear hb7
            go_wp2_with fail
            go_ret
            exact ⟨rfl, HB7.out⟩
      · obtain ⟨ck1, ck2⟩ := code_other ck
        clear HOB ck
        by_cases ch : h = 0
        · obtain ⟨ch1, ch2⟩ := code_zero ch
          have HC2 := Lib.hid (HCT.out ch)
          have u5 : ((T3.size : Int) != width) = false := by rw [HWT.out ch]; exact bne_self_eq_false _
          clear HCT HWT ch
          by_cases ci : i = 0
          · obtain ⟨ci1, ci2⟩ := code_zero ci
            have HD2 := Lib.hid (HDD.out ci)
            clear HDD ci
            go_enter Tryd.func8, Tryd.ntmps8
            go_wp2_with fail
            refine (HO.out w (HTB.out _ (Hid.out (by assumption)))).mono ?_
            rintro e w1 ⟨rfl, hb1⟩
            have HB1 := Lib.hid hb1
            clear hb1
            go_wp2_with fail
            refine (HN.out w1).mono ?_
            rintro e w2 ⟨rfl, hb2⟩
            have HB2 := Lib.hid (HB1.out.trans (hb2.mono HB1.out.size))
            clear hb2
            go_wp2_with fail
            refine (HD.out w2 (HTB.out _ (Hid.out (by assumption)))).mono ?_
            rintro e w3 ⟨rfl, hb3⟩
            have HB3 := Lib.hid (HB2.out.trans (hb3.mono HB2.out.size))
            clear hb3
            go_wp2_with fail
            refine (HG.out w3).mono ?_
            rintro e w4 ⟨rfl, hb4⟩
            have HB4 := Lib.hid (HB3.out.trans (hb4.mono HB3.out.size))
            clear hb4
            go_wp2_with fail
            refine (HT.out w4).mono ?_
            rintro e w5 ⟨rfl, hb5⟩
            have HB5 := Lib.hid (HB4.out.trans (hb5.mono HB4.out.size))
            clear hb5
            go_wp2_with fail
            refine (HC2.out w5).mono ?_
            rintro e w6 ⟨rfl, hb6⟩
            have HB6 := Lib.hid (HB5.out.trans (hb6.mono HB5.out.size))
            clear hb6
            go_wp2_with fail
            refine (HE.out w6).mono ?_
            rintro e w7 ⟨rfl, hb7⟩
            have HB7 := Lib.hid (HB6.out.trans (hb7.mono HB6.out.size))
            clear hb7
            go_wp2_with fail
            refine (HD2.out w7 (HTB.out _ (Hid.out (by assumption)))).mono ?_
            rintro e w8 ⟨rfl, hb8⟩
            have HB8 := Lib.hid (HB7.out.trans (hb8.mono HB7.out.size))
            clear hb8
            go_wp2_with fail
            refine (HAW.out w8 (HTB.out _ (Hid.out (by assumption)))).mono ?_
            rintro e w9 ⟨rfl, hb9⟩
            have HB9 := Lib.hid (HB8.out.trans (hb9.mono HB8.out.size))
            clear hb9
            go_wp2_with fail
            go_ret
            exact ⟨rfl, HB9.out⟩
          · obtain ⟨ci1, ci2⟩ := code_other ci
            clear HDD ci
            go_enter Tryd.func8, Tryd.ntmps8
            go_wp2_with fail
            refine (HO.out w (HTB.out _ (Hid.out (by assumption)))).mono ?_
            rintro e w1 ⟨rfl, hb1⟩
            have HB1 := Lib.hid hb1
            clear hb1
            go_wp2_with fail
            refine (HN.out w1).mono ?_
            rintro e w2 ⟨rfl, hb2⟩
            have HB2 := Lib.hid (HB1.out.trans (hb2.mono HB1.out.size))
            clear hb2
            go_wp2_with fail
            refine (HD.out w2 (HTB.out _ (Hid.out (by assumption)))).mono ?_
            rintro e w3 ⟨rfl, hb3⟩
            have HB3 := Lib.hid (HB2.out.trans (hb3.mono HB2.out.size))
            clear hb3
            go_wp2_with fail
            refine (HG.out w3).mono ?_
            rintro e w4 ⟨rfl, hb4⟩
            have HB4 := Lib.hid (HB3.out.trans (hb4.mono HB3.out.size))
            clear hb4
            go_wp2_with fail
            refine (HT.out w4).mono ?_
            rintro e w5 ⟨rfl, hb5⟩
            have HB5 := Lib.hid (HB4.out.trans (hb5.mono HB4.out.size))
            clear hb5
            go_wp2_with fail
            refine (HC2.out w5).mono ?_
            rintro e w6 ⟨rfl, hb6⟩
            have HB6 := Lib.hid (HB5.out.trans (hb6.mono HB5.out.size))
            clear hb6
            go_wp2_with fail
            refine (HE.out w6).mono ?_
            rintro e w7 ⟨rfl, hb7⟩
            have HB7 := Lib.hid (HB6.out.trans (hb7.mono HB6.out.size))
            clear hb7
            go_wp2_with fail
            refine (HAW.out w7 (HTB.out _ (Hid.out (by assumption)))).mono ?_
            rintro e w8 ⟨rfl, hb8⟩
            have HB8 := Lib.hid (HB7.out.trans (hb8.mono HB7.out.size))
            clear hb8
            go_wp2_with fail
            go_ret
            exact ⟨rfl, HB8.out⟩
        · obtain ⟨ch1, ch2⟩ := code_other ch
          clear HCT HWT ch
          by_cases ci : i = 0
          · obtain ⟨ci1, ci2⟩ := code_zero ci
            have HD2 := Lib.hid (HDD.out ci)
            clear HDD ci
            go_enter Tryd.func8, Tryd.ntmps8
            go_wp2_with fail
            refine (HO.out w (HTB.out _ (Hid.out (by assumption)))).mono ?_
            rintro e w1 ⟨rfl, hb1⟩
            have HB1 := Lib.hid hb1
            clear hb1
            go_wp2_with fail
            refine (HN.out w1).mono ?_
            rintro e w2 ⟨rfl, hb2⟩
            have HB2 := Lib.hid (HB1.out.trans (hb2.mono HB1.out.size))
            clear hb2
            go_wp2_with fail
            refine (HD.out w2 (HTB.out _ (Hid.out (by assumption)))).mono ?_
            rintro e w3 ⟨rfl, hb3⟩
            have HB3 := Lib.hid (HB2.out.trans (hb3.mono HB2.out.size))
            clear hb3
            go_wp2_with fail
            refine (HG.out w3).mono ?_
            rintro e w4 ⟨rfl, hb4⟩
            have HB4 := Lib.hid (HB3.out.trans (hb4.mono HB3.out.size))
            clear hb4
            go_wp2_with fail
            refine (HT.out w4).mono ?_
            rintro e w5 ⟨rfl, hb5⟩
            have HB5 := Lib.hid (HB4.out.trans (hb5.mono HB4.out.size))
            clear hb5
            go_wp2_with fail
            refine (HE.out w5).mono ?_
            rintro e w6 ⟨rfl, hb6⟩
            have HB6 := Lib.hid (HB5.out.trans (hb6.mono HB5.out.size))
            clear hb6
            go_wp2_with fail
            refine (HD2.out w6 (HTB.out _ (Hid.out (by assumption)))).mono ?_
            rintro e w7 ⟨rfl, hb7⟩
            have HB7 := Lib.hid (HB6.out.trans (hb7.mono HB6.out.size))
            clear hb7
            go_wp2_with fail
            refine (HAW.out w7 (HTB.out _ (Hid.out (by assumption)))).mono ?_
            rintro e w8 ⟨rfl, hb8⟩
            have HB8 := Lib.hid (HB7.out.trans (hb8.mono HB7.out.size))
            clear hb8
            go_wp2_with fail
            go_ret
            exact ⟨rfl, HB8.out⟩
          · obtain ⟨ci1, ci2⟩ := code_other ci
            clear HDD ci
            go_enter Tryd.func8, Tryd.ntmps8
            go_wp2_with fail
            refine (HO.out w (HTB.out _ (Hid.out (by assumption)))).mono ?_
            rintro e w1 ⟨rfl, hb1⟩
            have HB1 := Lib.hid hb1
            clear hb1
            go_wp2_with fail
            refine (HN.out w1).mono ?_
            rintro e w2 ⟨rfl, hb2⟩
            have HB2 := Lib.hid (HB1.out.trans (hb2.mono HB1.out.size))
            clear hb2
            go_wp2_with fail
            refine (HD.out w2 (HTB.out _ (Hid.out (by assumption)))).mono ?_
            rintro e w3 ⟨rfl, hb3⟩
            have HB3 := Lib.hid (HB2.out.trans (hb3.mono HB2.out.size))
            clear hb3
            go_wp2_with fail
            refine (HG.out w3).mono ?_
            rintro e w4 ⟨rfl, hb4⟩
            have HB4 := Lib.hid (HB3.out.trans (hb4.mono HB3.out.size))
            clear hb4
            go_wp2_with fail
            refine (HT.out w4).mono ?_
            rintro e w5 ⟨rfl, hb5⟩
            have HB5 := Lib.hid (HB4.out.trans (hb5.mono HB4.out.size))
            clear hb5
            go_wp2_with fail
            refine (HE.out w5).mono ?_
            rintro e w6 ⟨rfl, hb6⟩
            have HB6 := Lib.hid (HB5.out.trans (hb6.mono HB5.out.size))
            clear hb6
            go_wp2_with fail
            refine (HAW.out w6 (HTB.out _ (Hid.out (by assumption)))).mono ?_
            rintro e w7 ⟨rfl, hb7⟩
            have HB7 := Lib.hid (HB6.out.trans (hb7.mono HB6.out.size))
            clear hb7
            go_wp2_with fail
            go_ret
            exact ⟨rfl, HB7.out⟩
  · have c1 : decide (n ≤ 9007199254740992) = false := decide_eq_false cb
    have c2 : decide (0 ≤ n) = true := decide_eq_true (by omega)
    clear HGB
    by_cases ck : k = 0
    · obtain ⟨ck1, ck2⟩ := code_zero ck
      clear HOB ck
      by_cases ch : h = 0
      · obtain ⟨ch1, ch2⟩ := code_zero ch
        have HC2 := Lib.hid (HCT.out ch)
        have u5 : ((T3.size : Int) != width) = false := by rw [HWT.out ch]; exact bne_self_eq_false _
        clear HCT HWT ch
        by_cases ci : i = 0
        · obtain ⟨ci1, ci2⟩ := code_zero ci
          have HD2 := Lib.hid (HDD.out ci)
          clear HDD ci
          go_enter Tryd.func8, Tryd.ntmps8
          go_wp2_with fail
          refine (HO.out w (HTB.out _ (Hid.out (by assumption)))).mono ?_
          rintro e w1 ⟨rfl, hb1⟩
          have HB1 := Lib.hid hb1
          clear hb1
          go_wp2_with fail
          refine (HN.out w1).mono ?_
          rintro e w2 ⟨rfl, hb2⟩
          have HB2 := Lib.hid (HB1.out.trans (hb2.mono HB1.out.size))
          clear hb2
          go_wp2_with fail
          refine (HD.out w2 (HTB.out _ (Hid.out (by assumption)))).mono ?_
          rintro e w3 ⟨rfl, hb3⟩
          have HB3 := Lib.hid (HB2.out.trans (hb3.mono HB2.out.size))
          clear hb3
          go_wp2_with fail
          refine (HG.out w3).mono ?_
          rintro e w4 ⟨rfl, hb4⟩
          have HB4 := Lib.hid (HB3.out.trans (hb4.mono HB3.out.size))
          clear hb4
          go_wp2_with fail
          refine (HT.out w4).mono ?_
          rintro e w5 ⟨rfl, hb5⟩
          have HB5 := Lib.hid (HB4.out.trans (hb5.mono HB4.out.size))
          clear hb5
          go_wp2_with fail
          refine (HC2.out w5).mono ?_
          rintro e w6 ⟨rfl, hb6⟩
          have HB6 := Lib.hid (HB5.out.trans (hb6.mono HB5.out.size))
          clear hb6
          go_wp2_with fail
          refine (HE.out w6).mono ?_
          rintro e w7 ⟨rfl, hb7⟩
          have HB7 := Lib.hid (HB6.out.trans (hb7.mono HB6.out.size))
          clear hb7
          go_wp2_with fail
          refine (HD2.out w7 (HTB.out _ (Hid.out (by assumption)))).mono ?_
          rintro e w8 ⟨rfl, hb8⟩
          have HB8 := Lib.hid (HB7.out.trans (hb8.mono HB7.out.size))
          clear hb8
          go_wp2_with fail
          refine (HAW.out w8 (HTB.out _ (Hid.out (by assumption)))).mono ?_
          rintro e w9 ⟨rfl, hb9⟩
          have HB9 := Lib.hid (HB8.out.trans (hb9.mono HB8.out.size))
          clear hb9
          go_wp2_with fail
          go_ret
          exact ⟨rfl, HB9.out⟩
        · obtain ⟨ci1, ci2⟩ := code_other ci
          clear HDD ci
          go_enter Tryd.func8, Tryd.ntmps8
          go_wp2_with fail
          refine (HO.out w (HTB.out _ (Hid.out (by assumption)))).mono ?_
          rintro e w1 ⟨rfl, hb1⟩
          have HB1 := Lib.hid hb1
          clear hb1
          go_wp2_with fail
          refine (HN.out w1).mono ?_
          rintro e w2 ⟨rfl, hb2⟩
          have HB2 := Lib.hid (HB1.out.trans (hb2.mono HB1.out.size))
          clear hb2
          go_wp2_with fail
          refine (HD.out w2 (HTB.out _ (Hid.out (by assumption)))).mono ?_
          rintro e w3 ⟨rfl, hb3⟩
          have HB3 := Lib.hid (HB2.out.trans (hb3.mono HB2.out.size))
          clear hb3
          go_wp2_with fail
          refine (HG.out w3).mono ?_
          rintro e w4 ⟨rfl, hb4⟩
          have HB4 := Lib.hid (HB3.out.trans (hb4.mono HB3.out.size))
          clear hb4
          go_wp2_with fail
          refine (HT.out w4).mono ?_
          rintro e w5 ⟨rfl, hb5⟩
          have HB5 := Lib.hid (HB4.out.trans (hb5.mono HB4.out.size))
          clear hb5
          go_wp2_with fail
          refine (HC2.out w5).mono ?_
          rintro e w6 ⟨rfl, hb6⟩
          have HB6 := Lib.hid (HB5.out.trans (hb6.mono HB5.out.size))
          clear hb6
          go_wp2_with fail
          refine (HE.out w6).mono ?_
          rintro e w7 ⟨rfl, hb7⟩
          have HB7 := Lib.hid (HB6.out.trans (hb7.mono HB6.out.size))
          clear hb7
          go_wp2_with fail
          refine (HAW.out w7 (HTB.out _ (Hid.out (by assumption)))).mono ?_
          rintro e w8 ⟨rfl, hb8⟩
          have HB8 := Lib.hid (HB7.out.trans (hb8.mono HB7.out.size))
          clear hb8
          go_wp2_with fail
          go_ret
          exact ⟨rfl, HB8.out⟩
      · obtain ⟨ch1, ch2⟩ := code_other ch
        clear HCT HWT ch
        by_cases ci : i = 0
        · obtain ⟨ci1, ci2⟩ := code_zero ci
          have HD2 := Lib.hid (HDD.out ci)
          clear HDD ci
          go_enter Tryd.func8, Tryd.ntmps8
          go_wp2_with fail
          refine (HO.out w (HTB.out _ (Hid.out (by assumption)))).mono ?_
          rintro e w1 ⟨rfl, hb1⟩
          have HB1 := Lib.hid hb1
          clear hb1
          go_wp2_with fail
          refine (HN.out w1).mono ?_
          rintro e w2 ⟨rfl, hb2⟩
          have HB2 := Lib.hid (HB1.out.trans (hb2.mono HB1.out.size))
          clear hb2
          go_wp2_with fail
          refine (HD.out w2 (HTB.out _ (Hid.out (by assumption)))).mono ?_
          rintro e w3 ⟨rfl, hb3⟩
          have HB3 := Lib.hid (HB2.out.trans (hb3.mono HB2.out.size))
          clear hb3
          go_wp2_with fail
          refine (HG.out w3).mono ?_
          rintro e w4 ⟨rfl, hb4⟩
          have HB4 := Lib.hid (HB3.out.trans (hb4.mono HB3.out.size))
          clear hb4
          go_wp2_with fail
          refine (HT.out w4).mono ?_
          rintro e w5 ⟨rfl, hb5⟩
          have HB5 := Lib.hid (HB4.out.trans (hb5.mono HB4.out.size))
          clear hb5
          go_wp2_with fail
          refine (HE.out w5).mono ?_
          rintro e w6 ⟨rfl, hb6⟩
          have HB6 := Lib.hid (HB5.out.trans (hb6.mono HB5.out.size))
          clear hb6
          go_wp2_with fail
          refine (HD2.out w6 (HTB.out _ (Hid.out (by assumption)))).mono ?_
          rintro e w7 ⟨rfl, hb7⟩
          have HB7 := Lib.hid (HB6.out.trans (hb7.mono HB6.out.size))
          clear hb7
          go_wp2_with fail
          refine (HAW.out w7 (HTB.out _ (Hid.out (by assumption)))).mono ?_
          rintro e w8 ⟨rfl, hb8⟩
          have HB8 := Lib.hid (HB7.out.trans (hb8.mono HB7.out.size))
          clear hb8
          go_wp2_with fail
          go_ret
          exact ⟨rfl, HB8.out⟩
        · obtain ⟨ci1, ci2⟩ := code_other ci
          clear HDD ci
          go_enter Tryd.func8, Tryd.ntmps8
          go_wp2_with fail
          refine (HO.out w (HTB.out _ (Hid.out (by assumption)))).mono ?_
          rintro e w1 ⟨rfl, hb1⟩
          have HB1 := Lib.hid hb1
          clear hb1
          go_wp2_with fail
          refine (HN.out w1).mono ?_
          rintro e w2 ⟨rfl, hb2⟩
          have HB2 := Lib.hid (HB1.out.trans (hb2.mono HB1.out.size))
          clear hb2
          go_wp2_with fail
          refine (HD.out w2 (HTB.out _ (Hid.out (by assumption)))).mono ?_
          rintro e w3 ⟨rfl, hb3⟩
          have HB3 := Lib.hid (HB2.out.trans (hb3.mono HB2.out.size))
          clear hb3
          go_wp2_with fail
          refine (HG.out w3).mono ?_
          rintro e w4 ⟨rfl, hb4⟩
          have HB4 := Lib.hid (HB3.out.trans (hb4.mono HB3.out.size))
          clear hb4
          go_wp2_with fail
          refine (HT.out w4).mono ?_
          rintro e w5 ⟨rfl, hb5⟩
          have HB5 := Lib.hid (HB4.out.trans (hb5.mono HB4.out.size))
          clear hb5
          go_wp2_with fail
          refine (HE.out w5).mono ?_
          rintro e w6 ⟨rfl, hb6⟩
          have HB6 := Lib.hid (HB5.out.trans (hb6.mono HB5.out.size))
          clear hb6
          go_wp2_with fail
          refine (HAW.out w6 (HTB.out _ (Hid.out (by assumption)))).mono ?_
          rintro e w7 ⟨rfl, hb7⟩
          have HB7 := Lib.hid (HB6.out.trans (hb7.mono HB6.out.size))
          clear hb7
          go_wp2_with fail
          go_ret
          exact ⟨rfl, HB7.out⟩
    · obtain ⟨ck1, ck2⟩ := code_other ck
      clear HOB ck
      by_cases ch : h = 0
      · obtain ⟨ch1, ch2⟩ := code_zero ch
        have HC2 := Lib.hid (HCT.out ch)
        have u5 : ((T3.size : Int) != width) = false := by rw [HWT.out ch]; exact bne_self_eq_false _
        clear HCT HWT ch
        by_cases ci : i = 0
        · obtain ⟨ci1, ci2⟩ := code_zero ci
          have HD2 := Lib.hid (HDD.out ci)
          clear HDD ci
          go_enter Tryd.func8, Tryd.ntmps8
          go_wp2_with fail
          refine (HO.out w (HTB.out _ (Hid.out (by assumption)))).mono ?_
          rintro e w1 ⟨rfl, hb1⟩
          have HB1 := Lib.hid hb1
          clear hb1
          go_wp2_with fail
          refine (HN.out w1).mono ?_
          rintro e w2 ⟨rfl, hb2⟩
          have HB2 := Lib.hid (HB1.out.trans (hb2.mono HB1.out.size))
          clear hb2
          go_wp2_with fail
          refine (HD.out w2 (HTB.out _ (Hid.out (by assumption)))).mono ?_
          rintro e w3 ⟨rfl, hb3⟩
          have HB3 := Lib.hid (HB2.out.trans (hb3.mono HB2.out.size))
          clear hb3
          go_wp2_with fail
          refine (HG.out w3).mono ?_
          rintro e w4 ⟨rfl, hb4⟩
          have HB4 := Lib.hid (HB3.out.trans (hb4.mono HB3.out.size))
          clear hb4
          go_wp2_with fail
          refine (HT.out w4).mono ?_
          rintro e w5 ⟨rfl, hb5⟩
          have HB5 := Lib.hid (HB4.out.trans (hb5.mono HB4.out.size))
          clear hb5
          go_wp2_with fail
          refine (HC2.out w5).mono ?_
          rintro e w6 ⟨rfl, hb6⟩
          have HB6 := Lib.hid (HB5.out.trans (hb6.mono HB5.out.size))
          clear hb6
          go_wp2_with fail
          refine (HE.out w6).mono ?_
          rintro e w7 ⟨rfl, hb7⟩
          have HB7 := Lib.hid (HB6.out.trans (hb7.mono HB6.out.size))
          clear hb7
          go_wp2_with fail
          refine (HD2.out w7 (HTB.out _ (Hid.out (by assumption)))).mono ?_
          rintro e w8 ⟨rfl, hb8⟩
          have HB8 := Lib.hid (HB7.out.trans (hb8.mono HB7.out.size))
          clear hb8
          go_wp2_with fail
          refine (HAW.out w8 (HTB.out _ (Hid.out (by assumption)))).mono ?_
          rintro e w9 ⟨rfl, hb9⟩
          have HB9 := Lib.hid (HB8.out.trans (hb9.mono HB8.out.size))
          clear hb9
          go_wp2_with fail
          go_ret
          exact ⟨rfl, HB9.out⟩
        · obtain ⟨ci1, ci2⟩ := code_other ci
          clear HDD ci
          go_enter Tryd.func8, Tryd.ntmps8
          go_wp2_with fail
          refine (HO.out w (HTB.out _ (Hid.out (by assumption)))).mono ?_
          rintro e w1 ⟨rfl, hb1⟩
          have HB1 := Lib.hid hb1
          clear hb1
          go_wp2_with fail
          refine (HN.out w1).mono ?_
          rintro e w2 ⟨rfl, hb2⟩
          have HB2 := Lib.hid (HB1.out.trans (hb2.mono HB1.out.size))
          clear hb2
          go_wp2_with fail
          refine (HD.out w2 (HTB.out _ (Hid.out (by assumption)))).mono ?_
          rintro e w3 ⟨rfl, hb3⟩
          have HB3 := Lib.hid (HB2.out.trans (hb3.mono HB2.out.size))
          clear hb3
          go_wp2_with fail
          refine (HG.out w3).mono ?_
          rintro e w4 ⟨rfl, hb4⟩
          have HB4 := Lib.hid (HB3.out.trans (hb4.mono HB3.out.size))
          clear hb4
          go_wp2_with fail
          refine (HT.out w4).mono ?_
          rintro e w5 ⟨rfl, hb5⟩
          have HB5 := Lib.hid (HB4.out.trans (hb5.mono HB4.out.size))
          clear hb5
          go_wp2_with fail
          refine (HC2.out w5).mono ?_
          rintro e w6 ⟨rfl, hb6⟩
          have HB6 := Lib.hid (HB5.out.trans (hb6.mono HB5.out.size))
          clear hb6
          go_wp2_with fail
          refine (HE.out w6).mono ?_
          rintro e w7 ⟨rfl, hb7⟩
          have HB7 := Lib.hid (HB6.out.trans (hb7.mono HB6.out.size))
          clear hb7
          go_wp2_with fail
          refine (HAW.out w7 (HTB.out _ (Hid.out (by assumption)))).mono ?_
          rintro e w8 ⟨rfl, hb8⟩
          have HB8 := Lib.hid (HB7.out.trans (hb8.mono HB7.out.size))
          clear hb8
          go_wp2_with fail
          go_ret
          exact ⟨rfl, HB8.out⟩
      · obtain ⟨ch1, ch2⟩ := code_other ch
        clear HCT HWT ch
        by_cases ci : i = 0
        · obtain ⟨ci1, ci2⟩ := code_zero ci
          have HD2 := Lib.hid (HDD.out ci)
          clear HDD ci
          go_enter Tryd.func8, Tryd.ntmps8
          go_wp2_with fail
          refine (HO.out w (HTB.out _ (Hid.out (by assumption)))).mono ?_
          rintro e w1 ⟨rfl, hb1⟩
          have HB1 := Lib.hid hb1
          clear hb1
          go_wp2_with fail
          refine (HN.out w1).mono ?_
          rintro e w2 ⟨rfl, hb2⟩
          have HB2 := Lib.hid (HB1.out.trans (hb2.mono HB1.out.size))
          clear hb2
          go_wp2_with fail
          refine (HD.out w2 (HTB.out _ (Hid.out (by assumption)))).mono ?_
          rintro e w3 ⟨rfl, hb3⟩
          have HB3 := Lib.hid (HB2.out.trans (hb3.mono HB2.out.size))
          clear hb3
          go_wp2_with fail
          refine (HG.out w3).mono ?_
          rintro e w4 ⟨rfl, hb4⟩
          have HB4 := Lib.hid (HB3.out.trans (hb4.mono HB3.out.size))
          clear hb4
          go_wp2_with fail
          refine (HT.out w4).mono ?_
          rintro e w5 ⟨rfl, hb5⟩
          have HB5 := Lib.hid (HB4.out.trans (hb5.mono HB4.out.size))
          clear hb5
          go_wp2_with fail
          refine (HE.out w5).mono ?_
          rintro e w6 ⟨rfl, hb6⟩
          have HB6 := Lib.hid (HB5.out.trans (hb6.mono HB5.out.size))
          clear hb6
          go_wp2_with fail
          refine (HD2.out w6 (HTB.out _ (Hid.out (by assumption)))).mono ?_
          rintro e w7 ⟨rfl, hb7⟩
          have HB7 := Lib.hid (HB6.out.trans (hb7.mono HB6.out.size))
          clear hb7
          go_wp2_with fail
          refine (HAW.out w7 (HTB.out _ (Hid.out (by assumption)))).mono ?_
          rintro e w8 ⟨rfl, hb8⟩
          have HB8 := Lib.hid (HB7.out.trans (hb8.mono HB7.out.size))
          clear hb8
          go_wp2_with fail
          go_ret
          exact ⟨rfl, HB8.out⟩
        · obtain ⟨ci1, ci2⟩ := code_other ci
          clear HDD ci
          go_enter Tryd.func8, Tryd.ntmps8
          go_wp2_with fail
          refine (HO.out w (HTB.out _ (Hid.out (by assumption)))).mono ?_
          rintro e w1 ⟨rfl, hb1⟩
          have HB1 := Lib.hid hb1
          clear hb1
          go_wp2_with fail
          refine (HN.out w1).mono ?_
          rintro e w2 ⟨rfl, hb2⟩
          have HB2 := Lib.hid (HB1.out.trans (hb2.mono HB1.out.size))
          clear hb2
          go_wp2_with fail
          refine (HD.out w2 (HTB.out _ (Hid.out (by assumption)))).mono ?_
          rintro e w3 ⟨rfl, hb3⟩
          have HB3 := Lib.hid (HB2.out.trans (hb3.mono HB2.out.size))
          clear hb3
          go_wp2_with fail
          refine (HG.out w3).mono ?_
          rintro e w4 ⟨rfl, hb4⟩
          have HB4 := Lib.hid (HB3.out.trans (hb4.mono HB3.out.size))
          clear hb4
          go_wp2_with fail
          refine (HT.out w4).mono ?_
          rintro e w5 ⟨rfl, hb5⟩
          have HB5 := Lib.hid (HB4.out.trans (hb5.mono HB4.out.size))
          clear hb5
          go_wp2_with fail
          refine (HE.out w5).mono ?_
          rintro e w6 ⟨rfl, hb6⟩
          have HB6 := Lib.hid (HB5.out.trans (hb6.mono HB5.out.size))
          clear hb6
          go_wp2_with fail
          refine (HAW.out w6 (HTB.out _ (Hid.out (by assumption)))).mono ?_
          rintro e w7 ⟨rfl, hb7⟩
          have HB7 := Lib.hid (HB6.out.trans (hb7.mono HB6.out.size))
          clear hb7
          go_wp2_with fail
          go_ret
          exact ⟨rfl, HB7.out⟩
end
end Go.Proofs.YthnmodbfejmibaaDoor
