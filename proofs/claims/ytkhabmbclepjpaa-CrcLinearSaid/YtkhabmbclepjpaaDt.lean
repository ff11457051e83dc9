/- The law CrcLinear, walked: of three texts of one length the sum of their exclusive or is the exclusive or of their sums. -/
import Derived.Test.YtkhabmbclepjpaaDr
namespace Go.Proofs.Ytkhabmbclepjpaa
open Go.RowKit

theorem cut_size (s : ByteArray) (n : Nat) (h : n ≤ s.size) : (s.extract 0 n).size = n := by
  rw [ByteArray.size_extract]; omega
theorem mixB_size (A B : List UInt8) (n : Nat) (hA : A.length = n) (hB : B.length = n) : (mixB A B).size = n := by
  show (List.zipWith (· ^^^ ·) A B).length = n
  rw [List.length_zipWith]; omega
theorem mixB_three (A B C : List UInt8) : (mixB (mixB A B).data.toList C).data.toList = List.zipWith (· ^^^ ·) (List.zipWith (· ^^^ ·) A B) C := by simp [mixB]
theorem cbzipF_any (w : World) (s : ByteArray) (hs : s.size ≤ 9223372036854775807) :
    Calls Try.prog 9 #[.string s] w fun e w' => e = .returned (.int .u32 (bzipF s.data.toList)) ∧ Below w.heap.size w w' := cbzip_any w s hs

theorem xor_three {p a b c : Nat} (ha : a < 4294967296) (hb : b < 4294967296) (hc : c < 4294967296) (h : p = a ^^^ b ^^^ c) : bits .xor .u32 (bits .xor .u32 (a : Int) (b : Int)) (c : Int) = (p : Int) := by
  rw [u32_xor_nat _ _ ha hb, u32_xor_nat _ _ (Nat.xor_lt_two_pow (n := 32) ha hb) hc, h]
/-- The call told: a sum, and nothing that was there has turned. -/
def Sums (f : Nat) (s : ByteArray) (p : Nat) : Prop := ∀ w : World, Calls Try.prog f #[.string s] w fun e w' => e = .returned (.int .u32 p) ∧ Below w.heap.size w w'
theorem sums_three (A B C : ByteArray) (n : Nat) (hA : A.size = n) (hB : B.size = n) (hC : C.size = n) (hn : n ≤ 140737488355328) : ∃ p pa pb pc q qa qb qc : Nat,
    Hid ((bits .xor .u32 (bits .xor .u32 (pa : Int) (pb : Int)) (pc : Int) = (p : Int) ∧ bits .xor .u32 (bits .xor .u32 (qa : Int) (qb : Int)) (qc : Int) = (q : Int)) ∧
      Sums 9 (mixB (mixB A.data.toList B.data.toList).data.toList C.data.toList) p ∧ Sums 9 A pa ∧ Sums 9 B pb ∧ Sums 9 C pc ∧
      Sums 14 (mixB (mixB A.data.toList B.data.toList).data.toList C.data.toList) q ∧ Sums 14 A qa ∧ Sums 14 B qb ∧ Sums 14 C qc) := by
  have hM := mixB_size A.data.toList B.data.toList n hA hB
  have hE := mixB_size (mixB A.data.toList B.data.toList).data.toList C.data.toList n hM hC
  have h1 : A.data.toList.length = B.data.toList.length := Eq.trans hA hB.symm
  have h2 : A.data.toList.length = C.data.toList.length := Eq.trans hA hC.symm
  refine ⟨bzipF (mixB (mixB A.data.toList B.data.toList).data.toList C.data.toList).data.toList, bzipF A.data.toList, bzipF B.data.toList, bzipF C.data.toList, ieeeF (mixB (mixB A.data.toList B.data.toList).data.toList C.data.toList).data.toList, ieeeF A.data.toList, ieeeF B.data.toList, ieeeF C.data.toList, Lib.hid ⟨⟨?_, ?_⟩, ?_⟩⟩
  · refine xor_three (bzipF_lt _) (bzipF_lt _) (bzipF_lt _) ?_
    rw [mixB_three]
    exact bzipF_three _ _ _ h1 h2
  · refine xor_three (ieeeF_lt _) (ieeeF_lt _) (ieeeF_lt _) ?_
    rw [mixB_three]
    exact ieeeF_three _ _ _ h1 h2
  · exact ⟨fun w => cbzipF_any w _ (by omega), fun w => cbzipF_any w _ (by omega), fun w => cbzipF_any w _ (by omega), fun w => cbzipF_any w _ (by omega),
      fun w => cieee_any w _ (by omega), fun w => cieee_any w _ (by omega), fun w => cieee_any w _ (by omega), fun w => cieee_any w _ (by omega)⟩

set_option maxHeartbeats 1600000 in
theorem linear_walk (w : World) (a b c : ByteArray) (ha : a.size ≤ 140737488355328) (hb : b.size ≤ 140737488355328) (hc : c.size ≤ 140737488355328) :
    Calls Try.prog 8 #[.string a, .string b, .string c] w fun e w' => e = .returned (.bool true) ∧ Below w.heap.size w w' := by
  go_enter Try.func8, Try.ntmps8
  go_wp2_with fail
  · obtain ⟨n, hn, la, lb, lc⟩ : ∃ n, n = c.size ∧ n ≤ a.size ∧ n ≤ b.size ∧ n ≤ c.size := ⟨_, rfl, by split at h <;> omega, by split at h <;> omega, by split at h <;> omega⟩
    rw [← hn]
    clear h
    have HA := Lib.hid (cut_size a n la)
    have HB := Lib.hid (cut_size b n lb)
    have HC := Lib.hid (cut_size c n lc)
    have hn2 : n ≤ 140737488355328 := by omega
    have HN := Lib.hid hn
    clear hn
    go_region
    go_wp2_with fail
    generalize a.extract 0 n = A at *
    generalize b.extract 0 n = B at *
    generalize c.extract 0 n = C at *
    have HM := Lib.hid (mixB_size A.data.toList B.data.toList n HA.out HB.out)
    obtain ⟨p, pa, pb, pc, q, qa, qb, qc, HF⟩ := sums_three A B C n HA.out HB.out HC.out hn2
    generalize hD : mixB A.data.toList B.data.toList = D at *
    generalize hE : mixB D.data.toList C.data.toList = E at *
    have HD := Lib.hid hD
    have HE := Lib.hid hE
    clear hD hE
    refine (mixed_any w.drew A B n HA.out HB.out hn2).mono ?_
    rintro e w1 ⟨rfl, hb1⟩
    rw [HD.out]
    have H1 := Lib.hid (Below.trans (Below.drew (Below.refl w.heap.size w)) (hb1.mono (Nat.le_refl _)))
    clear hb1
    go_wp2_with fail
    refine (mixed_any w1 D C n HM.out HC.out hn2).mono ?_
    rintro e w2 ⟨rfl, hb2⟩
    rw [HE.out]
    have H2 := Lib.hid (H1.out.trans (hb2.mono H1.out.size))
    clear hb2
    obtain ⟨hp, hq⟩ := HF.out.1
    have HG := Lib.hid HF.out.2
    clear HF
    go_wp2_with fail
    refine (HG.out.1 w2).mono ?_
    rintro e w3 ⟨rfl, hb3⟩
    have H3 := Lib.hid (H2.out.trans (hb3.mono H2.out.size))
    clear hb3
    go_wp2_with fail
    refine (HG.out.2.1 w3).mono ?_
    rintro e w4 ⟨rfl, hb4⟩
    have H4 := Lib.hid (H3.out.trans (hb4.mono H3.out.size))
    clear hb4
    go_wp2_with fail
    refine (HG.out.2.2.1 w4).mono ?_
    rintro e w5 ⟨rfl, hb5⟩
    have H5 := Lib.hid (H4.out.trans (hb5.mono H4.out.size))
    clear hb5
    go_wp2_with fail
    refine (HG.out.2.2.2.1 w5).mono ?_
    rintro e w6 ⟨rfl, hb6⟩
    have H6 := Lib.hid (H5.out.trans (hb6.mono H5.out.size))
    clear hb6
    go_wp2_with fail
    refine (HG.out.2.2.2.2.1 w6).mono ?_
    rintro e w7 ⟨rfl, hb7⟩
    have H7 := Lib.hid (H6.out.trans (hb7.mono H6.out.size))
    clear hb7
    go_wp2_with fail
    refine (HG.out.2.2.2.2.2.1 w7).mono ?_
    rintro e w8 ⟨rfl, hb8⟩
    have H8 := Lib.hid (H7.out.trans (hb8.mono H7.out.size))
    clear hb8
    go_wp2_with fail
    refine (HG.out.2.2.2.2.2.2.1 w8).mono ?_
    rintro e w9 ⟨rfl, hb9⟩
    have H9 := Lib.hid (H8.out.trans (hb9.mono H8.out.size))
    clear hb9
    go_wp2_with fail
    refine (HG.out.2.2.2.2.2.2.2 w9).mono ?_
    rintro e wa ⟨rfl, hba⟩
    have Ha := Lib.hid (H9.out.trans (hba.mono H9.out.size))
    clear hba
    go_wp2_with fail
    refine (awake_any wa).mono ?_
    rintro e wb ⟨rfl, hbb⟩
    go_wp2_with fail
    go_ret
    exact ⟨rfl, Ha.out.trans (hbb.mono Ha.out.size)⟩
  · obtain ⟨n, hn, la, lb, lc⟩ : ∃ n, n = b.size ∧ n ≤ a.size ∧ n ≤ b.size ∧ n ≤ c.size := ⟨_, rfl, by omega, by omega, by split at * <;> omega⟩
    rw [← hn]
    clear h
    have HA := Lib.hid (cut_size a n la)
    have HB := Lib.hid (cut_size b n lb)
    have HC := Lib.hid (cut_size c n lc)
    have hn2 : n ≤ 140737488355328 := by omega
    have HN := Lib.hid hn
    clear hn
    go_region
    go_wp2_with fail
    generalize a.extract 0 n = A at *
    generalize b.extract 0 n = B at *
    generalize c.extract 0 n = C at *
    have HM := Lib.hid (mixB_size A.data.toList B.data.toList n HA.out HB.out)
    obtain ⟨p, pa, pb, pc, q, qa, qb, qc, HF⟩ := sums_three A B C n HA.out HB.out HC.out hn2
    generalize hD : mixB A.data.toList B.data.toList = D at *
    generalize hE : mixB D.data.toList C.data.toList = E at *
    have HD := Lib.hid hD
    have HE := Lib.hid hE
    clear hD hE
    refine (mixed_any w.drew A B n HA.out HB.out hn2).mono ?_
    rintro e w1 ⟨rfl, hb1⟩
    rw [HD.out]
    have H1 := Lib.hid (Below.trans (Below.drew (Below.refl w.heap.size w)) (hb1.mono (Nat.le_refl _)))
    clear hb1
    go_wp2_with fail
    refine (mixed_any w1 D C n HM.out HC.out hn2).mono ?_
    rintro e w2 ⟨rfl, hb2⟩
    rw [HE.out]
    have H2 := Lib.hid (H1.out.trans (hb2.mono H1.out.size))
    clear hb2
    obtain ⟨hp, hq⟩ := HF.out.1
    have HG := Lib.hid HF.out.2
    clear HF
    go_wp2_with fail
    refine (HG.out.1 w2).mono ?_
    rintro e w3 ⟨rfl, hb3⟩
    have H3 := Lib.hid (H2.out.trans (hb3.mono H2.out.size))
    clear hb3
    go_wp2_with fail
    refine (HG.out.2.1 w3).mono ?_
    rintro e w4 ⟨rfl, hb4⟩
    have H4 := Lib.hid (H3.out.trans (hb4.mono H3.out.size))
    clear hb4
    go_wp2_with fail
    refine (HG.out.2.2.1 w4).mono ?_
    rintro e w5 ⟨rfl, hb5⟩
    have H5 := Lib.hid (H4.out.trans (hb5.mono H4.out.size))
    clear hb5
    go_wp2_with fail
    refine (HG.out.2.2.2.1 w5).mono ?_
    rintro e w6 ⟨rfl, hb6⟩
    have H6 := Lib.hid (H5.out.trans (hb6.mono H5.out.size))
    clear hb6
    go_wp2_with fail
    refine (HG.out.2.2.2.2.1 w6).mono ?_
    rintro e w7 ⟨rfl, hb7⟩
    have H7 := Lib.hid (H6.out.trans (hb7.mono H6.out.size))
    clear hb7
    go_wp2_with fail
    refine (HG.out.2.2.2.2.2.1 w7).mono ?_
    rintro e w8 ⟨rfl, hb8⟩
    have H8 := Lib.hid (H7.out.trans (hb8.mono H7.out.size))
    clear hb8
    go_wp2_with fail
    refine (HG.out.2.2.2.2.2.2.1 w8).mono ?_
    rintro e w9 ⟨rfl, hb9⟩
    have H9 := Lib.hid (H8.out.trans (hb9.mono H8.out.size))
    clear hb9
    go_wp2_with fail
    refine (HG.out.2.2.2.2.2.2.2 w9).mono ?_
    rintro e wa ⟨rfl, hba⟩
    have Ha := Lib.hid (H9.out.trans (hba.mono H9.out.size))
    clear hba
    go_wp2_with fail
    refine (awake_any wa).mono ?_
    rintro e wb ⟨rfl, hbb⟩
    go_wp2_with fail
    go_ret
    exact ⟨rfl, Ha.out.trans (hbb.mono Ha.out.size)⟩
  · obtain ⟨n, hn, la, lb, lc⟩ : ∃ n, n = a.size ∧ n ≤ a.size ∧ n ≤ b.size ∧ n ≤ c.size := ⟨_, rfl, by omega, by omega, by split at * <;> omega⟩
    rw [← hn]
    clear h
    have HA := Lib.hid (cut_size a n la)
    have HB := Lib.hid (cut_size b n lb)
    have HC := Lib.hid (cut_size c n lc)
    have hn2 : n ≤ 140737488355328 := by omega
    have HN := Lib.hid hn
    clear hn
    go_region
    go_wp2_with fail
    generalize a.extract 0 n = A at *
    generalize b.extract 0 n = B at *
    generalize c.extract 0 n = C at *
    have HM := Lib.hid (mixB_size A.data.toList B.data.toList n HA.out HB.out)
    obtain ⟨p, pa, pb, pc, q, qa, qb, qc, HF⟩ := sums_three A B C n HA.out HB.out HC.out hn2
    generalize hD : mixB A.data.toList B.data.toList = D at *
    generalize hE : mixB D.data.toList C.data.toList = E at *
    have HD := Lib.hid hD
    have HE := Lib.hid hE
    clear hD hE
    refine (mixed_any w.drew A B n HA.out HB.out hn2).mono ?_
    rintro e w1 ⟨rfl, hb1⟩
    rw [HD.out]
    have H1 := Lib.hid (Below.trans (Below.drew (Below.refl w.heap.size w)) (hb1.mono (Nat.le_refl _)))
    clear hb1
    go_wp2_with fail
    refine (mixed_any w1 D C n HM.out HC.out hn2).mono ?_
    rintro e w2 ⟨rfl, hb2⟩
    rw [HE.out]
    have H2 := Lib.hid (H1.out.trans (hb2.mono H1.out.size))
    clear hb2
    obtain ⟨hp, hq⟩ := HF.out.1
    have HG := Lib.hid HF.out.2
    clear HF
    go_wp2_with fail
    refine (HG.out.1 w2).mono ?_
    rintro e w3 ⟨rfl, hb3⟩
    have H3 := Lib.hid (H2.out.trans (hb3.mono H2.out.size))
    clear hb3
    go_wp2_with fail
    refine (HG.out.2.1 w3).mono ?_
    rintro e w4 ⟨rfl, hb4⟩
    have H4 := Lib.hid (H3.out.trans (hb4.mono H3.out.size))
    clear hb4
    go_wp2_with fail
    refine (HG.out.2.2.1 w4).mono ?_
    rintro e w5 ⟨rfl, hb5⟩
    have H5 := Lib.hid (H4.out.trans (hb5.mono H4.out.size))
    clear hb5
    go_wp2_with fail
    refine (HG.out.2.2.2.1 w5).mono ?_
    rintro e w6 ⟨rfl, hb6⟩
    have H6 := Lib.hid (H5.out.trans (hb6.mono H5.out.size))
    clear hb6
    go_wp2_with fail
    refine (HG.out.2.2.2.2.1 w6).mono ?_
    rintro e w7 ⟨rfl, hb7⟩
    have H7 := Lib.hid (H6.out.trans (hb7.mono H6.out.size))
    clear hb7
    go_wp2_with fail
    refine (HG.out.2.2.2.2.2.1 w7).mono ?_
    rintro e w8 ⟨rfl, hb8⟩
    have H8 := Lib.hid (H7.out.trans (hb8.mono H7.out.size))
    clear hb8
    go_wp2_with fail
    refine (HG.out.2.2.2.2.2.2.1 w8).mono ?_
    rintro e w9 ⟨rfl, hb9⟩
    have H9 := Lib.hid (H8.out.trans (hb9.mono H8.out.size))
    clear hb9
    go_wp2_with fail
    refine (HG.out.2.2.2.2.2.2.2 w9).mono ?_
    rintro e wa ⟨rfl, hba⟩
    have Ha := Lib.hid (H9.out.trans (hba.mono H9.out.size))
    clear hba
    go_wp2_with fail
    refine (awake_any wa).mono ?_
    rintro e wb ⟨rfl, hbb⟩
    go_wp2_with fail
    go_ret
    exact ⟨rfl, Ha.out.trans (hbb.mono Ha.out.size)⟩

end Go.Proofs.Ytkhabmbclepjpaa
