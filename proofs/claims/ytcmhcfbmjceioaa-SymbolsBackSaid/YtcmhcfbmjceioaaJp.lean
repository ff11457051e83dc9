/- The laws SymbolsZeros, SymbolsBack, walked over what is asked of the code's functions. -/
import Derived.Test.YtcmhcfbmjceioaaJo
namespace Go.Proofs.Ytcmhcfbmjceioaa
open Go.RowKit

theorem of_front (s : List UInt8) : ∃ l, frontL s (ofL s) = some l ∧ l.length = s.length := front_some s (ofL s) fun x hx => (ofL_mem s x).2 hx
theorem ofL_size (s : List UInt8) : (ofL s).length ≤ 256 := ofUp_length s 256
theorem frontAns_of (s : List UInt8) (h : s ≠ []) : ∃ l, frontAns s (ofL s) = (l, 0) ∧ frontL s (ofL s) = some l ∧ l.length = s.length := by
  obtain ⟨l, h1, h2⟩ := of_front s
  refine ⟨l, ?_, h1, h2⟩
  unfold frontAns
  rw [if_pos (mayL_of s h), h1]
theorem list_ne (s : ByteArray) (h : 0 < s.size) : s.data.toList ≠ [] := fun h2 => by
  have hsl : s.data.toList.length = s.size := rfl
  rw [h2] at hsl
  simp at hsl
  omega
theorem zin_of {w : World} {A : Option Addr} {n : Nat} {L : List Nat} (h : IntsIn w A n L) : ZIn w A n (L.map fun (x : Nat) => (x : Int)) := by
  refine ⟨by rw [List.length_map]; exact h.1, fun hn => ?_⟩
  obtain ⟨b, off, rfl, hc⟩ := h.2 hn
  refine ⟨b, off, rfl, fun i hi => ?_⟩
  rw [hc i hi, List.getD_eq_getElem?_getD, List.getD_eq_getElem?_getD, List.getElem?_map, List.getElem?_eq_getElem (by rw [h.1]; exact hi)]
  rfl
theorem take_text (x a : List UInt8) (h : MayL a) : takeL (bitsB (x ++ pack (showL a))) (8 * x.length) = (a, 8 * x.length + (showL a).length, 0) := by
  obtain ⟨r, hr, hl⟩ := show_length a
  have hp := bitsB_pack (showL a) (bit01_show a)
  have hz : 8 * (((showL a).length + 7) / 8) - (showL a).length = 0 := by omega
  rw [hz, List.replicate_zero] at hp
  rw [bitsB_append, hp, ← bitsB_length x]
  have := take_show a h (bitsB x) []
  rw [List.append_nil] at this ⊢
  exact this

section
variable (R : SymDone)
include R

set_option maxRecDepth 100000 in
theorem zeros_out (w : World) (s : ByteArray) (ws : s.size ≤ maxLen) (h : s.size = 0 ∨ 5000 < s.size) : Calls Try.prog 9 #[.string s] w fun e w' => e = .returned (.bool true) ∧ Below w.heap.size w w' := by
  unfold maxLen at ws
  have HAW := Lib.hid (awake_any R)
  by_cases h0 : s.size = 0
  · have hd : s = ⟨#[]⟩ := by
      apply ByteArray.ext
      exact Array.eq_empty_of_size_eq_zero h0
    subst hd
    go_enter Try.func9, Try.ntmps9
    go_wp2_with fail
    refine (HAW.out w).mono ?_
    rintro e w1 ⟨rfl, hb⟩
    have HB := Lib.hid hb
    clear hb
    go_wp2_with fail
    go_ret
    exact ⟨rfl, HB.out⟩
  · have d1 : decide ((5000 : Int) < (s.size : Int)) = true := decide_eq_true (by omega)
    have hne := not_empty s (by omega)
    go_enter Try.func9, Try.ntmps9
    go_wp2_with fail
    refine (HAW.out w).mono ?_
    rintro e w1 ⟨rfl, hb⟩
    have HB := Lib.hid hb
    clear hb
    go_wp2_with fail
    go_ret
    exact ⟨rfl, HB.out⟩

set_option maxHeartbeats 1600000 in
set_option maxRecDepth 100000 in
theorem zeros_walk (w : World) (s : ByteArray) (h0 : 0 < s.size) (h : s.size ≤ 5000) : Calls Try.prog 9 #[.string s] w fun e w' => e = .returned (.bool true) ∧ Below w.heap.size w w' := by
  have HAW := Lib.hid (awake_any R)
  have hne := not_empty s h0
  have d1 : decide ((5000 : Int) < (s.size : Int)) = false := decide_eq_false (by omega)
  obtain ⟨l, hans, hfr, hll⟩ := frontAns_of s.data.toList (list_ne s h0)
  have hsl : s.data.toList.length = s.size := rfl
  rw [hsl] at hll
  have HZ := Lib.hid (front_zero s.data.toList (ofL s.data.toList) l hfr)
  have HO := Lib.hid (R.of w s (by omega))
  have hos : (strB (ofL s.data.toList)).size ≤ 256 := ofL_size s.data.toList
  have HF := Lib.hid fun w1 : World => R.front w1 s (strB (ofL s.data.toList)) (by omega) (by omega)
  have HANS := Lib.hid (show frontAns s.data.toList (strB (ofL s.data.toList)).data.toList = (l, 0) from hans)
  have HLL := Lib.hid hll
  have HSL := Lib.hid hsl
  generalize strB (ofL s.data.toList) = a at *
  clear hans hfr hll hsl hos
  go_enter Try.func9, Try.ntmps9
  go_wp2_with fail
  refine HO.out.mono ?_
  rintro e w1 ⟨rfl, hb1⟩
  have HB1 := Lib.hid hb1
  clear hb1
  go_wp2_with fail
  refine (HF.out w1).mono ?_
  rintro e w2 ⟨v, L, c, ha, rfl, hown, hb2⟩
  rw [HANS.out] at ha
  simp only [Prod.mk.injEq] at ha
  obtain ⟨rfl, rfl⟩ := ha
  obtain ⟨A, k, rfl, _⟩ := own_slice hown
  have hin := ints_of_own hown
  rw [HLL.out] at hin ⊢
  obtain ⟨b, off, rfl, hcell⟩ := hin.2 h0
  have HC := Lib.hid hcell
  have HB2 := Lib.hid (HB1.out.trans (hb2.mono HB1.out.size))
  have d2 : ((s.size : Int) != (s.size : Int)) = false := by simp
  clear hown hb2 hin hcell
  go_wp2_with fail
  go_loopw [5] (fun x wx => ∃ i : Nat, 1 ≤ i ∧ i ≤ s.size ∧ x = .int .i64 i ∧ ∃ m, wx = w2.drewN m) (fun x _ => s.size - (intOf x).toNat)
  case atStart => exact ⟨1, Nat.le_refl _, h0, rfl, 0, rfl⟩
  case round =>
    obtain ⟨i, hi1, hi, rfl, hd⟩ := hrel
    have HD := Lib.hid hd
    by_cases e : i < s.size
    · have d3 : decide ((i : Int) < (s.size : Int)) = true := decide_eq_true (by omega)
      have hcw : wr.cell? ⟨b, off + i, none⟩ = some (.int .i64 (l.getD i 0)) := by obtain ⟨m, rfl⟩ := hd; exact HC.out i e
      obtain ⟨j, hj⟩ : ∃ j, j = i - 1 := ⟨_, rfl⟩
      have hjs : j < s.size := by omega
      have hjz : (i : Int) - 1 = (j : Int) := by omega
      have hz := HZ.out i (by omega) (by rw [HSL.out]; exact e)
      rw [← hj, getD_byte s i e, getD_byte s j hjs] at hz
      obtain ⟨x, hx⟩ : ∃ x, x = l.getD i 0 := ⟨_, rfl⟩
      rw [← hx] at hcw hz
      by_cases e1 : s[i] = s[j]
      · have hx0 : x = 0 := hz.2 e1
        have q1 : ((x : Int) == 0) = true := by rw [hx0]; rfl
        have q2 : ((s[i].toNat : Int) == (s[j].toNat : Int)) = true := by rw [e1]; simp
        have HX0 := Lib.hid hx0
        clear hd hj hz hx e1 hx0
        go_wp2_with fail
        go_quiet (fail)
        go_wp2_with fail
        go_roundw
        case rel =>
          obtain ⟨m, hm⟩ := HD.out
          exact ⟨i + 1, by omega, by omega, by go_num, m + nq, by rw [hm]; simp⟩
        case measure => simp [intOf]; omega
      · have hx0 : ¬ x = 0 := fun h2 => e1 (hz.1 h2)
        have q1 : ((x : Int) == 0) = false := by
          simp only [beq_eq_false_iff_ne, ne_eq]
          omega
        have q2 : ((s[i].toNat : Int) == (s[j].toNat : Int)) = false := by
          simp only [beq_eq_false_iff_ne, ne_eq]
          exact fun h2 => e1 (UInt8.toNat_inj.1 (by omega))
        clear hd hj hz hx e1
        go_wp2_with fail
        go_quiet (fail)
        go_wp2_with fail
        go_roundw
        case rel =>
          obtain ⟨m, hm⟩ := HD.out
          exact ⟨i + 1, by omega, by omega, by go_num, m + nq, by rw [hm]; simp⟩
        case measure => simp [intOf]; omega
    · obtain rfl : i = s.size := by omega
      have d3 : decide ((s.size : Int) < (s.size : Int)) = false := decide_eq_false (by omega)
      have hbw : Below w.heap.size w wr := by
        obtain ⟨m, rfl⟩ := hd
        exact below_drewN HB2.out m
      have HBW := Lib.hid hbw
      clear hd hbw
      go_wp2_with fail
      refine (HAW.out wr).mono ?_
      rintro e w4 ⟨rfl, hb4⟩
      have HB4 := Lib.hid (HBW.out.trans (hb4.mono HBW.out.size))
      clear hb4
      go_wp2_with fail
      go_ret
      exact ⟨rfl, HB4.out⟩

set_option maxRecDepth 100000 in
theorem sback_out (w : World) (s a : ByteArray) (ws : s.size ≤ maxLen) (wa : a.size ≤ maxLen) (h : 5000 < s.size ∨ 5000 < a.size) : Calls Try.prog 8 #[.string s, .string a] w fun e w' => e = .returned (.bool true) ∧ Below w.heap.size w w' := by
  unfold maxLen at ws wa
  have HAW := Lib.hid (awake_any R)
  by_cases h1 : 5000 < s.size
  · have d1 : decide ((5000 : Int) < (s.size : Int)) = true := decide_eq_true (by omega)
    go_enter Try.func8, Try.ntmps8
    go_wp2_with fail
    refine (HAW.out w).mono ?_
    rintro e w1 ⟨rfl, hb⟩
    have HB := Lib.hid hb
    clear hb
    go_wp2_with fail
    go_ret
    exact ⟨rfl, HB.out⟩
  · have d1 : decide ((5000 : Int) < (s.size : Int)) = false := decide_eq_false (by omega)
    have h2 : 5000 < a.size := h.resolve_left h1
    have d2 : decide ((5000 : Int) < (a.size : Int)) = true := decide_eq_true (by omega)
    clear h
    go_enter Try.func8, Try.ntmps8
    go_wp2_with fail
    refine (HAW.out w).mono ?_
    rintro e w1 ⟨rfl, hb⟩
    have HB := Lib.hid hb
    clear hb
    go_wp2_with fail
    go_ret
    exact ⟨rfl, HB.out⟩

set_option maxHeartbeats 1600000 in
set_option maxRecDepth 100000 in
theorem sback_none (w : World) (a : ByteArray) (ha : a.size ≤ 5000) : Calls Try.prog 8 #[.string ⟨#[]⟩, .string a] w fun e w' => e = .returned (.bool true) ∧ Below w.heap.size w w' := by
  have HAW := Lib.hid (awake_any R)
  have d2 : decide ((5000 : Int) < (a.size : Int)) = false := decide_eq_false (by omega)
  have hof : ofL (⟨#[]⟩ : ByteArray).data.toList = [] := by decide +kernel
  have ho := R.of w ⟨#[]⟩ (by decide)
  rw [hof] at ho
  have HO := Lib.hid (show Calls Try.prog 10 #[.string ⟨#[]⟩] w fun e w' => e = .returned (.string ⟨#[]⟩) ∧ Below w.heap.size w w' from ho)
  have hnm : ¬ MayL (⟨#[]⟩ : ByteArray).data.toList := fun h => h.1 rfl
  have HF := Lib.hid fun w1 : World => R.front w1 ⟨#[]⟩ ⟨#[]⟩ (by decide) (by decide)
  have HS := Lib.hid fun w1 : World => R.refuses w1 ⟨#[]⟩ (by decide) hnm
  have HANS := Lib.hid (show frontAns (⟨#[]⟩ : ByteArray).data.toList (⟨#[]⟩ : ByteArray).data.toList = ([], 2) from if_neg hnm)
  clear hof ho hnm
  go_enter Try.func8, Try.ntmps8
  go_wp2_with fail
  refine HO.out.mono ?_
  rintro e w1 ⟨rfl, hb1⟩
  have HB1 := Lib.hid hb1
  clear hb1
  go_wp2_with fail
  refine (HF.out w1).mono ?_
  rintro e w2 ⟨v, L, c, hans, rfl, hown, hb2⟩
  rw [HANS.out] at hans
  simp only [Prod.mk.injEq] at hans
  obtain ⟨rfl, rfl⟩ := hans
  have HB2 := Lib.hid (HB1.out.trans (hb2.mono HB1.out.size))
  clear hown hb2
  go_wp2_with fail
  refine (HS.out w2).mono ?_
  rintro e w3 ⟨rfl, hb3⟩
  have HB3 := Lib.hid (HB2.out.trans (hb3.mono HB2.out.size))
  clear hb3
  go_wp2_with fail
  refine (HAW.out _).mono ?_
  rintro e w4 ⟨rfl, hb4⟩
  have HB4 := Lib.hid ((HB3.out.alloc HB3.out.size (.cells #[.string ⟨(pack []).toArray⟩, .int .i64 (([] : List Nat).length : Nat)] 39)).trans (hb4.mono (by have := HB3.out.size; simp; omega)))
  clear hb4
  go_wp2_with fail
  go_ret
  exact ⟨rfl, HB4.out⟩
end

end Go.Proofs.Ytcmhcfbmjceioaa
