/- Two rotations compared, as the program does. Conditions: texts of at most a million bytes. -/
import Derived.Test.YtglcideecelemaaKa
import Derived.Test.YtglcideecelemaaGe
import Derived.Lib.Bytealg
import Derived.Laws.Externs
namespace Go.Proofs.Ytglcideecelemaa
open Go.RowKit

/-- What Cmp answers of two rotations that are there. -/
def cmpV (s : List UInt8) (i j : Nat) : Int := if rotL s i < rotL s j then -1 else if rotL s j < rotL s i then 1 else 0
theorem less_list : ∀ (x y : List UInt8), Op.bytesLess x y = decide (x < y) := by
  intro x
  induction x with
  | nil => intro y; cases y <;> simp [Op.bytesLess]
  | cons a x ih =>
    intro y
    cases y with
    | nil => simp [Op.bytesLess]
    | cons b y =>
      have h := ih y
      simp only [Op.bytesLess, h, List.cons_lt_cons_iff, Bool.decide_or, Bool.decide_and]
      rfl

set_option maxRecDepth 100000 in
theorem there_any (w : World) (s : ByteArray) (i : Int) : Calls Try.prog 22 #[.string s, .int .i64 i] w fun e w' => e = .returned (.bool (decide (0 ≤ i) && decide (i < s.size))) ∧ w = w' := by
  by_cases h : 0 ≤ i
  · by_cases h2 : i < s.size
    · have d1 : decide (0 ≤ i) = true := decide_eq_true h
      have d2 : decide (i < (s.size : Int)) = true := decide_eq_true h2
      go_enter Try.func22, Try.ntmps22
      go_wp2
      go_ret
      exact ⟨by simp [h, h2], rfl⟩
    · have d1 : decide (0 ≤ i) = true := decide_eq_true h
      have d2 : decide (i < (s.size : Int)) = false := decide_eq_false h2
      go_enter Try.func22, Try.ntmps22
      go_wp2
      go_ret
      exact ⟨rfl, rfl⟩
  · have d1 : decide (0 ≤ i) = false := decide_eq_false h
    go_enter Try.func22, Try.ntmps22
    go_wp2
    go_ret
    exact ⟨rfl, rfl⟩
theorem there_yes (w : World) (s : ByteArray) (i : Nat) (h : i < s.size) : Calls Try.prog 22 #[.string s, .int .i64 i] w fun e w' => e = .returned (.bool true) ∧ w = w' := by
  have h1 := there_any w s i
  have e : (decide (0 ≤ (i : Int)) && decide ((i : Int) < (s.size : Int))) = true := by simp; omega
  rwa [e] at h1
theorem there_no (w : World) (s : ByteArray) (i : Int) (h : i < 0 ∨ (s.size : Int) ≤ i) : Calls Try.prog 22 #[.string s, .int .i64 i] w fun e w' => e = .returned (.bool false) ∧ w = w' := by
  have h1 := there_any w s i
  have e : (decide (0 ≤ (i : Int)) && decide ((i : Int) < (s.size : Int))) = false := by simp; omega
  rwa [e] at h1

theorem cmpstr_any (w : World) (a b : ByteArray) : Calls Try.prog 32 #[.string a, .string b] w fun e w' => e = .returned (.int .i64 (Lib.compareBytes a.data.toList b.data.toList)) ∧ w = w' := by
  go_enter Try.func32, Try.ntmps32
  go_wp2
  rw [run_callFunc_extern Try.func38 (by kernel_rfl) (by kernel_rfl) (by kernel_rfl) (e := Extern.BytealgCompare.compare) (by kernel_rfl), Lib.run_compareString]
  simp only [Result.andThen]
  rw [Oper.upon_value]
  go_wp2
  go_ret
  exact ⟨rfl, rfl⟩
theorem compare_str (w : World) (a b : ByteArray) : Calls Try.prog 23 #[.string a, .string b] w fun e w' => e = .returned (.int .i64 (Lib.compareBytes a.data.toList b.data.toList)) ∧ w = w' := by
  go_enter Try.func23, Try.ntmps23
  go_wp2_with (go_at_call 32; refine (cmpstr_any _ _ _).mono ?_; rintro e w' ⟨rfl, rfl⟩)
  go_ret
  exact ⟨rfl, rfl⟩

theorem cb_eq : ∀ a b : List UInt8, Lib.compareBytes a b = if a < b then -1 else if b < a then 1 else 0
  | [], [] => by simp [Lib.compareBytes]
  | [], _ :: _ => by simp [Lib.compareBytes]
  | _ :: _, [] => by simp [Lib.compareBytes]
  | x :: a, y :: b => by
    have ih := cb_eq a b
    unfold Lib.compareBytes
    simp only [List.cons_lt_cons_iff]
    by_cases h1 : x < y
    · simp [h1]
    · by_cases h2 : y < x
      · have h3 : x ≠ y := fun e => by subst e; exact h1 h2
        simp [h1, h2, h3]
      · by_cases h3 : x = y
        · subst h3
          simp [h1, ih]
        · rcases UInt8.lt_or_lt_of_ne h3 with h4 | h4
          · exact absurd h4 h1
          · exact absurd h4 h2

theorem extract_pre (s : ByteArray) (i k : Nat) (h : i + k ≤ s.size) : (s.extract i (i + k)).data.toList = pre s.data.toList k i := by
  have hl : s.data.toList.length = s.size := rfl
  rw [ByteArray.data_extract, Array.toList_extract, List.extract_eq_take_drop, show i + k - i = k by omega]
  apply List.ext_getElem?
  intro q
  by_cases hq : q < k
  · rw [List.getElem?_take_of_lt hq, List.getElem?_drop, pre_get _ _ _ _ hq, rat_some _ _ (by rw [hl]; omega)]
  · rw [List.getElem?_eq_none (by rw [List.length_take]; omega), List.getElem?_eq_none (by rw [pre_length]; omega)]

theorem cmpV_lt {s : List UInt8} {m k i j : Nat} (hi : i ≤ s.length) (hj : j ≤ s.length) (hp : pre s m i = pre s m j) (h : pre s k (i + m) < pre s k (j + m)) : cmpV s i j = -1 := by
  have h1 := pre_lt_rot s (m + k) i j hi hj ((pre_lt_add s m k i j).2 (.inr ⟨hp, h⟩))
  unfold cmpV
  rw [if_pos h1]
theorem cmpV_gt {s : List UInt8} {m k i j : Nat} (hi : i ≤ s.length) (hj : j ≤ s.length) (hp : pre s m i = pre s m j) (h : pre s k (j + m) < pre s k (i + m)) : cmpV s i j = 1 := by
  have h1 := pre_lt_rot s (m + k) j i hj hi ((pre_lt_add s m k j i).2 (.inr ⟨hp.symm, h⟩))
  unfold cmpV
  rw [if_neg (fun h2 => List.lt_irrefl _ (List.lt_trans h1 h2)), if_pos h1]
theorem cmpV_eq {s : List UInt8} {i j : Nat} (hi : i ≤ s.length) (hj : j ≤ s.length) (hp : pre s s.length i = pre s s.length j) : cmpV s i j = 0 := by
  have h1 := pre_eq_rot s s.length i j (Nat.le_refl _) hi hj hp
  unfold cmpV
  rw [h1, if_neg (List.lt_irrefl _), if_neg (List.lt_irrefl _)]

set_option maxHeartbeats 1600000 in
set_option maxRecDepth 100000 in
theorem ccmp_any (w : World) (s : ByteArray) (i0 j0 : Nat) (hi : i0 < s.size) (hj : j0 < s.size) (hs : s.size ≤ 1000000) :
    Calls Try.prog 15 #[.string s, .int .i64 i0, .int .i64 j0] w fun e w' => e = .returned (.tuple #[.int .i64 (cmpV s.data.toList i0 j0), .int .i64 0]) ∧ ∃ m, w' = w.drewN m := by
  have HA := Lib.hid (there_yes w s i0 hi)
  have HB := Lib.hid (there_yes w s j0 hj)
  go_enter Try.func15, Try.ntmps15
  go_wp2_with fail
  refine HA.out.mono ?_
  rintro e w1 ⟨rfl, rfl⟩
  go_wp2_with fail
  refine HB.out.mono ?_
  rintro e w1 ⟨rfl, rfl⟩
  go_wp2_with fail
  go_loopw [1, 2, 9] (fun x y l wr => ∃ m i j : Nat, m ≤ s.size ∧ x = .int .i64 i ∧ y = .int .i64 j ∧ l = .int .i64 (s.size - m : Nat) ∧ i = (i0 + m) % s.size ∧ j = (j0 + m) % s.size ∧ pre s.data.toList m i0 = pre s.data.toList m j0 ∧ ∃ d, wr = w.drewN d) (fun _ _ l _ => (intOf l).toNat)
  case atStart => exact ⟨0, i0, j0, Nat.zero_le _, rfl, rfl, by go_num, by rw [Nat.add_zero, Nat.mod_eq_of_lt hi], by rw [Nat.add_zero, Nat.mod_eq_of_lt hj], rfl, 0, rfl⟩
  case round =>
    obtain ⟨m, i, j, hm, rfl, rfl, rfl, hi2, hj2, hp, hd⟩ := hrel
    have HD := Lib.hid hd
    clear hd
    have hil : i < s.size := by rw [hi2]; exact Nat.mod_lt _ (by omega)
    have hjl : j < s.size := by rw [hj2]; exact Nat.mod_lt _ (by omega)
    have HI := Lib.hid hi2
    have HJ := Lib.hid hj2
    have HP := Lib.hid hp
    clear hi2 hj2 hp
    by_cases e1 : m < s.size
    · have d1 : decide ((0 : Int) < ((s.size - m : Nat) : Int)) = true := decide_eq_true (by omega)
      have d2 : decide ((0 : Int) < (s.size : Int) - (m : Int)) = true := decide_eq_true (by omega)
      go_upto_region 6 with fail
      go_cut [10] (fun s10 wx => ∃ k : Nat, s10 = .int .i64 k ∧ 1 ≤ k ∧ k ≤ s.size - m ∧ i + k ≤ s.size ∧ j + k ≤ s.size ∧ wx = wr)
      case first =>
        by_cases b1 : s.size - i < s.size - m
        · have f1 : decide ((s.size : Int) - (i : Int) < ((s.size - m : Nat) : Int)) = true := decide_eq_true (by omega)
          by_cases b2 : s.size - j < s.size - i
          · have f2 : decide ((s.size : Int) - (j : Int) < (s.size : Int) - (i : Int)) = true := decide_eq_true (by omega)
            go_wp2_with fail
            go_meet
            exact ⟨s.size - j, by first | rfl | go_num, by omega, by omega, by omega, by omega, rfl⟩
          · have f2 : decide ((s.size : Int) - (j : Int) < (s.size : Int) - (i : Int)) = false := decide_eq_false (by omega)
            go_wp2_with fail
            go_meet
            exact ⟨s.size - i, by first | rfl | go_num, by omega, by omega, by omega, by omega, rfl⟩
        · have f1 : decide ((s.size : Int) - (i : Int) < ((s.size - m : Nat) : Int)) = false := decide_eq_false (by omega)
          by_cases b2 : s.size - j < s.size - m
          · have f2 : decide ((s.size : Int) - (j : Int) < ((s.size - m : Nat) : Int)) = true := decide_eq_true (by omega)
            go_wp2_with fail
            go_meet
            exact ⟨s.size - j, by first | rfl | go_num, by omega, by omega, by omega, by omega, rfl⟩
          · have f2 : decide ((s.size : Int) - (j : Int) < ((s.size - m : Nat) : Int)) = false := decide_eq_false (by omega)
            go_wp2_with fail
            go_meet
            exact ⟨s.size - m, by first | rfl | go_num, by omega, by omega, by omega, by omega, rfl⟩
      case rest =>
        obtain ⟨k, rfl, hk1, hkm, hki, hkj, rfl⟩ := hcut
        have hsl : s.data.toList.length = s.size := rfl
        have xa := extract_pre s i k hki
        have xb := extract_pre s j k hkj
        have HC := Lib.hid fun w1 : World => (compare_str w1 (s.extract i (i + k)) (s.extract j (j + k))).mono fun e W' h => (⟨h.1, 0, h.2.symm⟩ : e = .returned (.int .i64 (Lib.compareBytes (s.extract i (i + k)).data.toList (s.extract j (j + k)).data.toList)) ∧ ∃ m, W' = w1.drewN m)
        obtain ⟨v, hv⟩ : ∃ v, v = Lib.compareBytes (s.extract i (i + k)).data.toList (s.extract j (j + k)).data.toList := ⟨_, rfl⟩
        rw [← hv] at HC
        rw [xa, xb, cb_eq, HI.out, HJ.out, ← hsl, pre_mod, pre_mod] at hv
        have z1 : (s.extract i (i + k)).size = k := by rw [ByteArray.size_extract]; omega
        have z2 : (s.extract j (j + k)).size = k := by rw [ByteArray.size_extract]; omega
        have HSL := Lib.hid hsl
        clear xa xb hsl
        have ea1 : IntKind.i64.wrap ((i : Int) + (k : Int)) = (i : Int) + (k : Int) := IntWalk.i64_in _ (by omega)
        have ea2 : (0 : Int) ≤ (i : Int) + (k : Int) := by omega
        have ea3 : (i : Int) ≤ (i : Int) + (k : Int) := by omega
        have ea4 : (i : Int) + (k : Int) ≤ (s.size : Int) := by omega
        have ea5 : ((i : Int) + (k : Int)).toNat = i + k := by omega
        have eb1 : IntKind.i64.wrap ((j : Int) + (k : Int)) = (j : Int) + (k : Int) := IntWalk.i64_in _ (by omega)
        have eb2 : (0 : Int) ≤ (j : Int) + (k : Int) := by omega
        have eb3 : (j : Int) ≤ (j : Int) + (k : Int) := by omega
        have eb4 : (j : Int) + (k : Int) ≤ (s.size : Int) := by omega
        have eb5 : ((j : Int) + (k : Int)).toNat = j + k := by omega
        by_cases c1 : pre s.data.toList k (i0 + m) < pre s.data.toList k (j0 + m)
        · rw [if_pos c1] at hv
          have HR := Lib.hid (cmpV_lt (by rw [HSL.out]; omega) (by rw [HSL.out]; omega) HP.out c1)
          subst hv
          clear c1
          go_wp2_with fail
          go_quiet (first | (go_at_call 23; exact Calls.quiet_of (HC.out _)))
          go_wp2_with fail
          go_ret2
          obtain ⟨d, hd⟩ := HD.out
          exact ⟨by rw [HR.out]; rfl, d + nq, by rw [hd]; simp⟩
        · rw [if_neg c1] at hv
          by_cases c2 : pre s.data.toList k (j0 + m) < pre s.data.toList k (i0 + m)
          · rw [if_pos c2] at hv
            have HR := Lib.hid (cmpV_gt (by rw [HSL.out]; omega) (by rw [HSL.out]; omega) HP.out c2)
            subst hv
            clear c1 c2
            go_wp2_with fail
            go_quiet (first | (go_at_call 23; exact Calls.quiet_of (HC.out _)))
            go_wp2_with fail
            go_ret2
            obtain ⟨d, hd⟩ := HD.out
            exact ⟨by rw [HR.out]; rfl, d + nq, by rw [hd]; simp⟩
          · rw [if_neg c2] at hv
            have HE := Lib.hid (show pre s.data.toList (m + k) i0 = pre s.data.toList (m + k) j0 from (pre_eq_add _ m k i0 j0).2 ⟨HP.out, List.le_antisymm (List.not_lt.1 c2) (List.not_lt.1 c1)⟩)
            subst hv
            clear c1 c2
            go_wp2_with fail
            go_quiet (first | (go_at_call 23; exact Calls.quiet_of (HC.out _)))
            go_wp2_with fail
            have HD2 : Hid (∃ d, wc.drewN nq = w.drewN d) := by
              obtain ⟨d, hd⟩ := HD.out
              exact ⟨d + nq, by rw [hd]; simp⟩
            have ta : ((i : Int) + (k : Int)).tmod (s.size : Int) = (((i + k) % s.size : Nat) : Int) := by
              rw [Int.tmod_eq_emod_of_nonneg (by omega)]
              simp
            have tb : ((j : Int) + (k : Int)).tmod (s.size : Int) = (((j + k) % s.size : Nat) : Int) := by
              rw [Int.tmod_eq_emod_of_nonneg (by omega)]
              simp
            have tn : ((s.size : Int) == 0) = false := beq_false_of_ne (by omega)
            have tl : IntKind.i64.wrap (((s.size - m : Nat) : Int) - (k : Int)) = ((s.size - (m + k) : Nat) : Int) := by
              rw [IntWalk.i64_in _ (by omega)]
              omega
            go_quiet (fail)
            go_wp2_with fail
            go_roundw
            case rel =>
              obtain ⟨d, hd⟩ := HD2.out
              refine ⟨m + k, (i + k) % s.size, (j + k) % s.size, by omega, by first | rfl | go_num, by first | rfl | go_num, by first | rfl | go_num, ?_, ?_, HE.out, d + nq, by rw [hd]; simp⟩
              · rw [HI.out, Nat.mod_add_mod, Nat.add_assoc]
              · rw [HJ.out, Nat.mod_add_mod, Nat.add_assoc]
            case measure => simp [intOf]; omega
    · obtain rfl : m = s.size := by omega
      have hsl : s.data.toList.length = s.size := rfl
      have HR := Lib.hid (cmpV_eq (s := s.data.toList) (i := i0) (j := j0) (by rw [hsl]; omega) (by rw [hsl]; omega) (by rw [hsl]; exact HP.out))
      clear hsl
      have d1 : decide ((0 : Int) < ((s.size - s.size : Nat) : Int)) = false := decide_eq_false (by omega)
      go_wp2_with fail
      go_ret2
      exact ⟨by rw [HR.out]; rfl, HD.out⟩

end Go.Proofs.Ytglcideecelemaa
