/- How much of a text fits: plain, run by run; and the program's Fit. Conditions: a text of at most 2097152 bytes. -/
import Derived.Test.YtihmlhkjafajmaaHb
namespace Go.Proofs.Ytihmlhkjafajmaa
open Go.RowKit

/-- What a run of k is written in. -/
def wlen (k : Nat) : Nat := if k < 4 then k else 5
theorem runN_take (x : UInt8) : ∀ (m : Nat) (l : List UInt8) (q : Nat), q ≤ runN x m l → runN x m (l.take q) = q
  | 0, l, q, h => by
    obtain rfl : q = 0 := by simpa [runN] using h
    rfl
  | m + 1, [], q, h => by
    obtain rfl : q = 0 := by simpa [runN] using h
    rfl
  | m + 1, y :: l, 0, _ => rfl
  | m + 1, y :: l, q + 1, h => by
    unfold runN at h
    by_cases e : y = x
    · rw [if_pos e] at h
      rw [List.take_succ_cons]
      unfold runN
      rw [if_pos e, runN_take x m l q (by omega)]
    · rw [if_neg e] at h
      omega
theorem runN_take_ge (x : UInt8) : ∀ (m : Nat) (l : List UInt8) (q : Nat), runN x m l ≤ q → runN x m (l.take q) = runN x m l
  | 0, l, q, _ => by simp [runN]
  | m + 1, [], q, _ => by simp
  | m + 1, y :: l, 0, h => by
    rw [List.take_zero]
    unfold runN at h ⊢
    by_cases e : y = x
    · rw [if_pos e] at h; omega
    · rw [if_neg e]
  | m + 1, y :: l, q + 1, h => by
    rw [List.take_succ_cons]
    unfold runN at h ⊢
    by_cases e : y = x
    · rw [if_pos e] at h ⊢
      rw [if_pos e, runN_take_ge x m l q (by omega)]
    · rw [if_neg e, if_neg e]
theorem head_take (l : List UInt8) (m : Nat) (h : m ≤ headRun l) : headRun (l.take m) = m := by
  cases l with
  | nil => simp [headRun] at h ⊢; omega
  | cons x l =>
    cases m with
    | zero => rfl
    | succ m =>
      rw [List.take_succ_cons]
      have h' : m + 1 ≤ runN x 254 l + 1 := h
      show runN x 254 (l.take m) + 1 = m + 1
      rw [runN_take x 254 l m (by omega)]
theorem head_take_ge (l : List UInt8) (m : Nat) (h : headRun l ≤ m) : headRun (l.take m) = headRun l := by
  cases l with
  | nil => simp
  | cons x l =>
    cases m with
    | zero => simp [headRun] at h
    | succ m =>
      rw [List.take_succ_cons]
      have h' : runN x 254 l + 1 ≤ m + 1 := h
      show runN x 254 (l.take m) + 1 = runN x 254 l + 1
      rw [runN_take_ge x 254 l m (by omega)]
theorem piece_length (l : List UInt8) (k : Nat) (h : k ≤ l.length) : (pieceL l k).length = wlen k := by
  unfold pieceL wlen
  split
  · rw [List.length_take]; omega
  · rw [List.length_append, List.length_take, List.length_singleton]; omega
/-- A run, cut. -/
theorem encL_cut (l : List UInt8) (m : Nat) (h : m ≤ headRun l) : (encL (l.take m)).length = wlen m := by
  have hl := (headRun_le l).2
  by_cases h0 : m = 0
  · subst h0; rfl
  · have hne : l.take m ≠ [] := fun e => by
      have := congrArg List.length e
      rw [List.length_take, List.length_nil] at this
      omega
    have hz : (l.take m).drop m = [] := List.drop_eq_nil_of_le (by rw [List.length_take]; omega)
    rw [encL_step _ hne, head_take l m h, hz, encL_nil, List.append_nil, piece_length _ _ (by rw [List.length_take]; omega)]
theorem encL_split (l : List UInt8) (m : Nat) (hl : l ≠ []) (h : headRun l ≤ m) : encL (l.take m) = encL (l.take (headRun l)) ++ encL ((l.drop (headRun l)).take (m - headRun l)) := by
  have hp : 0 < headRun l := by cases l with
    | nil => exact absurd rfl hl
    | cons x l => exact headRun_pos x l
  have hle := (headRun_le l).2
  have hne : l.take m ≠ [] := fun e => by
    have := congrArg List.length e
    rw [List.length_take, List.length_nil] at this
    omega
  have hne2 : l.take (headRun l) ≠ [] := fun e => by
    have := congrArg List.length e
    rw [List.length_take, List.length_nil] at this
    omega
  have hz : (l.take (headRun l)).drop (headRun l) = [] := List.drop_eq_nil_of_le (by rw [List.length_take]; omega)
  have hpc : ∀ a, headRun l ≤ a → pieceL (l.take a) (headRun l) = pieceL l (headRun l) := by
    intro a ha
    unfold pieceL
    split
    · rw [List.take_take, Nat.min_eq_left ha]
    · rw [List.take_take, Nat.min_eq_left (by omega)]
  rw [encL_step _ hne, head_take_ge l m h, encL_step _ hne2, head_take l _ (Nat.le_refl _), hz, encL_nil, List.append_nil, hpc m h, hpc _ (Nat.le_refl _), List.drop_take]

/-- At n a run begins. -/
def Begins (l : List UInt8) (n : Nat) : Prop := ∀ m, n ≤ m → (encL (l.take m)).length = (encL (l.take n)).length + (encL ((l.drop n).take (m - n))).length
theorem begins_zero (l : List UInt8) : Begins l 0 := fun m _ => by
  rw [List.take_zero, encL_nil, List.drop_zero]
  simp
theorem begins_next {l : List UInt8} {n : Nat} (h : Begins l n) (hn : n < l.length) : Begins l (n + headRun (l.drop n)) := by
  intro m hm
  have hne : l.drop n ≠ [] := fun e => by
    have := congrArg List.length e
    rw [List.length_drop, List.length_nil] at this
    omega
  rw [h m (by omega), h (n + headRun (l.drop n)) (by omega), encL_split _ (m - n) hne (by omega), List.length_append, Nat.add_sub_cancel_left, List.drop_drop, show m - n - headRun (l.drop n) = m - (n + headRun (l.drop n)) by omega]
  omega
theorem begins_in {l : List UInt8} {n : Nat} (h : Begins l n) (q : Nat) (hq : q ≤ headRun (l.drop n)) : (encL (l.take (n + q))).length = (encL (l.take n)).length + wlen q := by
  rw [h (n + q) (by omega), Nat.add_sub_cancel_left, encL_cut _ q hq]

/-- What fits, when the next run does not. -/
theorem fit_stop {l : List UInt8} {most left : Int} {n k : Nat} (hb : Begins l n) (hn : n < l.length) (hk : headRun (l.drop n) = k) (hleft : left = most - (encL (l.take n)).length) (h0 : n = 0 ∨ 0 ≤ left) (hno : left < wlen k) :
    IsFit l most (n + (min (max left 0) 3).toNat) ∧ n + (min (max left 0) 3).toNat < l.length := by
  obtain ⟨e, he⟩ : ∃ e, (min (max left 0) 3).toNat = e := ⟨_, rfl⟩
  rw [he]
  have hpos : 0 < k := by
    rw [← hk]
    cases hd : l.drop n with
    | nil =>
      have := congrArg List.length hd
      rw [List.length_drop, List.length_nil] at this
      omega
    | cons x r => exact headRun_pos x r
  have hkl : k ≤ l.length - n := by
    have := (headRun_le (l.drop n)).2
    rw [List.length_drop] at this
    omega
  have hek : e < k := by
    unfold wlen at hno
    split at hno <;> omega
  have h1 := begins_in hb e (by omega)
  have h2 := begins_in hb (e + 1) (by omega)
  refine ⟨⟨by omega, fun m hm1 hm2 => ?_, fun _ => ?_⟩, by omega⟩
  · have h3 := encL_take_le l m (n + e) hm2
    have h4 : wlen e = e := by unfold wlen; rw [if_pos (by omega)]
    rw [h1, h4] at h3
    rcases h0 with h0 | h0
    · subst h0
      have : (e : Int) ≤ left := by omega
      omega
    · omega
  · rw [show n + e + 1 = n + (e + 1) by omega, h2]
    have h5 : left < wlen (e + 1) := by
      unfold wlen at hno ⊢
      split at hno <;> split <;> omega
    omega
theorem fit_all {l : List UInt8} {most left : Int} {n : Nat} (hn : n = l.length) (hleft : left = most - (encL (l.take n)).length) (h0 : n = 0 ∨ 0 ≤ left) : IsFit l most n := by
  refine ⟨by omega, fun m hm1 hm2 => ?_, fun h => by omega⟩
  have h3 := encL_take_le l m n hm2
  omega


set_option maxHeartbeats 1600000 in
set_option maxRecDepth 1000000 in
theorem cfit_any (w : World) (s : ByteArray) (most : Int) (hs : s.size ≤ 2097152) (hm1 : -9223372036854775808 ≤ most) (hm2 : most ≤ 9223372036854775807) :
    Calls Try.prog 14 #[.string s, .int .i64 most] w fun e w' => ∃ n : Nat, e = .returned (.int .i64 n) ∧ IsFit s.data.toList most n ∧ Below w.heap.size w w' := by
  have hsl : s.data.toList.length = s.size := rfl
  go_enter Try.func14, Try.ntmps14
  go_wp2_with fail
  go_loopw [1, 5] (fun a i wx => ∃ (left : Int) (n : Nat), a = .int .i64 left ∧ i = .int .i64 n ∧ n ≤ s.size ∧ Begins s.data.toList n ∧ left = most - (encL (s.data.toList.take n)).length ∧ (n = 0 ∨ 0 ≤ left) ∧ -9223372036854775808 ≤ left ∧ left ≤ 9223372036854775807 ∧ Below w.heap.size w wx) (fun _ i _ => s.size - (intOf i).toNat)
  case atStart => exact ⟨most, 0, rfl, rfl, by omega, begins_zero _, by rw [List.take_zero, encL_nil]; simp, .inl rfl, hm1, hm2, Below.refl _ _⟩
  case round =>
    obtain ⟨left, n, rfl, rfl, hn, hbeg, hleft, h0, hl1, hl2, hb⟩ := hrel
    have hsize := hb.size
    by_cases h : n < s.size
    · have hr := crun_any wr (s.extract n s.size) (by rw [ext_drop_size]; omega)
      rw [ext_drop] at hr
      obtain ⟨k, hk⟩ : ∃ k, headRun (s.data.toList.drop n) = k := ⟨_, rfl⟩
      have hk2 := headRun_le (s.data.toList.drop n)
      have hnx := begins_next hbeg h
      have hin := begins_in hbeg k (by omega)
      have hpos : 0 < k := by
        rw [← hk]
        cases hd : s.data.toList.drop n with
        | nil =>
          have := congrArg List.length hd
          rw [List.length_drop, List.length_nil] at this
          omega
        | cons x r => exact headRun_pos x r
      rw [hk] at hr hnx hk2
      rw [List.length_drop, hsl] at hk2
      have hk255 := hk2.1
      have hkn : n + k ≤ s.size := by omega
      have HR := Lib.hid hr
      have HB := Lib.hid hb
      have HK := Lib.hid hk
      have HBEG := Lib.hid hbeg
      have HLEFT := Lib.hid hleft
      have H0 := Lib.hid h0
      have HIN := Lib.hid hin
      have HNX := Lib.hid hnx
      have HSL := Lib.hid hsl
      have hw : (if k < 4 then k else 5 : Nat) = wlen k := rfl
      have hwr : wlen k ≤ 5 := by unfold wlen; split <;> omega
      have hcw := fun w1 : World => cwritten_any w1 k hk255
      simp only [hw] at hcw
      have HW := Lib.hid hcw
      clear hr hb hk hbeg hleft h0 hin hnx hsl hk2 hw hcw
      obtain ⟨q, hq⟩ : ∃ q, wlen k = q := ⟨_, rfl⟩
      have HIN' := HIN.out
      rw [hq] at hwr HW HIN'
      have HIN := Lib.hid HIN'
      have HQ := Lib.hid hq
      clear hq HIN'
      go_wp2_with fail
      refine HR.out.mono ?_
      rintro e w1 ⟨rfl, hb1⟩
      have HB1 := Lib.hid (HB.out.trans (hb1.mono hsize))
      clear hb1
      go_wp2_with fail
      refine (HW.out w1).mono ?_
      rintro e w1 ⟨rfl, rfl⟩
      by_cases hc : left < (q : Int)
      · have hst := fit_stop HBEG.out (by rw [HSL.out]; exact h) HK.out HLEFT.out H0.out (by show left < ((wlen k : Nat) : Int); rw [HQ.out]; exact hc)
        have HST := Lib.hid hst
        have hst2 := hst.2
        rw [HSL.out] at hst2
        obtain ⟨e, he⟩ : ∃ e, e = (min (max left 0) 3).toNat := ⟨_, rfl⟩
        rw [← he] at hst2
        have hf : IsFit s.data.toList most (n + e) := by rw [he]; exact hst.1
        have HF := Lib.hid hf
        clear hst hf
        have h3 : left < 0 ∨ (0 ≤ left ∧ ¬ left < 0 ∧ left ≤ 3 ∧ ¬ (3 < left)) ∨ (0 ≤ left ∧ ¬ left < 0 ∧ 3 < left) := by omega
        rcases h3 with h3 | ⟨h3, h4, h5, h6⟩ | ⟨h3, h4, h5⟩
        · have he2 : e = 0 := by omega
          have HE := Lib.hid he2
          clear he he2
          go_wp2_with fail
          go_ret
          refine ⟨n + e, ?_, HF.out, HB1.out⟩
          rw [HE.out]
          rfl
        · have he2 : left = e := by omega
          have HE := Lib.hid he2
          clear he he2
          go_wp2_with fail
          go_ret
          refine ⟨n + e, ?_, HF.out, HB1.out⟩
          show Ending.returned (.int .i64 ((n : Int) + left)) = _
          rw [HE.out]
          rfl
        · have he2 : e = 3 := by omega
          have HE := Lib.hid he2
          clear he he2
          go_wp2_with fail
          go_ret
          refine ⟨n + e, ?_, HF.out, HB1.out⟩
          rw [HE.out]
          rfl
      · have HL := Lib.hid hl1
        have hl3 : (q : Int) ≤ left := by omega
        have hl4 : (0 : Int) ≤ left - q := by omega
        clear hc
        go_wp2_with fail
        refine (HW.out w1).mono ?_
        rintro e w1 ⟨rfl, rfl⟩
        go_wp2_with fail
        go_roundw
        case rel =>
          refine ⟨left - q, n + k, rfl, by go_num, hkn, HNX.out, ?_, .inr hl4, by omega, by omega, HB1.out⟩
          rw [HIN.out, HLEFT.out]
          omega
        case measure => simp [intOf]; omega
    · have HF := Lib.hid (fit_all (l := s.data.toList) (most := most) (left := left) (n := n) (by rw [hsl]; omega) hleft h0)
      clear hbeg hleft h0
      go_wp2_with fail
      go_ret
      exact ⟨n, rfl, HF.out, hb⟩

end Go.Proofs.Ytihmlhkjafajmaa
