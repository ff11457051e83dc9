/- fields.Cut (strings.Cut at a byte 0), Text, Sum. Conditions: texts of at most 2^47 bytes. -/
import Derived.Test.YtiihkjloenlfmaaDoorFwe
import Derived.Test.YtiihkjloenlfmaaDoorFwa
namespace Go.Proofs.YtiihkjloenlfmaaDoor
open Go.RowKit

set_option maxRecDepth 100000 in
theorem zero_idx (l : List UInt8) (b : UInt8) : Lib.indexByte l b = if b ∈ l then ((l.idxOf b : Nat) : Int) else -1 := by
  induction l with
  | nil => simp [Lib.indexByte]
  | cons x l ih =>
    unfold Lib.indexByte
    rw [List.idxOf_cons]
    by_cases e : x = b
    · subst e
      simp
    · have e1 : (x == b) = false := by simpa using e
      have e2 : ¬ b = x := fun h => e h.symm
      rw [e1, ih]
      simp only [Bool.false_eq_true, if_false, cond_false, List.mem_cons, e2, false_or]
      by_cases hm : b ∈ l
      · rw [if_pos hm, if_pos hm]
        have : (((l.idxOf b : Nat) : Int) == -1) = false := by
          rw [beq_eq_false_iff_ne]
          omega
        rw [this]
        simp
      · rw [if_neg hm, if_neg hm]
        simp
set_option maxRecDepth 100000 in
theorem cutZ_in : ∀ s : List UInt8, (0 : UInt8) ∈ s → cutZ s = s.take (s.idxOf 0)
  | [], h => by cases h
  | c :: s, h => by
    rw [cutZ, List.idxOf_cons]
    by_cases e : c = 0
    · subst e
      rfl
    · have e1 : (c == 0) = false := by simpa using e
      rw [if_neg e, e1, cutZ_in s (by rcases List.mem_cons.1 h with q | q; exact absurd q.symm e; exact q)]
      rfl
theorem cutZ_out : ∀ s : List UInt8, (0 : UInt8) ∉ s → cutZ s = s
  | [], _ => rfl
  | c :: s, h => by
    have hc : ¬ c = 0 := fun q => h (by rw [q]; exact List.mem_cons_self)
    rw [cutZ, if_neg hc, cutZ_out s (fun q => h (List.mem_cons_of_mem _ q))]

set_option maxRecDepth 100000 in
theorem zidx_any (w : World) (s : ByteArray) : Calls Tryd.prog 51 #[.string s, .int .u8 0] w fun e w' => e = .returned (.int .i64 (if (0 : UInt8) ∈ s.data.toList then ((s.data.toList.idxOf 0 : Nat) : Int) else -1)) ∧ w' = w := by
  have hrun := Lib.run_indexByteString (P := Tryd.prog) s 0 w
  rw [show ((0 : Int).toNat.toUInt8) = (0 : UInt8) from rfl, zero_idx] at hrun
  have HR := Lib.hid hrun
  clear hrun
  generalize (if (0 : UInt8) ∈ s.data.toList then ((s.data.toList.idxOf 0 : Nat) : Int) else -1) = y at *
  go_enter Tryd.func51, Tryd.ntmps51
  go_wp2_with fail
  rw [run_callFunc_extern Tryd.func64 (by kernel_rfl) (by kernel_rfl) (by kernel_rfl) (e := Extern.BytealgIndexByte.indexByte) (by kernel_rfl), HR.out]
  simp only [Result.andThen]
  rw [Oper.upon_value]
  go_wp2_with fail
  go_ret
  exact ⟨rfl, rfl⟩

set_option maxHeartbeats 1600000 in
set_option maxRecDepth 100000 in
theorem zindex_any (w : World) (s : ByteArray) : Calls Tryd.prog 68 #[.string s, .string ⟨#[0]⟩] w fun e w' => e = .returned (.int .i64 (if (0 : UInt8) ∈ s.data.toList then ((s.data.toList.idxOf 0 : Nat) : Int) else -1)) ∧ w' = w := by
  have HI := Lib.hid (zidx_any w s)
  by_cases e : s = ⟨#[0]⟩
  · subst e
    have d0 : (((⟨#[0]⟩ : ByteArray).toList) == ((⟨#[0]⟩ : ByteArray).toList)) = true := beq_self_eq_true _
    have d1 : ([0] == ((⟨#[0]⟩ : ByteArray).toList)) = true := by rw [ByteArray.toList_eq]; rfl
    rw [show (if (0 : UInt8) ∈ (⟨#[0]⟩ : ByteArray).data.toList then (((⟨#[0]⟩ : ByteArray).data.toList.idxOf 0 : Nat) : Int) else -1) = 0 from by decide]
    go_enter Tryd.func68, Tryd.ntmps68
    go_wp2_with fail
    go_ret
    exact ⟨rfl, rfl⟩
  have d1 : ([0] == s.toList) = false := by
    rw [ByteArray.toList_eq]
    refine beq_false_of_ne fun h => e ?_
    apply ByteArray.ext
    apply Array.toList_inj.1
    exact h.symm
  clear e
  generalize (if (0 : UInt8) ∈ s.data.toList then ((s.data.toList.idxOf 0 : Nat) : Int) else -1) = y at *
  go_enter Tryd.func68, Tryd.ntmps68
  go_wp2_with fail
  refine HI.out.mono ?_
  rintro e w ⟨rfl, rfl⟩
  go_wp2_with fail
  go_ret
  exact ⟨rfl, rfl⟩

set_option maxHeartbeats 1600000 in
set_option maxRecDepth 100000 in
theorem zcut_in (w : World) (s : ByteArray) (hs : s.size ≤ 140737488355328) : Calls Tryd.prog 59 #[.string s, .string ⟨#[0]⟩] w fun e w' => (∃ t b, e = .returned (.tuple #[.string (strF (cutZ s.data.toList)), .string t, .bool b])) ∧ ∃ d, w' = w.drewN d := by
  have HI := Lib.hid (zindex_any w s)
  by_cases h : (0 : UInt8) ∈ s.data.toList
  · have hlt := List.idxOf_lt_length_of_mem h
    rw [if_pos h] at HI
    rw [cutZ_in _ h, ← fext_take]
    obtain ⟨i, hi⟩ : ∃ i, i = s.data.toList.idxOf 0 := ⟨_, rfl⟩
    rw [← hi] at HI hlt ⊢
    have hlt2 : i < s.size := hlt
    have c1 : (0 : Int) ≤ (i : Int) := by omega
    have c2 : (i : Int) ≤ (s.size : Int) := by omega
    have c3 : (0 : Int) ≤ (i : Int) + 1 := by omega
    have c4 : (i : Int) + 1 ≤ (s.size : Int) := by omega
    clear hi hlt h
    go_enter Tryd.func59, Tryd.ntmps59
    go_wp2_with fail
    refine HI.out.mono ?_
    rintro e w ⟨rfl, rfl⟩
    go_wp2_with fail
    go_region
    go_wp2_with fail
    go_ret3
    exact ⟨⟨_, _, rfl⟩, 1, rfl⟩
  · rw [if_neg h] at HI
    rw [cutZ_out _ h, strF_self]
    clear h
    go_enter Tryd.func59, Tryd.ntmps59
    go_wp2_with fail
    refine HI.out.mono ?_
    rintro e w ⟨rfl, rfl⟩
    go_wp2_with fail
    go_ret3
    exact ⟨⟨_, _, rfl⟩, 0, rfl⟩

set_option maxRecDepth 100000 in
theorem zcut_any (w : World) (s : ByteArray) (hs : s.size ≤ 140737488355328) : Calls Tryd.prog 49 #[.string s, .string ⟨#[0]⟩] w fun e w' => (∃ t b, e = .returned (.tuple #[.string (strF (cutZ s.data.toList)), .string t, .bool b])) ∧ ∃ d, w' = w.drewN d := by
  have HI := Lib.hid (zcut_in w s hs)
  go_enter Tryd.func49, Tryd.ntmps49
  go_wp2_with fail
  refine HI.out.mono ?_
  rintro e w' ⟨⟨t, b, rfl⟩, hd⟩
  have HD := Lib.hid hd
  clear hd
  go_wp2_with fail
  go_ret3
  exact ⟨⟨_, _, rfl⟩, HD.out⟩

set_option maxRecDepth 100000 in
theorem ccut_drew (w : World) (s : ByteArray) (hs : s.size ≤ 140737488355328) : Calls Tryd.prog 36 #[.string s] w fun e w' => e = .returned (.string (strF (cutZ s.data.toList))) ∧ ∃ d, w' = w.drewN d := by
  have HI := Lib.hid (zcut_any w s hs)
  go_enter Tryd.func36, Tryd.ntmps36
  go_wp2_with fail
  refine HI.out.mono ?_
  rintro e w' ⟨⟨t, b, rfl⟩, hd⟩
  have HD := Lib.hid hd
  clear hd
  go_wp2_with fail
  go_ret
  exact ⟨rfl, HD.out⟩
theorem ccut_any (w : World) (s : ByteArray) (hs : s.size ≤ 140737488355328) : Calls Tryd.prog 36 #[.string s] w fun e w' => e = .returned (.string (strF (cutZ s.data.toList))) ∧ Below w.heap.size w w' :=
  (ccut_drew w s hs).mono fun e w' h => ⟨h.1, by obtain ⟨d, hd⟩ := h.2; subst hd; exact below_drewN (Below.refl _ w) d⟩

set_option maxHeartbeats 1600000 in
set_option maxRecDepth 100000 in
theorem ctext_any (w : World) (s : ByteArray) (width : Int) (hs : s.size ≤ 140737488355328) (hw1 : -9223372036854775808 ≤ width) (hw2 : width ≤ 9223372036854775807) : Calls Tryd.prog 19 #[.string s, .int .i64 width] w fun e w' => e = .returned (.tuple #[.string (strF (textA s.data.toList width).1), .int .i64 (textA s.data.toList width).2]) ∧ Below w.heap.size w w' := by
  have HC := Lib.hid (ccut_drew w s hs)
  have hsl : s.data.toList.length = s.size := rfl
  unfold textA
  rw [hsl]
  by_cases e1 : width < 0
  · rw [if_pos (.inl e1)]
    have d0 : decide (width < 0) = true := decide_eq_true e1
    go_enter Tryd.func19, Tryd.ntmps19
    go_wp2_with fail
    go_ret2
    exact ⟨rfl, Below.refl _ _⟩
  have d0 : decide (width < 0) = false := decide_eq_false e1
  by_cases e2 : 512 < width
  · rw [if_pos (.inr e2)]
    have d1 : decide (512 < width) = true := decide_eq_true e2
    go_enter Tryd.func19, Tryd.ntmps19
    go_wp2_with fail
    go_ret2
    exact ⟨rfl, Below.refl _ _⟩
  rw [if_neg (by omega)]
  have d1 : decide (512 < width) = false := decide_eq_false e2
  by_cases e3 : width < (s.size : Int)
  · rw [if_pos (.inl e3)]
    have d2 : decide (width < (s.size : Int)) = true := decide_eq_true e3
    go_enter Tryd.func19, Tryd.ntmps19
    go_wp2_with fail
    go_ret2
    exact ⟨rfl, Below.refl _ _⟩
  have d2 : decide (width < (s.size : Int)) = false := decide_eq_false e3
  have hcmp : ((strF (cutZ s.data.toList)).toList == s.toList) = decide (cutZ s.data.toList = s.data.toList) := fsame (strF (cutZ s.data.toList)) s
  by_cases e4 : cutZ s.data.toList = s.data.toList
  · rw [if_neg (by rintro (h | h); exact e3 h; exact h e4)]
    rw [decide_eq_true e4] at hcmp
    obtain ⟨c, hc⟩ : ∃ c : Nat, width - (s.size : Int) = c := ⟨(width - s.size).toNat, by omega⟩
    have hc2 : width.toNat - s.size = c := by omega
    rw [hc2]
    have HR := Lib.hid fun wx : World => repeat_byte wx 0 c (by omega)
    have HS : Hid (s ++ strF (List.replicate c 0) = strF (s.data.toList ++ List.replicate c 0)) := Lib.hid (by rw [← strF_app, strF_self])
    have hz : (strF (List.replicate c 0)).size = c := List.length_replicate
    generalize strF (List.replicate c 0) = Z at *
    generalize strF (cutZ s.data.toList) = C at *
    clear e4 hc2 hsl
    rw [← HS.out]
    go_enter Tryd.func19, Tryd.ntmps19
    go_wp2_with fail
    refine HC.out.mono ?_
    rintro e w1 ⟨rfl, k, rfl⟩
    go_wp2_with fail
    refine (HR.out _).mono ?_
    rintro e w2 ⟨rfl, hb⟩
    have HB := Lib.hid (show Below w.heap.size w w2 from (below_drewN (Below.refl _ w) k).trans hb)
    clear hb
    go_wp2_with fail
    go_ret2
    exact ⟨rfl, HB.out⟩
  · rw [if_pos (.inr e4)]
    rw [decide_eq_false e4] at hcmp
    generalize strF (cutZ s.data.toList) = C at *
    clear e4 hsl
    go_enter Tryd.func19, Tryd.ntmps19
    go_wp2_with fail
    refine HC.out.mono ?_
    rintro e w1 ⟨rfl, k, rfl⟩
    have HB := Lib.hid (below_drewN (Below.refl w.heap.size w) k)
    go_wp2_with fail
    go_ret2
    exact ⟨rfl, HB.out⟩

/-- What the eight blanks come to, of the first q bytes. -/
def blankF (q : Nat) : Nat := if q ≤ 148 then 0 else if q ≤ 156 then 32 * (q - 148) else 256
theorem blank_in (q : Nat) (h1 : 148 ≤ q) (h2 : q < 156) : blankF (q + 1) = blankF q + 32 := by
  unfold blankF
  split <;> split <;> (try split) <;> (try split) <;> omega
theorem blank_out (q : Nat) (h : q < 148 ∨ 156 ≤ q) : blankF (q + 1) = blankF q := by
  unfold blankF
  split <;> split <;> (try split) <;> (try split) <;> omega
theorem blank_le (q : Nat) : blankF q ≤ 256 := by
  unfold blankF
  split <;> (try split) <;> omega
set_option maxHeartbeats 1600000 in
set_option maxRecDepth 100000 in
theorem csum15_any (w : World) (s : ByteArray) (_ : s.size ≤ 140737488355328) : Calls Tryd.prog 29 #[.string s] w fun e w' => e = .returned (.tuple #[.int .i64 (sumA s.data.toList).1, .int .i64 (sumA s.data.toList).2]) ∧ Below w.heap.size w w' := by
  have hsl : s.data.toList.length = s.size := rfl
  unfold sumA
  rw [hsl]
  by_cases e1 : s.size ≠ 512
  · rw [if_pos e1]
    have d0 : ((s.size : Int) != 512) = true := bne_iff_ne.2 (by omega)
    go_enter Tryd.func29, Tryd.ntmps29
    go_wp2_with fail
    go_ret2
    exact ⟨rfl, Below.refl _ _⟩
  rw [if_neg e1]
  have e2 : s.size = 512 := Decidable.not_not.1 e1
  have d0 : ((s.size : Int) != 512) = false := by rw [bne_eq_false_iff_eq]; omega
  have HF := Lib.hid fun q => sumF_next s.data.toList q
  have HL := Lib.hid fun q => sumF_le s.data.toList q
  have HBY := Lib.hid fun q (h : q < s.size) => fbyte s q h
  have HZ := Lib.hid e2
  have hz9 : (s.size : Int) = 512 := by omega
  have b32 : ((⟨#[32]⟩ : ByteArray)[0]'(by decide)).toNat = 32 := rfl
  clear e1 e2 hsl
  go_enter Tryd.func29, Tryd.ntmps29
  go_wp2_with fail
  go_loopw [4, 11] (fun sv si wx => ∃ q v : Nat, sv = .int .i64 v ∧ si = .int .i64 q ∧ q ≤ 512 ∧ v ≤ 255 * q + 256 ∧ wx = w ∧ Hid (v = sumF s.data.toList q + blankF q)) (fun _ si _ => 512 - (intOf si).toNat)
  case atStart => exact ⟨0, 0, rfl, rfl, Nat.zero_le _, Nat.zero_le _, rfl, Lib.hid rfl⟩
  case round =>
    obtain ⟨q, v, rfl, rfl, hq, hv, rfl, HV⟩ := hrel
    by_cases e : q < 512
    · have d1 : decide ((q : Int) < 512) = true := decide_eq_true (by omega)
      have hqs : q < s.size := by rw [HZ.out]; exact e
      have hqz : (q : Int) < s.size := by omega
      have hnext := HF.out q
      have hb := blank_le (q + 1)
      have hl := HL.out (q + 1)
      by_cases e1 : 148 ≤ q
      · have d2 : decide ((148 : Int) ≤ (q : Int)) = true := decide_eq_true (by omega)
        by_cases e2 : q < 156
        · have d3 : decide ((q : Int) < 156) = true := decide_eq_true (by omega)
          rw [if_neg (by omega), Nat.add_zero] at hnext
          have HN := Lib.hid (show v + 32 = sumF s.data.toList (q + 1) + blankF (q + 1) by rw [hnext, blank_in q e1 e2, HV.out]; omega)
          clear hnext hb hl
          go_wp2_with fail
          go_roundw
          case rel => exact ⟨q + 1, v + 32, by go_num, by go_num, by omega, by omega, by first | rfl | trivial, HN⟩
          case measure => simp [intOf]; omega
        · have d3 : decide ((q : Int) < 156) = false := decide_eq_false (by omega)
          rw [if_pos (by omega), HBY.out q hqs] at hnext
          have hc := s[q].toNat_lt
          have HN := Lib.hid (show v + s[q].toNat = sumF s.data.toList (q + 1) + blankF (q + 1) by rw [hnext, blank_out q (by omega), HV.out]; omega)
          clear hnext hb hl
          go_wp2_with fail
          go_roundw
          case rel => exact ⟨q + 1, v + s[q].toNat, by go_num, by go_num, by omega, by omega, by first | rfl | trivial, HN⟩
          case measure => simp [intOf]; omega
      · have d2 : decide ((148 : Int) ≤ (q : Int)) = false := decide_eq_false (by omega)
        rw [if_pos (by omega), HBY.out q hqs] at hnext
        have hc := s[q].toNat_lt
        have HN := Lib.hid (show v + s[q].toNat = sumF s.data.toList (q + 1) + blankF (q + 1) by rw [hnext, blank_out q (by omega), HV.out]; omega)
        clear hnext hb hl
        go_wp2_with fail
        go_roundw
        case rel => exact ⟨q + 1, v + s[q].toNat, by go_num, by go_num, by omega, by omega, by first | rfl | trivial, HN⟩
        case measure => simp [intOf]; omega
    · have hq5 : q = 512 := by omega
      have d1 : decide ((q : Int) < 512) = false := decide_eq_false (by omega)
      have HE := Lib.hid (show 256 + sumF s.data.toList 512 = v by rw [HV.out, hq5]; exact Nat.add_comm _ _)
      clear hq5
      go_wp2_with fail
      go_ret2
      exact ⟨by rw [HE.out]; rfl, Below.refl _ _⟩
end Go.Proofs.YtiihkjloenlfmaaDoor
