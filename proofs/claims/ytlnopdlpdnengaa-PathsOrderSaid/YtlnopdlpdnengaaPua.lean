/- What paths asks of strings: Cut at a slash, Count of slashes, Compare, CutPrefix, HasPrefix. Conditions: texts of at most 2^47 bytes where it cuts. -/
import Derived.Test.YtlnopdlpdnengaaPtb
import Derived.Lib.Bytealg
namespace Go.Proofs.Ytlnopdlpdnengaa
open Go.RowKit

set_option maxRecDepth 100000 in
theorem slash_idx (l : List UInt8) (b : UInt8) : Lib.indexByte l b = if b ∈ l then ((l.idxOf b : Nat) : Int) else -1 := by
  induction l with
  | nil => simp [Lib.indexByte]
  | cons x l ih =>
    unfold Lib.indexByte
    rw [List.idxOf_cons]
    by_cases e : x = b
    · subst e
      simp
    · have e1 : (x == b) = false := by simpa using e
      have e2 : ¬ b = x := fun h => e h.symm
      rw [e1, ih]
      simp only [Bool.false_eq_true, if_false, cond_false, List.mem_cons, e2, false_or]
      by_cases hm : b ∈ l
      · rw [if_pos hm, if_pos hm]
        have : (((l.idxOf b : Nat) : Int) == -1) = false := by
          rw [beq_eq_false_iff_ne]
          omega
        rw [this]
        simp
      · rw [if_neg hm, if_neg hm]
        simp
/-- What Cut answers at a slash. -/
def cutL (s : List UInt8) : List UInt8 × List UInt8 × Bool := if (47 : UInt8) ∈ s then (s.take (s.idxOf 47), s.drop (s.idxOf 47 + 1), true) else (s, [], false)

set_option maxRecDepth 100000 in
theorem idxs_any (w : World) (s : ByteArray) : Calls Try.prog 40 #[.string s, .int .u8 47] w fun e w' => e = .returned (.int .i64 (if (47 : UInt8) ∈ s.data.toList then ((s.data.toList.idxOf 47 : Nat) : Int) else -1)) ∧ w' = w := by
  have hrun := Lib.run_indexByteString (P := Try.prog) s 47 w
  rw [show ((47 : Int).toNat.toUInt8) = (47 : UInt8) from rfl, slash_idx] at hrun
  have HR := Lib.hid hrun
  clear hrun
  generalize (if (47 : UInt8) ∈ s.data.toList then ((s.data.toList.idxOf 47 : Nat) : Int) else -1) = y at *
  go_enter Try.func40, Try.ntmps40
  go_wp2_with fail
  rw [run_callFunc_extern Try.func44 (by kernel_rfl) (by kernel_rfl) (by kernel_rfl) (e := Extern.BytealgIndexByte.indexByte) (by kernel_rfl), HR.out]
  simp only [Result.andThen]
  rw [Oper.upon_value]
  go_wp2_with fail
  go_ret
  exact ⟨rfl, rfl⟩

set_option maxHeartbeats 1600000 in
set_option maxRecDepth 100000 in
theorem index_any (w : World) (s : ByteArray) : Calls Try.prog 38 #[.string s, .string ⟨#[47]⟩] w fun e w' => e = .returned (.int .i64 (if (47 : UInt8) ∈ s.data.toList then ((s.data.toList.idxOf 47 : Nat) : Int) else -1)) ∧ w' = w := by
  have HI := Lib.hid (idxs_any w s)
  by_cases e : s = ⟨#[47]⟩
  · subst e
    have d0 : (((⟨#[47]⟩ : ByteArray).toList) == ((⟨#[47]⟩ : ByteArray).toList)) = true := beq_self_eq_true _
    have d1 : ([47] == ((⟨#[47]⟩ : ByteArray).toList)) = true := by rw [ByteArray.toList_eq]; rfl
    rw [show (if (47 : UInt8) ∈ (⟨#[47]⟩ : ByteArray).data.toList then (((⟨#[47]⟩ : ByteArray).data.toList.idxOf 47 : Nat) : Int) else -1) = 0 from by decide]
    go_enter Try.func38, Try.ntmps38
    go_wp2_with fail
    go_ret
    exact ⟨rfl, rfl⟩
  have d1 : ([47] == s.toList) = false := by
    rw [ByteArray.toList_eq]
    refine beq_false_of_ne fun h => e ?_
    apply ByteArray.ext
    apply Array.toList_inj.1
    exact h.symm
  clear e
  generalize (if (47 : UInt8) ∈ s.data.toList then ((s.data.toList.idxOf 47 : Nat) : Int) else -1) = y at *
  go_enter Try.func38, Try.ntmps38
  go_wp2_with fail
  refine HI.out.mono ?_
  rintro e w ⟨rfl, rfl⟩
  go_wp2_with fail
  go_ret
  exact ⟨rfl, rfl⟩

theorem idx_lt {s : List UInt8} (h : (47 : UInt8) ∈ s) : s.idxOf 47 < s.length := List.idxOf_lt_length_of_mem h
theorem ext_front (s : ByteArray) (i : Nat) : s.extract 0 i = strP (s.data.toList.take i) := by
  apply ByteArray.ext
  apply Array.toList_inj.1
  rw [ext_list, List.drop_zero]
  rfl
theorem ext_back (s : ByteArray) (i : Nat) : s.extract i s.size = strP (s.data.toList.drop i) := by
  apply ByteArray.ext
  apply Array.toList_inj.1
  rw [ext_list, List.take_of_length_le (show s.data.toList.length ≤ s.size from Nat.le_refl _)]
  rfl

set_option maxHeartbeats 1600000 in
set_option maxRecDepth 100000 in
theorem lcut_any (w : World) (s : ByteArray) (hs : s.size ≤ 140737488355328) : Calls Try.prog 37 #[.string s, .string ⟨#[47]⟩] w fun e w' => e = .returned (.tuple #[.string (strP (cutL s.data.toList).1), .string (strP (cutL s.data.toList).2.1), .bool (cutL s.data.toList).2.2]) ∧ ∃ d, w' = w.drewN d := by
  have HI := Lib.hid (index_any w s)
  unfold cutL
  by_cases h : (47 : UInt8) ∈ s.data.toList
  · have hlt := idx_lt h
    rw [if_pos h] at HI ⊢
    rw [← ext_front, ← ext_back]
    obtain ⟨i, hi⟩ : ∃ i, i = s.data.toList.idxOf 47 := ⟨_, rfl⟩
    rw [← hi] at HI hlt ⊢
    have hlt2 : i < s.size := hlt
    have c1 : (0 : Int) ≤ (i : Int) := by omega
    have c2 : (i : Int) ≤ (s.size : Int) := by omega
    have c3 : (0 : Int) ≤ (i : Int) + 1 := by omega
    have c4 : (i : Int) + 1 ≤ (s.size : Int) := by omega
    clear hi hlt h
    go_enter Try.func37, Try.ntmps37
    go_wp2_with fail
    refine HI.out.mono ?_
    rintro e w ⟨rfl, rfl⟩
    go_wp2_with fail
    go_region
    go_wp2_with fail
    go_ret3
    exact ⟨rfl, 1, rfl⟩
  · rw [if_neg h] at HI ⊢
    rw [strP_self]
    clear h
    go_enter Try.func37, Try.ntmps37
    go_wp2_with fail
    refine HI.out.mono ?_
    rintro e w ⟨rfl, rfl⟩
    go_wp2_with fail
    go_ret3
    exact ⟨rfl, 0, rfl⟩

set_option maxRecDepth 100000 in
theorem cut_any (w : World) (s : ByteArray) (hs : s.size ≤ 140737488355328) : Calls Try.prog 30 #[.string s, .string ⟨#[47]⟩] w fun e w' => e = .returned (.tuple #[.string (strP (cutL s.data.toList).1), .string (strP (cutL s.data.toList).2.1), .bool (cutL s.data.toList).2.2]) ∧ ∃ d, w' = w.drewN d := by
  have HI := Lib.hid (lcut_any w s hs)
  go_enter Try.func30, Try.ntmps30
  go_wp2_with fail
  refine HI.out.mono ?_
  rintro e w' ⟨rfl, hd⟩
  have HD := Lib.hid hd
  clear hd
  go_wp2_with fail
  go_ret3
  exact ⟨rfl, HD.out⟩

set_option maxRecDepth 100000 in
theorem count_any (w : World) (s : ByteArray) : Calls Try.prog 25 #[.string s, .string ⟨#[47]⟩] w fun e w' => e = .returned (.int .i64 (s.data.toList.count 47 : Nat)) ∧ w' = w := by
  have hrun : (Extern.BytealgCount.count #[.string s, .int .u8 (((⟨#[47]⟩ : ByteArray)[0]'(by decide)).toNat : Nat)]).run Try.prog w = .ok (.int .i64 (s.data.toList.count 47 : Nat)) w := Lib.run_countString (P := Try.prog) s 47 w
  have HR := Lib.hid hrun
  clear hrun
  generalize s.data.toList.count 47 = y at *
  go_enter Try.func25, Try.ntmps25
  go_wp2_with fail
  rw [run_callFunc_extern Try.func32 (by kernel_rfl) (by kernel_rfl) (by kernel_rfl) (e := Extern.BytealgCount.count) (by kernel_rfl), HR.out]
  simp only [Result.andThen]
  rw [Oper.upon_value]
  go_wp2_with fail
  go_ret
  exact ⟨rfl, rfl⟩

set_option maxRecDepth 100000 in
theorem cmpstr_any (w : World) (a b : ByteArray) : Calls Try.prog 34 #[.string a, .string b] w fun e w' => e = .returned (.int .i64 (Lib.compareBytes a.data.toList b.data.toList)) ∧ w' = w := by
  have hrun := Lib.run_compareString (P := Try.prog) a b w
  have HR := Lib.hid hrun
  clear hrun
  generalize Lib.compareBytes a.data.toList b.data.toList = y at *
  go_enter Try.func34, Try.ntmps34
  go_wp2_with fail
  rw [run_callFunc_extern Try.func39 (by kernel_rfl) (by kernel_rfl) (by kernel_rfl) (e := Extern.BytealgCompare.compare) (by kernel_rfl), HR.out]
  simp only [Result.andThen]
  rw [Oper.upon_value]
  go_wp2_with fail
  go_ret
  exact ⟨rfl, rfl⟩

set_option maxRecDepth 100000 in
theorem strcmp_any (w : World) (a b : ByteArray) : Calls Try.prog 26 #[.string a, .string b] w fun e w' => e = .returned (.int .i64 (Lib.compareBytes a.data.toList b.data.toList)) ∧ w' = w := by
  have HI := Lib.hid (cmpstr_any w a b)
  generalize Lib.compareBytes a.data.toList b.data.toList = y at *
  go_enter Try.func26, Try.ntmps26
  go_wp2_with fail
  refine HI.out.mono ?_
  rintro e w ⟨rfl, rfl⟩
  go_wp2_with fail
  go_ret
  exact ⟨rfl, rfl⟩

/-- Does a text begin with another one? -/
def begL (s p : List UInt8) : Bool := decide (p.length ≤ s.length ∧ s.take p.length = p)

set_option maxRecDepth 100000 in
theorem lprefix_any (w : World) (s p : ByteArray) (_ : s.size ≤ 140737488355328) : Calls Try.prog 36 #[.string s, .string p] w fun e w' => e = .returned (.bool (begL s.data.toList p.data.toList)) ∧ w' = w := by
  unfold begL
  rw [show s.data.toList.length = s.size from rfl, show p.data.toList.length = p.size from rfl]
  by_cases h : p.size ≤ s.size
  · have d0 : decide ((p.size : Int) ≤ (s.size : Int)) = true := decide_eq_true (by omega)
    have hst := same_text (s.extract 0 p.size) p
    rw [ext_front, strP_list] at hst
    have HE := Lib.hid (ext_front s p.size)
    have d1 : ((strP (s.data.toList.take p.size)).toList == p.toList) = decide (p.size ≤ s.size ∧ s.data.toList.take p.size = p.data.toList) := by
      rw [hst]
      exact decide_eq_decide.2 ⟨fun q => ⟨h, q⟩, fun q => q.2⟩
    rw [← HE.out] at d1
    clear hst HE
    generalize decide (p.size ≤ s.size ∧ s.data.toList.take p.size = p.data.toList) = b at *
    have c1 : (p.size : Int) ≤ (s.size : Int) := by omega
    go_enter Try.func36, Try.ntmps36
    go_wp2_with fail
    go_ret
    exact ⟨by simp, rfl⟩
  · have d0 : decide ((p.size : Int) ≤ (s.size : Int)) = false := decide_eq_false (by omega)
    rw [decide_eq_false (fun q => h q.1)]
    go_enter Try.func36, Try.ntmps36
    go_wp2_with fail
    go_ret
    exact ⟨rfl, rfl⟩

set_option maxRecDepth 100000 in
theorem prefix_any (w : World) (s p : ByteArray) (hs : s.size ≤ 140737488355328) : Calls Try.prog 28 #[.string s, .string p] w fun e w' => e = .returned (.bool (begL s.data.toList p.data.toList)) ∧ w' = w := by
  have HI := Lib.hid (lprefix_any w s p hs)
  generalize begL s.data.toList p.data.toList = y at *
  go_enter Try.func28, Try.ntmps28
  go_wp2_with fail
  refine HI.out.mono ?_
  rintro e w ⟨rfl, rfl⟩
  go_wp2_with fail
  go_ret
  exact ⟨rfl, rfl⟩

/-- What CutPrefix answers. -/
def restL (s p : List UInt8) : List UInt8 := if begL s p = true then s.drop p.length else s

set_option maxRecDepth 100000 in
theorem lcutp_any (w : World) (s p : ByteArray) (hs : s.size ≤ 140737488355328) : Calls Try.prog 35 #[.string s, .string p] w fun e w' => e = .returned (.tuple #[.string (strP (restL s.data.toList p.data.toList)), .bool (begL s.data.toList p.data.toList)]) ∧ w' = w := by
  have HI := Lib.hid (lprefix_any w s p hs)
  unfold restL
  cases e : begL s.data.toList p.data.toList
  · rw [e] at HI
    rw [if_neg Bool.false_ne_true, strP_self]
    clear e
    go_enter Try.func35, Try.ntmps35
    go_wp2_with fail
    refine HI.out.mono ?_
    rintro e w ⟨rfl, rfl⟩
    go_wp2_with fail
    go_ret2
    exact ⟨rfl, rfl⟩
  · rw [e] at HI
    rw [if_pos rfl, show p.data.toList.length = p.size from rfl, ← ext_back]
    have h1 : p.size ≤ s.size := by
      unfold begL at e
      exact (of_decide_eq_true e).1
    have c1 : (p.size : Int) ≤ (s.size : Int) := by omega
    have c0 : (0 : Int) ≤ (p.size : Int) := by omega
    clear e
    go_enter Try.func35, Try.ntmps35
    go_wp2_with fail
    refine HI.out.mono ?_
    rintro e w ⟨rfl, rfl⟩
    go_wp2_with fail
    go_ret2
    exact ⟨rfl, rfl⟩

set_option maxRecDepth 100000 in
theorem cutp_any (w : World) (s p : ByteArray) (hs : s.size ≤ 140737488355328) : Calls Try.prog 27 #[.string s, .string p] w fun e w' => e = .returned (.tuple #[.string (strP (restL s.data.toList p.data.toList)), .bool (begL s.data.toList p.data.toList)]) ∧ w' = w := by
  have HI := Lib.hid (lcutp_any w s p hs)
  generalize begL s.data.toList p.data.toList = y at *
  generalize strP (restL s.data.toList p.data.toList) = z at *
  go_enter Try.func27, Try.ntmps27
  go_wp2_with fail
  refine HI.out.mono ?_
  rintro e w ⟨rfl, rfl⟩
  go_wp2_with fail
  go_ret2
  exact ⟨rfl, rfl⟩
end Go.Proofs.Ytlnopdlpdnengaa
