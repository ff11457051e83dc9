/- What paths asks of strings: Cut at a slash, Count of slashes, Compare, CutPrefix, HasPrefix. Conditions: texts of at most 2^47 bytes where it cuts. -/
import Derived.Test.YtiihkjloenlfmaaDoorPtb
import Derived.Lib.Bytealg
namespace Go.Proofs.YtiihkjloenlfmaaDoor
open Go.RowKit

set_option maxRecDepth 100000 in
theorem slash_idx (l : List UInt8) (b : UInt8) : Lib.indexByte l b = if b ∈ l then ((l.idxOf b : Nat) : Int) else -1 := by
  induction l with
  | nil => simp [Lib.indexByte]
  | cons x l ih =>
    unfold Lib.indexByte
    rw [List.idxOf_cons]
    by_cases e : x = b
    · subst e
      simp
    · have e1 : (x == b) = false := by simpa using e
      have e2 : ¬ b = x := fun h => e h.symm
      rw [e1, ih]
      simp only [Bool.false_eq_true, if_false, cond_false, List.mem_cons, e2, false_or]
      by_cases hm : b ∈ l
      · rw [if_pos hm, if_pos hm]
        have : (((l.idxOf b : Nat) : Int) == -1) = false := by
          rw [beq_eq_false_iff_ne]
          omega
        rw [this]
        simp
      · rw [if_neg hm, if_neg hm]
        simp
/-- What Cut answers at a slash. -/
def cutL (s : List UInt8) : List UInt8 × List UInt8 × Bool := if (47 : UInt8) ∈ s then (s.take (s.idxOf 47), s.drop (s.idxOf 47 + 1), true) else (s, [], false)

set_option maxRecDepth 100000 in
theorem idxs_any (w : World) (s : ByteArray) : Calls Tryd.prog 51 #[.string s, .int .u8 47] w fun e w' => e = .returned (.int .i64 (if (47 : UInt8) ∈ s.data.toList then ((s.data.toList.idxOf 47 : Nat) : Int) else -1)) ∧ w' = w := by
  have hrun := Lib.run_indexByteString (P := Tryd.prog) s 47 w
  rw [show ((47 : Int).toNat.toUInt8) = (47 : UInt8) from rfl, slash_idx] at hrun
  have HR := Lib.hid hrun
  clear hrun
  generalize (if (47 : UInt8) ∈ s.data.toList then ((s.data.toList.idxOf 47 : Nat) : Int) else -1) = y at *
  go_enter Tryd.func51, Tryd.ntmps51
  go_wp2_with fail
  rw [run_callFunc_extern Tryd.func64 (by kernel_rfl) (by kernel_rfl) (by kernel_rfl) (e := Extern.BytealgIndexByte.indexByte) (by kernel_rfl), HR.out]
  simp only [Result.andThen]
  rw [Oper.upon_value]
  go_wp2_with fail
  go_ret
  exact ⟨rfl, rfl⟩

set_option maxHeartbeats 1600000 in
set_option maxRecDepth 100000 in
theorem index_any (w : World) (s : ByteArray) : Calls Tryd.prog 68 #[.string s, .string ⟨#[47]⟩] w fun e w' => e = .returned (.int .i64 (if (47 : UInt8) ∈ s.data.toList then ((s.data.toList.idxOf 47 : Nat) : Int) else -1)) ∧ w' = w := by
  have HI := Lib.hid (idxs_any w s)
  by_cases e : s = ⟨#[47]⟩
  · subst e
    have d0 : (((⟨#[47]⟩ : ByteArray).toList) == ((⟨#[47]⟩ : ByteArray).toList)) = true := beq_self_eq_true _
    have d1 : ([47] == ((⟨#[47]⟩ : ByteArray).toList)) = true := by rw [ByteArray.toList_eq]; rfl
    rw [show (if (47 : UInt8) ∈ (⟨#[47]⟩ : ByteArray).data.toList then (((⟨#[47]⟩ : ByteArray).data.toList.idxOf 47 : Nat) : Int) else -1) = 0 from by decide]
    go_enter Tryd.func68, Tryd.ntmps68
    go_wp2_with fail
    go_ret
    exact ⟨rfl, rfl⟩
  have d1 : ([47] == s.toList) = false := by
    rw [ByteArray.toList_eq]
    refine beq_false_of_ne fun h => e ?_
    apply ByteArray.ext
    apply Array.toList_inj.1
    exact h.symm
  clear e
  generalize (if (47 : UInt8) ∈ s.data.toList then ((s.data.toList.idxOf 47 : Nat) : Int) else -1) = y at *
  go_enter Tryd.func68, Tryd.ntmps68
  go_wp2_with fail
  refine HI.out.mono ?_
  rintro e w ⟨rfl, rfl⟩
  go_wp2_with fail
  go_ret
  exact ⟨rfl, rfl⟩

theorem idx_lt {s : List UInt8} (h : (47 : UInt8) ∈ s) : s.idxOf 47 < s.length := List.idxOf_lt_length_of_mem h
theorem ext_front (s : ByteArray) (i : Nat) : s.extract 0 i = strP (s.data.toList.take i) := by
  apply ByteArray.ext
  apply Array.toList_inj.1
  rw [ext_list, List.drop_zero]
  rfl
theorem ext_back (s : ByteArray) (i : Nat) : s.extract i s.size = strP (s.data.toList.drop i) := by
  apply ByteArray.ext
  apply Array.toList_inj.1
  rw [ext_list, List.take_of_length_le (show s.data.toList.length ≤ s.size from Nat.le_refl _)]
  rfl

set_option maxHeartbeats 1600000 in
set_option maxRecDepth 100000 in
theorem lcut_any (w : World) (s : ByteArray) (hs : s.size ≤ 140737488355328) : Calls Tryd.prog 59 #[.string s, .string ⟨#[47]⟩] w fun e w' => e = .returned (.tuple #[.string (strP (cutL s.data.toList).1), .string (strP (cutL s.data.toList).2.1), .bool (cutL s.data.toList).2.2]) ∧ ∃ d, w' = w.drewN d := by
  have HI := Lib.hid (index_any w s)
  unfold cutL
  by_cases h : (47 : UInt8) ∈ s.data.toList
  · have hlt := idx_lt h
    rw [if_pos h] at HI ⊢
    rw [← ext_front, ← ext_back]
    obtain ⟨i, hi⟩ : ∃ i, i = s.data.toList.idxOf 47 := ⟨_, rfl⟩
    rw [← hi] at HI hlt ⊢
    have hlt2 : i < s.size := hlt
    have c1 : (0 : Int) ≤ (i : Int) := by omega
    have c2 : (i : Int) ≤ (s.size : Int) := by omega
    have c3 : (0 : Int) ≤ (i : Int) + 1 := by omega
    have c4 : (i : Int) + 1 ≤ (s.size : Int) := by omega
    clear hi hlt h
    go_enter Tryd.func59, Tryd.ntmps59
    go_wp2_with fail
    refine HI.out.mono ?_
    rintro e w ⟨rfl, rfl⟩
    go_wp2_with fail
    go_region
    go_wp2_with fail
    go_ret3
    exact ⟨rfl, 1, rfl⟩
  · rw [if_neg h] at HI ⊢
    rw [strP_self]
    clear h
    go_enter Tryd.func59, Tryd.ntmps59
    go_wp2_with fail
    refine HI.out.mono ?_
    rintro e w ⟨rfl, rfl⟩
    go_wp2_with fail
    go_ret3
    exact ⟨rfl, 0, rfl⟩

set_option maxRecDepth 100000 in
theorem cut_any (w : World) (s : ByteArray) (hs : s.size ≤ 140737488355328) : Calls Tryd.prog 49 #[.string s, .string ⟨#[47]⟩] w fun e w' => e = .returned (.tuple #[.string (strP (cutL s.data.toList).1), .string (strP (cutL s.data.toList).2.1), .bool (cutL s.data.toList).2.2]) ∧ ∃ d, w' = w.drewN d := by
  have HI := Lib.hid (lcut_any w s hs)
  go_enter Tryd.func49, Tryd.ntmps49
  go_wp2_with fail
  refine HI.out.mono ?_
  rintro e w' ⟨rfl, hd⟩
  have HD := Lib.hid hd
  clear hd
  go_wp2_with fail
  go_ret3
  exact ⟨rfl, HD.out⟩

/-- Does a text begin with another one? -/
def begL (s p : List UInt8) : Bool := decide (p.length ≤ s.length ∧ s.take p.length = p)

set_option maxRecDepth 100000 in
theorem lprefix_any (w : World) (s p : ByteArray) (_ : s.size ≤ 140737488355328) : Calls Tryd.prog 56 #[.string s, .string p] w fun e w' => e = .returned (.bool (begL s.data.toList p.data.toList)) ∧ w' = w := by
  unfold begL
  rw [show s.data.toList.length = s.size from rfl, show p.data.toList.length = p.size from rfl]
  by_cases h : p.size ≤ s.size
  · have d0 : decide ((p.size : Int) ≤ (s.size : Int)) = true := decide_eq_true (by omega)
    have hst := same_text (s.extract 0 p.size) p
    rw [ext_front, strP_list] at hst
    have HE := Lib.hid (ext_front s p.size)
    have d1 : ((strP (s.data.toList.take p.size)).toList == p.toList) = decide (p.size ≤ s.size ∧ s.data.toList.take p.size = p.data.toList) := by
      rw [hst]
      exact decide_eq_decide.2 ⟨fun q => ⟨h, q⟩, fun q => q.2⟩
    rw [← HE.out] at d1
    clear hst HE
    generalize decide (p.size ≤ s.size ∧ s.data.toList.take p.size = p.data.toList) = b at *
    have c1 : (p.size : Int) ≤ (s.size : Int) := by omega
    go_enter Tryd.func56, Tryd.ntmps56
    go_wp2_with fail
    go_ret
    exact ⟨by simp, rfl⟩
  · have d0 : decide ((p.size : Int) ≤ (s.size : Int)) = false := decide_eq_false (by omega)
    rw [decide_eq_false (fun q => h q.1)]
    go_enter Tryd.func56, Tryd.ntmps56
    go_wp2_with fail
    go_ret
    exact ⟨rfl, rfl⟩

set_option maxRecDepth 100000 in
theorem prefix_any (w : World) (s p : ByteArray) (hs : s.size ≤ 140737488355328) : Calls Tryd.prog 44 #[.string s, .string p] w fun e w' => e = .returned (.bool (begL s.data.toList p.data.toList)) ∧ w' = w := by
  have HI := Lib.hid (lprefix_any w s p hs)
  generalize begL s.data.toList p.data.toList = y at *
  go_enter Tryd.func44, Tryd.ntmps44
  go_wp2_with fail
  refine HI.out.mono ?_
  rintro e w ⟨rfl, rfl⟩
  go_wp2_with fail
  go_ret
  exact ⟨rfl, rfl⟩

/-- What CutPrefix answers. -/
def restL (s p : List UInt8) : List UInt8 := if begL s p = true then s.drop p.length else s

end Go.Proofs.YtiihkjloenlfmaaDoor
