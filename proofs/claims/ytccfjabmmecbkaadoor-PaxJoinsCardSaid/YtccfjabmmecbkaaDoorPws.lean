/- What pax asks of strings: Cut at a blank and at =, Contains of =, TrimSuffix of a line end. Conditions: texts of at most 2^47 bytes where it cuts. -/
import Derived.Test.YtccfjabmmecbkaaDoorPwp
import Derived.Test.YtccfjabmmecbkaaDoorFwa
namespace Go.Proofs.YtccfjabmmecbkaaDoor
open Go.RowKit

set_option maxRecDepth 100000 in
theorem byte_idx (l : List UInt8) (b : UInt8) : Lib.indexByte l b = if b ∈ l then ((l.idxOf b : Nat) : Int) else -1 := by
  induction l with
  | nil => simp [Lib.indexByte]
  | cons x l ih =>
    unfold Lib.indexByte
    rw [List.idxOf_cons]
    by_cases e : x = b
    · subst e
      simp
    · have e1 : (x == b) = false := by simpa using e
      have e2 : ¬ b = x := fun h => e h.symm
      rw [e1, ih]
      simp only [Bool.false_eq_true, if_false, cond_false, List.mem_cons, e2, false_or]
      by_cases hm : b ∈ l
      · rw [if_pos hm, if_pos hm]
        have : (((l.idxOf b : Nat) : Int) == -1) = false := by
          rw [beq_eq_false_iff_ne]
          omega
        rw [this]
        simp
      · rw [if_neg hm, if_neg hm]
        simp
theorem strF_of (s : ByteArray) : strF s.data.toList = s := by
  apply ByteArray.ext
  apply Array.toList_inj.1
  rfl
theorem extF_front (s : ByteArray) (i : Nat) : s.extract 0 i = strF (s.data.toList.take i) := by
  apply ByteArray.ext
  apply Array.toList_inj.1
  rw [fext_list, List.drop_zero]
  rfl
theorem extF_back (s : ByteArray) (i : Nat) : s.extract i s.size = strF (s.data.toList.drop i) := by
  apply ByteArray.ext
  apply Array.toList_inj.1
  rw [fext_list, List.take_of_length_le (show s.data.toList.length ≤ s.size from Nat.le_refl _)]
  rfl

set_option maxRecDepth 100000 in
theorem ixBl_any (w : World) (s : ByteArray) : Calls Tryd.prog 36 #[.string s, .int .u8 32] w fun e w' => e = .returned (.int .i64 (if (32 : UInt8) ∈ s.data.toList then ((s.data.toList.idxOf 32 : Nat) : Int) else -1)) ∧ w' = w := by
  have hrun := Lib.run_indexByteString (P := Tryd.prog) s 32 w
  rw [show ((32 : Int).toNat.toUInt8) = (32 : UInt8) from rfl, byte_idx] at hrun
  have HR := Lib.hid hrun
  clear hrun
  generalize (if (32 : UInt8) ∈ s.data.toList then ((s.data.toList.idxOf 32 : Nat) : Int) else -1) = y at *
  go_enter Tryd.func36, Tryd.ntmps36
  go_wp2_with fail
  rw [run_callFunc_extern Tryd.func41 (by kernel_rfl) (by kernel_rfl) (by kernel_rfl) (e := Extern.BytealgIndexByte.indexByte) (by kernel_rfl), HR.out]
  simp only [Result.andThen]
  rw [Oper.upon_value]
  go_wp2_with fail
  go_ret
  exact ⟨rfl, rfl⟩

set_option maxHeartbeats 1600000 in
set_option maxRecDepth 100000 in
theorem inBl_any (w : World) (s : ByteArray) : Calls Tryd.prog 31 #[.string s, .string ⟨#[32]⟩] w fun e w' => e = .returned (.int .i64 (if (32 : UInt8) ∈ s.data.toList then ((s.data.toList.idxOf 32 : Nat) : Int) else -1)) ∧ w' = w := by
  have HI := Lib.hid (ixBl_any w s)
  by_cases e : s = ⟨#[32]⟩
  · subst e
    have d0 : (((⟨#[32]⟩ : ByteArray).toList) == ((⟨#[32]⟩ : ByteArray).toList)) = true := beq_self_eq_true _
    have d1 : ([32] == ((⟨#[32]⟩ : ByteArray).toList)) = true := by rw [ByteArray.toList_eq]; rfl
    rw [show (if (32 : UInt8) ∈ (⟨#[32]⟩ : ByteArray).data.toList then (((⟨#[32]⟩ : ByteArray).data.toList.idxOf 32 : Nat) : Int) else -1) = 0 from by decide]
    go_enter Tryd.func31, Tryd.ntmps31
    go_wp2_with fail
    go_ret
    exact ⟨rfl, rfl⟩
  have d1 : ([32] == s.toList) = false := by
    rw [ByteArray.toList_eq]
    refine beq_false_of_ne fun h => e ?_
    apply ByteArray.ext
    apply Array.toList_inj.1
    exact h.symm
  clear e
  generalize (if (32 : UInt8) ∈ s.data.toList then ((s.data.toList.idxOf 32 : Nat) : Int) else -1) = y at *
  go_enter Tryd.func31, Tryd.ntmps31
  go_wp2_with fail
  refine HI.out.mono ?_
  rintro e w ⟨rfl, rfl⟩
  go_wp2_with fail
  go_ret
  exact ⟨rfl, rfl⟩

set_option maxHeartbeats 1600000 in
set_option maxRecDepth 100000 in
theorem lcBl_any (w : World) (s : ByteArray) (hs : s.size ≤ 140737488355328) : Calls Tryd.prog 27 #[.string s, .string ⟨#[32]⟩] w fun e w' => (∃ b, e = .returned (.tuple #[.string (strF (s.data.toList.takeWhile (· != 32))), .string (strF (behindB 32 s.data.toList)), .bool b])) ∧ ∃ d, w' = w.drewN d := by
  have HI := Lib.hid (inBl_any w s)
  by_cases h : (32 : UInt8) ∈ s.data.toList
  · have hlt := List.idxOf_lt_length_of_mem h
    obtain ⟨e1, e2⟩ := idx_in 32 _ h
    rw [if_pos h] at HI
    rw [behindB, e1, e2, List.drop_drop, ← extF_front, ← extF_back]
    obtain ⟨i, hi⟩ : ∃ i, i = s.data.toList.idxOf 32 := ⟨_, rfl⟩
    rw [← hi] at HI hlt ⊢
    have hlt2 : i < s.size := hlt
    have c1 : (0 : Int) ≤ (i : Int) := by omega
    have c2 : (i : Int) ≤ (s.size : Int) := by omega
    have c3 : (0 : Int) ≤ (i : Int) + 1 := by omega
    have c4 : (i : Int) + 1 ≤ (s.size : Int) := by omega
    clear hi hlt h e1 e2
    go_enter Tryd.func27, Tryd.ntmps27
    go_wp2_with fail
    refine HI.out.mono ?_
    rintro e w ⟨rfl, rfl⟩
    go_wp2_with fail
    go_region
    go_wp2_with fail
    go_ret3
    exact ⟨⟨_, rfl⟩, 1, rfl⟩
  · obtain ⟨e1, e2⟩ := idx_out 32 _ h
    rw [if_neg h] at HI
    rw [e1, e2, strF_of]
    clear h e1 e2
    go_enter Tryd.func27, Tryd.ntmps27
    go_wp2_with fail
    refine HI.out.mono ?_
    rintro e w ⟨rfl, rfl⟩
    go_wp2_with fail
    go_ret3
    exact ⟨⟨_, rfl⟩, 0, rfl⟩

set_option maxRecDepth 100000 in
theorem cutBl_any (w : World) (s : ByteArray) (hs : s.size ≤ 140737488355328) : Calls Tryd.prog 22 #[.string s, .string ⟨#[32]⟩] w fun e w' => (∃ b, e = .returned (.tuple #[.string (strF (s.data.toList.takeWhile (· != 32))), .string (strF (behindB 32 s.data.toList)), .bool b])) ∧ ∃ d, w' = w.drewN d := by
  have HI := Lib.hid (lcBl_any w s hs)
  go_enter Tryd.func22, Tryd.ntmps22
  go_wp2_with fail
  refine HI.out.mono ?_
  rintro e w' ⟨⟨b, rfl⟩, hd⟩
  have HD := Lib.hid hd
  clear hd
  go_wp2_with fail
  go_ret3
  exact ⟨⟨_, rfl⟩, HD.out⟩

set_option maxRecDepth 100000 in
theorem ixEq_any (w : World) (s : ByteArray) : Calls Tryd.prog 36 #[.string s, .int .u8 61] w fun e w' => e = .returned (.int .i64 (if (61 : UInt8) ∈ s.data.toList then ((s.data.toList.idxOf 61 : Nat) : Int) else -1)) ∧ w' = w := by
  have hrun := Lib.run_indexByteString (P := Tryd.prog) s 61 w
  rw [show ((61 : Int).toNat.toUInt8) = (61 : UInt8) from rfl, byte_idx] at hrun
  have HR := Lib.hid hrun
  clear hrun
  generalize (if (61 : UInt8) ∈ s.data.toList then ((s.data.toList.idxOf 61 : Nat) : Int) else -1) = y at *
  go_enter Tryd.func36, Tryd.ntmps36
  go_wp2_with fail
  rw [run_callFunc_extern Tryd.func41 (by kernel_rfl) (by kernel_rfl) (by kernel_rfl) (e := Extern.BytealgIndexByte.indexByte) (by kernel_rfl), HR.out]
  simp only [Result.andThen]
  rw [Oper.upon_value]
  go_wp2_with fail
  go_ret
  exact ⟨rfl, rfl⟩

set_option maxHeartbeats 1600000 in
set_option maxRecDepth 100000 in
theorem inEq_any (w : World) (s : ByteArray) : Calls Tryd.prog 31 #[.string s, .string ⟨#[61]⟩] w fun e w' => e = .returned (.int .i64 (if (61 : UInt8) ∈ s.data.toList then ((s.data.toList.idxOf 61 : Nat) : Int) else -1)) ∧ w' = w := by
  have HI := Lib.hid (ixEq_any w s)
  by_cases e : s = ⟨#[61]⟩
  · subst e
    have d0 : (((⟨#[61]⟩ : ByteArray).toList) == ((⟨#[61]⟩ : ByteArray).toList)) = true := beq_self_eq_true _
    have d1 : ([61] == ((⟨#[61]⟩ : ByteArray).toList)) = true := by rw [ByteArray.toList_eq]; rfl
    rw [show (if (61 : UInt8) ∈ (⟨#[61]⟩ : ByteArray).data.toList then (((⟨#[61]⟩ : ByteArray).data.toList.idxOf 61 : Nat) : Int) else -1) = 0 from by decide]
    go_enter Tryd.func31, Tryd.ntmps31
    go_wp2_with fail
    go_ret
    exact ⟨rfl, rfl⟩
  have d1 : ([61] == s.toList) = false := by
    rw [ByteArray.toList_eq]
    refine beq_false_of_ne fun h => e ?_
    apply ByteArray.ext
    apply Array.toList_inj.1
    exact h.symm
  clear e
  generalize (if (61 : UInt8) ∈ s.data.toList then ((s.data.toList.idxOf 61 : Nat) : Int) else -1) = y at *
  go_enter Tryd.func31, Tryd.ntmps31
  go_wp2_with fail
  refine HI.out.mono ?_
  rintro e w ⟨rfl, rfl⟩
  go_wp2_with fail
  go_ret
  exact ⟨rfl, rfl⟩

set_option maxHeartbeats 1600000 in
set_option maxRecDepth 100000 in
theorem lcEq_any (w : World) (s : ByteArray) (hs : s.size ≤ 140737488355328) : Calls Tryd.prog 27 #[.string s, .string ⟨#[61]⟩] w fun e w' => (∃ b, e = .returned (.tuple #[.string (strF (s.data.toList.takeWhile (· != 61))), .string (strF (behindB 61 s.data.toList)), .bool b])) ∧ ∃ d, w' = w.drewN d := by
  have HI := Lib.hid (inEq_any w s)
  by_cases h : (61 : UInt8) ∈ s.data.toList
  · have hlt := List.idxOf_lt_length_of_mem h
    obtain ⟨e1, e2⟩ := idx_in 61 _ h
    rw [if_pos h] at HI
    rw [behindB, e1, e2, List.drop_drop, ← extF_front, ← extF_back]
    obtain ⟨i, hi⟩ : ∃ i, i = s.data.toList.idxOf 61 := ⟨_, rfl⟩
    rw [← hi] at HI hlt ⊢
    have hlt2 : i < s.size := hlt
    have c1 : (0 : Int) ≤ (i : Int) := by omega
    have c2 : (i : Int) ≤ (s.size : Int) := by omega
    have c3 : (0 : Int) ≤ (i : Int) + 1 := by omega
    have c4 : (i : Int) + 1 ≤ (s.size : Int) := by omega
    clear hi hlt h e1 e2
    go_enter Tryd.func27, Tryd.ntmps27
    go_wp2_with fail
    refine HI.out.mono ?_
    rintro e w ⟨rfl, rfl⟩
    go_wp2_with fail
    go_region
    go_wp2_with fail
    go_ret3
    exact ⟨⟨_, rfl⟩, 1, rfl⟩
  · obtain ⟨e1, e2⟩ := idx_out 61 _ h
    rw [if_neg h] at HI
    rw [e1, e2, strF_of]
    clear h e1 e2
    go_enter Tryd.func27, Tryd.ntmps27
    go_wp2_with fail
    refine HI.out.mono ?_
    rintro e w ⟨rfl, rfl⟩
    go_wp2_with fail
    go_ret3
    exact ⟨⟨_, rfl⟩, 0, rfl⟩

set_option maxRecDepth 100000 in
theorem cutEq_any (w : World) (s : ByteArray) (hs : s.size ≤ 140737488355328) : Calls Tryd.prog 22 #[.string s, .string ⟨#[61]⟩] w fun e w' => (∃ b, e = .returned (.tuple #[.string (strF (s.data.toList.takeWhile (· != 61))), .string (strF (behindB 61 s.data.toList)), .bool b])) ∧ ∃ d, w' = w.drewN d := by
  have HI := Lib.hid (lcEq_any w s hs)
  go_enter Tryd.func22, Tryd.ntmps22
  go_wp2_with fail
  refine HI.out.mono ?_
  rintro e w' ⟨⟨b, rfl⟩, hd⟩
  have HD := Lib.hid hd
  clear hd
  go_wp2_with fail
  go_ret3
  exact ⟨⟨_, rfl⟩, HD.out⟩

set_option maxRecDepth 100000 in
theorem sindex_any (w : World) (s : ByteArray) : Calls Tryd.prog 25 #[.string s, .string ⟨#[61]⟩] w fun e w' => e = .returned (.int .i64 (if (61 : UInt8) ∈ s.data.toList then ((s.data.toList.idxOf 61 : Nat) : Int) else -1)) ∧ w' = w := by
  have HI := Lib.hid (inEq_any w s)
  generalize (if (61 : UInt8) ∈ s.data.toList then ((s.data.toList.idxOf 61 : Nat) : Int) else -1) = y at *
  go_enter Tryd.func25, Tryd.ntmps25
  go_wp2_with fail
  refine HI.out.mono ?_
  rintro e w ⟨rfl, rfl⟩
  go_wp2_with fail
  go_ret
  exact ⟨rfl, rfl⟩

set_option maxRecDepth 100000 in
theorem contains_any (w : World) (s : ByteArray) : Calls Tryd.prog 20 #[.string s, .string ⟨#[61]⟩] w fun e w' => e = .returned (.bool (decide ((61 : UInt8) ∈ s.data.toList))) ∧ w' = w := by
  have HI := Lib.hid (sindex_any w s)
  by_cases h : (61 : UInt8) ∈ s.data.toList
  · rw [decide_eq_true h]
    rw [if_pos h] at HI
    have d0 : decide ((0 : Int) ≤ ((s.data.toList.idxOf 61 : Nat) : Int)) = true := decide_eq_true (by omega)
    generalize s.data.toList.idxOf 61 = i at *
    clear h
    go_enter Tryd.func20, Tryd.ntmps20
    go_wp2_with fail
    refine HI.out.mono ?_
    rintro e w ⟨rfl, rfl⟩
    go_wp2_with fail
    go_ret
    exact ⟨rfl, rfl⟩
  · rw [decide_eq_false h]
    rw [if_neg h] at HI
    clear h
    go_enter Tryd.func20, Tryd.ntmps20
    go_wp2_with fail
    refine HI.out.mono ?_
    rintro e w ⟨rfl, rfl⟩
    go_wp2_with fail
    go_ret
    exact ⟨rfl, rfl⟩
set_option maxRecDepth 100000 in
theorem last_ext (s : ByteArray) (h : 0 < s.size) : ((s.extract (s.size - 1) s.size).toList == [10]) = decide (s.data.toList.getLast? = some 10) := by
  have hl : s.data.toList.length = s.size := rfl
  have hne : s.data.toList ≠ [] := fun e => by rw [e] at hl; simp at hl; omega
  rw [ByteArray.toList_eq, fext_list, List.take_of_length_le (show s.data.toList.length ≤ s.size from Nat.le_refl _), ← hl]
  generalize s.data.toList = l at *
  obtain ⟨d, x, rfl⟩ : ∃ d x, l = d ++ [x] := ⟨l.dropLast, l.getLast hne, (List.dropLast_concat_getLast hne).symm⟩
  rw [List.getLast?_concat, List.drop_left' (by rw [List.length_append]; rfl)]
  by_cases e : x = 10
  · subst e
    rfl
  · rw [decide_eq_false (by simpa using e)]
    exact beq_false_of_ne (by simpa using e)

set_option maxRecDepth 100000 in
theorem suffix_any (w : World) (s : ByteArray) (hs : s.size ≤ 140737488355328) : Calls Tryd.prog 35 #[.string s, .string ⟨#[10]⟩] w fun e w' => e = .returned (.bool (decide (s.data.toList.getLast? = some 10))) ∧ ∃ d, w' = w.drewN d := by
  by_cases h : 0 < s.size
  · have d0 : decide ((1 : Int) ≤ (s.size : Int)) = true := decide_eq_true (by omega)
    obtain ⟨i, hi⟩ : ∃ i : Nat, i = s.size - 1 := ⟨_, rfl⟩
    have d1 := last_ext s h
    rw [← hi] at d1
    have d2 : (s.size : Int) - 1 = (i : Int) := by omega
    have c1 : (i : Int) ≤ (s.size : Int) := by omega
    generalize decide (s.data.toList.getLast? = some 10) = b at *
    clear hi
    go_enter Tryd.func35, Tryd.ntmps35
    go_wp2_with fail
    go_ret
    exact ⟨rfl, 0, rfl⟩
  · have d0 : decide ((1 : Int) ≤ (s.size : Int)) = false := decide_eq_false (by omega)
    have e1 : s.data.toList = [] := List.eq_nil_of_length_eq_zero (by show s.size = 0; omega)
    rw [e1]
    show Calls _ _ _ _ fun e w' => e = .returned (.bool false) ∧ _
    clear e1
    go_enter Tryd.func35, Tryd.ntmps35
    go_wp2_with fail
    go_ret
    exact ⟨rfl, 0, rfl⟩
set_option maxRecDepth 100000 in
theorem ltrim_any (w : World) (s : ByteArray) (hs : s.size ≤ 140737488355328) : Calls Tryd.prog 30 #[.string s, .string ⟨#[10]⟩] w fun e w' => e = .returned (.string (strF (trimE s.data.toList))) ∧ ∃ d, w' = w.drewN d := by
  have HI := Lib.hid (suffix_any w s hs)
  unfold trimE
  by_cases h : s.data.toList.getLast? = some 10
  · rw [if_pos h]
    rw [decide_eq_true h] at HI
    have hz : 0 < s.size := by
      rcases Nat.eq_zero_or_pos s.size with h0 | h0
      · have e1 : s.data.toList = [] := List.eq_nil_of_length_eq_zero h0
        rw [e1] at h
        cases h
      · exact h0
    have e2 : strF s.data.toList.dropLast = s.extract 0 (s.size - 1) := by
      rw [extF_front, List.dropLast_eq_take]
      rfl
    rw [e2]
    obtain ⟨i, hi⟩ : ∃ i : Nat, i = s.size - 1 := ⟨_, rfl⟩
    rw [← hi]
    have d2 : (s.size : Int) - 1 = (i : Int) := by omega
    have c1 : (i : Int) ≤ (s.size : Int) := by omega
    clear hi e2 h
    go_enter Tryd.func30, Tryd.ntmps30
    go_wp2_with fail
    refine HI.out.mono ?_
    rintro e w' ⟨rfl, hd⟩
    have HD := Lib.hid hd
    clear hd
    go_wp2_with fail
    go_ret
    exact ⟨rfl, HD.out⟩
  · rw [if_neg h, strF_of]
    rw [decide_eq_false h] at HI
    clear h
    go_enter Tryd.func30, Tryd.ntmps30
    go_wp2_with fail
    refine HI.out.mono ?_
    rintro e w' ⟨rfl, hd⟩
    have HD := Lib.hid hd
    clear hd
    go_wp2_with fail
    go_ret
    exact ⟨rfl, HD.out⟩
set_option maxRecDepth 100000 in
theorem trim_any (w : World) (s : ByteArray) (hs : s.size ≤ 140737488355328) : Calls Tryd.prog 24 #[.string s, .string ⟨#[10]⟩] w fun e w' => e = .returned (.string (strF (trimE s.data.toList))) ∧ ∃ d, w' = w.drewN d := by
  have HI := Lib.hid (ltrim_any w s hs)
  go_enter Tryd.func24, Tryd.ntmps24
  go_wp2_with fail
  refine HI.out.mono ?_
  rintro e w' ⟨rfl, hd⟩
  have HD := Lib.hid hd
  clear hd
  go_wp2_with fail
  go_ret
  exact ⟨rfl, HD.out⟩
end Go.Proofs.YtccfjabmmecbkaaDoor
