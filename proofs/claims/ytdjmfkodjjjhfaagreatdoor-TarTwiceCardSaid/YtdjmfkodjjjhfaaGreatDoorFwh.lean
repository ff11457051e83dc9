/- fields.passer and the closure that it makes; strings.IndexByte. Conditions: texts of at most 2^47 bytes. -/
import Derived.Test.YtdjmfkodjjjhfaaGreatDoorSa
import Derived.Lib.Bytealg
import Derived.Test.YtdjmfkodjjjhfaaGreatDoorFwe
import Derived.Test.YtdjmfkodjjjhfaaGreatDoorUsc
namespace Go.Proofs.YtdjmfkodjjjhfaaGreatDoor
open Go.RowKit

theorem ibyte_neg (l : List UInt8) (b : UInt8) : b ∉ l → Lib.indexByte l b = -1 := by
  induction l with
  | nil => intro _; rfl
  | cons x l ih =>
    intro h
    unfold Lib.indexByte
    rw [ih (fun q => h (List.mem_cons_of_mem _ q)), show (x == b) = false from beq_false_of_ne fun q => h (q ▸ List.mem_cons_self)]
    rfl
set_option maxRecDepth 100000 in
theorem ibyte_pos (l : List UInt8) (b : UInt8) : b ∈ l → 0 ≤ Lib.indexByte l b := by
  induction l with
  | nil => intro h; cases h
  | cons x l ih =>
    intro h
    unfold Lib.indexByte
    by_cases e : x = b
    · rw [show (x == b) = true from beq_iff_eq.2 e]
      exact Int.le_refl 0
    · rw [show (x == b) = false from beq_false_of_ne e]
      have h2 := ih (by rcases List.mem_cons.1 h with q | q; exact absurd q.symm e; exact q)
      have h3 : (Lib.indexByte l b == -1) = false := beq_false_of_ne (by omega)
      simp only [h3, Bool.false_eq_true, if_false]
      omega
set_option maxRecDepth 100000 in
theorem sidx_any (w : World) (s : ByteArray) (c : UInt8) : Calls Tryz.prog 121 #[.string s, .int .u8 c.toNat] w fun e w' => e = .returned (.int .i64 (Lib.indexByte s.data.toList c)) ∧ w' = w := by
  have hrun := Lib.run_indexByteString (P := Tryz.prog) s (c.toNat : Int) w
  rw [show ((c.toNat : Int).toNat.toUInt8) = c from by rw [Int.toNat_natCast]; exact UInt8.ofNat_toNat] at hrun
  have HR := Lib.hid hrun
  clear hrun
  have HI : Hid (∀ wx, wx = w → Calls Tryz.prog 147 #[.string s, .int .u8 c.toNat] wx fun e w' => e = .returned (.int .i64 (Lib.indexByte s.data.toList c)) ∧ w' = w) := Lib.hid fun wx hwx => by
    subst hwx
    generalize Lib.indexByte s.data.toList c = y at *
    generalize c.toNat = n at *
    go_enter Tryz.func147, Tryz.ntmps147
    go_wp2_with fail
    rw [run_callFunc_extern Tryz.func163 (by kernel_rfl) (by kernel_rfl) (by kernel_rfl) (e := Extern.BytealgIndexByte.indexByte) (by kernel_rfl), HR.out]
    simp only [Result.andThen]
    rw [Oper.upon_value]
    go_wp2_with fail
    go_ret
    exact ⟨rfl, rfl⟩
  clear HR
  generalize Lib.indexByte s.data.toList c = y at *
  generalize c.toNat = n at *
  go_enter Tryz.func121, Tryz.ntmps121
  go_wp2_with fail
  refine (HI.out w rfl).mono ?_
  rintro e w ⟨rfl, rfl⟩
  go_wp2_with fail
  go_ret
  exact ⟨rfl, rfl⟩

/-- How many bytes at the beginning are of a set. -/
def headN (set s : List UInt8) : Nat := (s.takeWhile (· ∈ set)).length
theorem headN_le (set s : List UInt8) : headN set s ≤ s.length := by
  have := congrArg List.length (List.takeWhile_append_dropWhile (p := (· ∈ set)) (l := s))
  rw [List.length_append] at this
  unfold headN
  omega
set_option maxRecDepth 100000 in
theorem headN_in : ∀ (set s : List UInt8) (j : Nat), j < headN set s → s.getD j 0 ∈ set
  | set, [], j, h => by cases h
  | set, c :: s, j, h => by
    unfold headN at h
    rw [List.takeWhile_cons] at h
    by_cases e : c ∈ set
    · rw [if_pos (by simpa using e)] at h
      cases j with
      | zero => exact e
      | succ j => exact headN_in set s j (by unfold headN; simpa using h)
    · rw [if_neg (by simpa using e)] at h
      cases h
set_option maxRecDepth 100000 in
theorem headN_out : ∀ (set s : List UInt8), headN set s < s.length → s.getD (headN set s) 0 ∉ set
  | set, [], h => by cases h
  | set, c :: s, h => by
    unfold headN at h ⊢
    rw [List.takeWhile_cons] at h ⊢
    by_cases e : c ∈ set
    · rw [if_pos (by simpa using e)] at h ⊢
      exact headN_out set s (by unfold headN; simpa using h)
    · rw [if_neg (by simpa using e)]
      exact e
theorem headN_take (set s : List UInt8) : s.take (headN set s) = s.takeWhile (· ∈ set) := by
  have h := List.takeWhile_append_dropWhile (p := (· ∈ set)) (l := s)
  unfold headN
  conv => lhs; arg 2; rw [← h]
  exact List.take_left
theorem headN_drop (set s : List UInt8) : s.drop (headN set s) = s.dropWhile (· ∈ set) := by
  have h := List.takeWhile_append_dropWhile (p := (· ∈ set)) (l := s)
  unfold headN
  conv => lhs; arg 2; rw [← h]
  exact List.drop_left
theorem ext_takeW (set : List UInt8) (s : ByteArray) : s.extract 0 (headN set s.data.toList) = strF (s.data.toList.takeWhile (· ∈ set)) := by
  rw [fext_take, headN_take]
theorem ext_dropW (set : List UInt8) (s : ByteArray) : s.extract (headN set s.data.toList) s.size = strF (s.data.toList.dropWhile (· ∈ set)) := by
  have h := fext_drop s.data.toList (headN set s.data.toList)
  rw [strF_self, headN_drop] at h
  exact h

abbrev passV (g : Nat) : Value := .func (.func 131) #[] #[.pointer (some ⟨g, 0, none⟩)]
/-- A passer's variable: what is left is s. -/
def Pass (w : World) (g : Nat) (s : ByteArray) : Prop := Blk w g 9 #[.string s] ∧ s.size ≤ 140737488355328

set_option maxHeartbeats 1600000 in
set_option maxRecDepth 100000 in
theorem pass_walk (w : World) (g : Nat) (set s : ByteArray) (k : Nat) (h : Pass w g s) (hk : k ≤ s.size) (hin : ∀ j, j < k → s.data.toList.getD j 0 ∈ set.data.toList) (hout : k < s.size → s.data.toList.getD k 0 ∉ set.data.toList) :
    Calls Tryz.prog 131 #[.string set, .pointer (some ⟨g, 0, none⟩)] w fun e w' => e = .returned (.tuple #[.string (s.extract 0 k), .string (s.extract k s.size)]) ∧ Pass w' g (s.extract k s.size) ∧ Step g [g] [] w w' := by
  obtain ⟨hr, hl⟩ := h
  have c0 : w.cell? ⟨g, 0, none⟩ = some (.string s) := blk_cell hr 0
  have f0 : w.frozen? ⟨g, 0, none⟩ = false := blk_frozen hr 0
  have HI := Lib.hid fun (c : UInt8) => sidx_any w set c
  have HIN := Lib.hid hin
  have HOUT := Lib.hid hout
  have hps : (s.extract 0 k).size = k := by rw [ByteArray.size_extract]; omega
  have hds : (s.extract k s.size).size ≤ 140737488355328 := by rw [ByteArray.size_extract]; omega
  have hall : k = s.size → s.extract 0 k = s := fun h => by subst h; exact ByteArray.extract_zero_size
  have hemp : k = s.size → s.extract k s.size = ByteArray.empty := fun h => by
    apply ByteArray.ext
    apply Array.toList_inj.1
    rw [fext_list, List.drop_eq_nil_of_le (by rw [List.length_take]; show min s.size s.data.size ≤ k; omega)]
    rfl
  generalize hP : s.extract 0 k = P at *
  generalize hD : s.extract k s.size = D at *
  have c9 : (w.setCell ⟨g, 0, none⟩ (.string D)).cell? ⟨g, 0, none⟩ = some (.string D) := blk_cell (blk_set hr 0 (.string D)) 0
  have HPS : Hid (Pass (w.setCell ⟨g, 0, none⟩ (.string D)) g D ∧ Step g [g] [] w (w.setCell ⟨g, 0, none⟩ (.string D))) := Lib.hid ⟨⟨blk_set hr 0 (.string D), hds⟩, (Step.refl g [g] [] w).set (p := ⟨g, 0, none⟩) (Nat.le_refl _) (by simp) _⟩
  have HP := Lib.hid hP
  have HD := Lib.hid hD
  have hpz : (P.size : Int) = k := by omega
  have hpk : (k : Int) ≤ s.size := by omega
  have HALL := Lib.hid hall
  have HEMP := Lib.hid hemp
  clear hr hin hout hds hP hD hall hemp
  go_enter Tryz.func131, Tryz.ntmps131
  go_wp2_with fail
  go_loopw [5, 10] (fun sp si wx => ∃ q : Nat, sp = .string s ∧ si = .int .i64 q ∧ q ≤ k ∧ wx = w) (fun _ si _ => k - (intOf si).toNat)
  case atStart => exact ⟨0, rfl, rfl, Nat.zero_le _, rfl⟩
  case round =>
    obtain ⟨q, rfl, rfl, hq, rfl⟩ := hrel
    by_cases e : q < k
    · have d0 : decide ((q : Int) < (s.size : Int)) = true := decide_eq_true (by omega)
      have hqz : (q : Int) < s.size := by omega
      have hmem := HIN.out q e
      rw [fbyte s q (by omega)] at hmem
      have hpos := ibyte_pos _ _ hmem
      have hidx := (HI.out s[q])
      generalize Lib.indexByte set.data.toList s[q] = y at *
      have d1 : decide (y < 0) = false := decide_eq_false (by omega)
      have HX := Lib.hid hidx
      clear hmem hpos hidx HI
      go_wp2_with fail
      refine HX.out.mono ?_
      rintro e wr ⟨rfl, rfl⟩
      go_wp2_with fail
      go_roundw
      case rel => exact ⟨q + 1, by first | rfl | trivial, by go_num, by omega, by first | rfl | trivial⟩
      case measure => simp [intOf]; omega
    · obtain rfl : q = k := by omega
      by_cases e2 : q < s.size
      · have d0 : decide ((q : Int) < (s.size : Int)) = true := decide_eq_true (by omega)
        have hqz : (q : Int) < s.size := by omega
        have hmem := HOUT.out e2
        rw [fbyte s q (by omega)] at hmem
        have hneg := ibyte_neg _ _ hmem
        have hidx := (HI.out s[q])
        rw [hneg] at hidx
        have d1 : decide ((-1 : Int) < 0) = true := rfl
        have HX := Lib.hid hidx
        clear hmem hneg hidx HI
        go_wp2_with fail
        refine HX.out.mono ?_
        rintro e wr ⟨rfl, rfl⟩
        go_wp2_with fail
        rw [HP.out, HD.out]
        go_region
        go_wp2_with fail
        go_ret2
        exact ⟨rfl, HPS.out.1, HPS.out.2.drew⟩
      · have hqs : q = s.size := by omega
        have d0 : decide ((q : Int) < (s.size : Int)) = false := decide_eq_false (by omega)
        have HP2 := Lib.hid (HALL.out hqs)
        have HD2 := Lib.hid (HEMP.out hqs)
        clear hqs
        go_wp2_with fail
        rw [← HD2.out]
        go_region
        go_wp2_with fail
        go_ret2
        exact ⟨by rw [HP2.out]; rfl, HPS.out.1, HPS.out.2.drew⟩
theorem pass_any (w : World) (g : Nat) (set s : ByteArray) (h : Pass w g s) : Calls Tryz.prog 131 #[.string set, .pointer (some ⟨g, 0, none⟩)] w fun e w' =>
    e = .returned (.tuple #[.string (strF (s.data.toList.takeWhile (· ∈ set.data.toList))), .string (strF (s.data.toList.dropWhile (· ∈ set.data.toList)))]) ∧ Pass w' g (strF (s.data.toList.dropWhile (· ∈ set.data.toList))) ∧ Step g [g] [] w w' := by
  have h2 := pass_walk w g set s (headN set.data.toList s.data.toList) h (headN_le _ _) (fun j hj => headN_in _ _ j hj) (fun hj => headN_out _ _ hj)
  rw [ext_takeW, ext_dropW] at h2
  exact h2

set_option maxRecDepth 100000 in
theorem passer_any (w : World) (s : ByteArray) (hs : s.size ≤ 140737488355328) : Calls Tryz.prog 104 #[.string s] w fun e w' => e = .returned (passV w.heap.size) ∧ Pass w' w.heap.size s ∧ w'.heap.size = w.heap.size + 1 ∧ Below w.heap.size w w' := by
  have HST : Hid (Pass (w.alloc (.cells #[.string s] 9)) w.heap.size s) := Lib.hid ⟨blk_new w 9 #[.string s], hs⟩
  have HB : Hid (Below w.heap.size w (w.alloc (.cells #[.string s] 9))) := Lib.hid ((Below.refl _ w).alloc (Nat.le_refl _) _)
  go_enter Tryz.func104, Tryz.ntmps104
  go_wp2_with fail
  go_ret
  exact ⟨rfl, HST.out, by simp, HB.out⟩
end Go.Proofs.YtdjmfkodjjjhfaaGreatDoor
/- fields.Cut (strings.Cut at a byte 0), Text, Sum. Conditions: texts of at most 2^47 bytes. -/
namespace Go.Proofs.YtdjmfkodjjjhfaaGreatDoor
open Go.RowKit

set_option maxRecDepth 100000 in
theorem zero_idx (l : List UInt8) (b : UInt8) : Lib.indexByte l b = if b ∈ l then ((l.idxOf b : Nat) : Int) else -1 := by
  induction l with
  | nil => simp [Lib.indexByte]
  | cons x l ih =>
    unfold Lib.indexByte
    rw [List.idxOf_cons]
    by_cases e : x = b
    · subst e
      simp
    · have e1 : (x == b) = false := by simpa using e
      have e2 : ¬ b = x := fun h => e h.symm
      rw [e1, ih]
      simp only [Bool.false_eq_true, if_false, cond_false, List.mem_cons, e2, false_or]
      by_cases hm : b ∈ l
      · rw [if_pos hm, if_pos hm]
        have : (((l.idxOf b : Nat) : Int) == -1) = false := by
          rw [beq_eq_false_iff_ne]
          omega
        rw [this]
        simp
      · rw [if_neg hm, if_neg hm]
        simp
set_option maxRecDepth 100000 in
theorem cutZ_in : ∀ s : List UInt8, (0 : UInt8) ∈ s → cutZ s = s.take (s.idxOf 0)
  | [], h => by cases h
  | c :: s, h => by
    rw [cutZ, List.idxOf_cons]
    by_cases e : c = 0
    · subst e
      rfl
    · have e1 : (c == 0) = false := by simpa using e
      rw [if_neg e, e1, cutZ_in s (by rcases List.mem_cons.1 h with q | q; exact absurd q.symm e; exact q)]
      rfl
theorem cutZ_out : ∀ s : List UInt8, (0 : UInt8) ∉ s → cutZ s = s
  | [], _ => rfl
  | c :: s, h => by
    have hc : ¬ c = 0 := fun q => h (by rw [q]; exact List.mem_cons_self)
    rw [cutZ, if_neg hc, cutZ_out s (fun q => h (List.mem_cons_of_mem _ q))]

set_option maxRecDepth 100000 in
theorem zidx_any (w : World) (s : ByteArray) : Calls Tryz.prog 147 #[.string s, .int .u8 0] w fun e w' => e = .returned (.int .i64 (if (0 : UInt8) ∈ s.data.toList then ((s.data.toList.idxOf 0 : Nat) : Int) else -1)) ∧ w' = w := by
  have hrun := Lib.run_indexByteString (P := Tryz.prog) s 0 w
  rw [show ((0 : Int).toNat.toUInt8) = (0 : UInt8) from rfl, zero_idx] at hrun
  have HR := Lib.hid hrun
  clear hrun
  generalize (if (0 : UInt8) ∈ s.data.toList then ((s.data.toList.idxOf 0 : Nat) : Int) else -1) = y at *
  go_enter Tryz.func147, Tryz.ntmps147
  go_wp2_with fail
  rw [run_callFunc_extern Tryz.func163 (by kernel_rfl) (by kernel_rfl) (by kernel_rfl) (e := Extern.BytealgIndexByte.indexByte) (by kernel_rfl), HR.out]
  simp only [Result.andThen]
  rw [Oper.upon_value]
  go_wp2_with fail
  go_ret
  exact ⟨rfl, rfl⟩

set_option maxHeartbeats 1600000 in
set_option maxRecDepth 100000 in
theorem zindex_any (w : World) (s : ByteArray) : Calls Tryz.prog 145 #[.string s, .string ⟨#[0]⟩] w fun e w' => e = .returned (.int .i64 (if (0 : UInt8) ∈ s.data.toList then ((s.data.toList.idxOf 0 : Nat) : Int) else -1)) ∧ w' = w := by
  have HI := Lib.hid (zidx_any w s)
  by_cases e : s = ⟨#[0]⟩
  · subst e
    have d0 : (((⟨#[0]⟩ : ByteArray).toList) == ((⟨#[0]⟩ : ByteArray).toList)) = true := beq_self_eq_true _
    have d1 : ([0] == ((⟨#[0]⟩ : ByteArray).toList)) = true := by rw [ByteArray.toList_eq]; rfl
    rw [show (if (0 : UInt8) ∈ (⟨#[0]⟩ : ByteArray).data.toList then (((⟨#[0]⟩ : ByteArray).data.toList.idxOf 0 : Nat) : Int) else -1) = 0 from by decide]
    go_enter Tryz.func145, Tryz.ntmps145
    go_wp2_with fail
    go_ret
    exact ⟨rfl, rfl⟩
  have d1 : ([0] == s.toList) = false := by
    rw [ByteArray.toList_eq]
    refine beq_false_of_ne fun h => e ?_
    apply ByteArray.ext
    apply Array.toList_inj.1
    exact h.symm
  clear e
  generalize (if (0 : UInt8) ∈ s.data.toList then ((s.data.toList.idxOf 0 : Nat) : Int) else -1) = y at *
  go_enter Tryz.func145, Tryz.ntmps145
  go_wp2_with fail
  refine HI.out.mono ?_
  rintro e w ⟨rfl, rfl⟩
  go_wp2_with fail
  go_ret
  exact ⟨rfl, rfl⟩

set_option maxHeartbeats 1600000 in
set_option maxRecDepth 100000 in
theorem zcut_in (w : World) (s : ByteArray) (hs : s.size ≤ 140737488355328) : Calls Tryz.prog 117 #[.string s, .string ⟨#[0]⟩] w fun e w' => (∃ t b, e = .returned (.tuple #[.string (strF (cutZ s.data.toList)), .string t, .bool b])) ∧ ∃ d, w' = w.drewN d := by
  have HI := Lib.hid (zindex_any w s)
  by_cases h : (0 : UInt8) ∈ s.data.toList
  · have hlt := List.idxOf_lt_length_of_mem h
    rw [if_pos h] at HI
    rw [cutZ_in _ h, ← fext_take]
    obtain ⟨i, hi⟩ : ∃ i, i = s.data.toList.idxOf 0 := ⟨_, rfl⟩
    rw [← hi] at HI hlt ⊢
    have hlt2 : i < s.size := hlt
    have c1 : (0 : Int) ≤ (i : Int) := by omega
    have c2 : (i : Int) ≤ (s.size : Int) := by omega
    have c3 : (0 : Int) ≤ (i : Int) + 1 := by omega
    have c4 : (i : Int) + 1 ≤ (s.size : Int) := by omega
    clear hi hlt h
    go_enter Tryz.func117, Tryz.ntmps117
    go_wp2_with fail
    refine HI.out.mono ?_
    rintro e w ⟨rfl, rfl⟩
    go_wp2_with fail
    go_region
    go_wp2_with fail
    go_ret3
    exact ⟨⟨_, _, rfl⟩, 1, rfl⟩
  · rw [if_neg h] at HI
    rw [cutZ_out _ h, strF_self]
    clear h
    go_enter Tryz.func117, Tryz.ntmps117
    go_wp2_with fail
    refine HI.out.mono ?_
    rintro e w ⟨rfl, rfl⟩
    go_wp2_with fail
    go_ret3
    exact ⟨⟨_, _, rfl⟩, 0, rfl⟩

set_option maxRecDepth 100000 in
theorem zcut_any (w : World) (s : ByteArray) (hs : s.size ≤ 140737488355328) : Calls Tryz.prog 83 #[.string s, .string ⟨#[0]⟩] w fun e w' => (∃ t b, e = .returned (.tuple #[.string (strF (cutZ s.data.toList)), .string t, .bool b])) ∧ ∃ d, w' = w.drewN d := by
  have HI := Lib.hid (zcut_in w s hs)
  go_enter Tryz.func83, Tryz.ntmps83
  go_wp2_with fail
  refine HI.out.mono ?_
  rintro e w' ⟨⟨t, b, rfl⟩, hd⟩
  have HD := Lib.hid hd
  clear hd
  go_wp2_with fail
  go_ret3
  exact ⟨⟨_, _, rfl⟩, HD.out⟩

set_option maxRecDepth 100000 in
theorem ccut_drew (w : World) (s : ByteArray) (hs : s.size ≤ 140737488355328) : Calls Tryz.prog 119 #[.string s] w fun e w' => e = .returned (.string (strF (cutZ s.data.toList))) ∧ ∃ d, w' = w.drewN d := by
  have HI := Lib.hid (zcut_any w s hs)
  go_enter Tryz.func119, Tryz.ntmps119
  go_wp2_with fail
  refine HI.out.mono ?_
  rintro e w' ⟨⟨t, b, rfl⟩, hd⟩
  have HD := Lib.hid hd
  clear hd
  go_wp2_with fail
  go_ret
  exact ⟨rfl, HD.out⟩
theorem ccut_any (w : World) (s : ByteArray) (hs : s.size ≤ 140737488355328) : Calls Tryz.prog 119 #[.string s] w fun e w' => e = .returned (.string (strF (cutZ s.data.toList))) ∧ Below w.heap.size w w' :=
  (ccut_drew w s hs).mono fun e w' h => ⟨h.1, by obtain ⟨d, hd⟩ := h.2; subst hd; exact below_drewN (Below.refl _ w) d⟩

set_option maxHeartbeats 1600000 in
set_option maxRecDepth 100000 in
theorem ctext_any (w : World) (s : ByteArray) (width : Int) (hs : s.size ≤ 140737488355328) (hw1 : -9223372036854775808 ≤ width) (hw2 : width ≤ 9223372036854775807) : Calls Tryz.prog 87 #[.string s, .int .i64 width] w fun e w' => e = .returned (.tuple #[.string (strF (textA s.data.toList width).1), .int .i64 (textA s.data.toList width).2]) ∧ Below w.heap.size w w' := by
  have HC := Lib.hid (ccut_drew w s hs)
  have hsl : s.data.toList.length = s.size := rfl
  unfold textA
  rw [hsl]
  by_cases e1 : width < 0
  · rw [if_pos (.inl e1)]
    have d0 : decide (width < 0) = true := decide_eq_true e1
    go_enter Tryz.func87, Tryz.ntmps87
    go_wp2_with fail
    go_ret2
    exact ⟨rfl, Below.refl _ _⟩
  have d0 : decide (width < 0) = false := decide_eq_false e1
  by_cases e2 : 512 < width
  · rw [if_pos (.inr e2)]
    have d1 : decide (512 < width) = true := decide_eq_true e2
    go_enter Tryz.func87, Tryz.ntmps87
    go_wp2_with fail
    go_ret2
    exact ⟨rfl, Below.refl _ _⟩
  rw [if_neg (by omega)]
  have d1 : decide (512 < width) = false := decide_eq_false e2
  by_cases e3 : width < (s.size : Int)
  · rw [if_pos (.inl e3)]
    have d2 : decide (width < (s.size : Int)) = true := decide_eq_true e3
    go_enter Tryz.func87, Tryz.ntmps87
    go_wp2_with fail
    go_ret2
    exact ⟨rfl, Below.refl _ _⟩
  have d2 : decide (width < (s.size : Int)) = false := decide_eq_false e3
  have hcmp : ((strF (cutZ s.data.toList)).toList == s.toList) = decide (cutZ s.data.toList = s.data.toList) := fsame (strF (cutZ s.data.toList)) s
  by_cases e4 : cutZ s.data.toList = s.data.toList
  · rw [if_neg (by rintro (h | h); exact e3 h; exact h e4)]
    rw [decide_eq_true e4] at hcmp
    obtain ⟨c, hc⟩ : ∃ c : Nat, width - (s.size : Int) = c := ⟨(width - s.size).toNat, by omega⟩
    have hc2 : width.toNat - s.size = c := by omega
    rw [hc2]
    have HR := Lib.hid fun wx : World => repeat_byte wx 0 c (by omega)
    have HS : Hid (s ++ strF (List.replicate c 0) = strF (s.data.toList ++ List.replicate c 0)) := Lib.hid (by rw [← strF_app, strF_self])
    have hz : (strF (List.replicate c 0)).size = c := List.length_replicate
    generalize strF (List.replicate c 0) = Z at *
    generalize strF (cutZ s.data.toList) = C at *
    clear e4 hc2 hsl
    rw [← HS.out]
    go_enter Tryz.func87, Tryz.ntmps87
    go_wp2_with fail
    refine HC.out.mono ?_
    rintro e w1 ⟨rfl, k, rfl⟩
    go_wp2_with fail
    refine (HR.out _).mono ?_
    rintro e w2 ⟨rfl, hb⟩
    have HB := Lib.hid (show Below w.heap.size w w2 from (below_drewN (Below.refl _ w) k).trans hb)
    clear hb
    go_wp2_with fail
    go_ret2
    exact ⟨rfl, HB.out⟩
  · rw [if_pos (.inr e4)]
    rw [decide_eq_false e4] at hcmp
    generalize strF (cutZ s.data.toList) = C at *
    clear e4 hsl
    go_enter Tryz.func87, Tryz.ntmps87
    go_wp2_with fail
    refine HC.out.mono ?_
    rintro e w1 ⟨rfl, k, rfl⟩
    have HB := Lib.hid (below_drewN (Below.refl w.heap.size w) k)
    go_wp2_with fail
    go_ret2
    exact ⟨rfl, HB.out⟩

/-- What the eight blanks come to, of the first q bytes. -/
def blankF (q : Nat) : Nat := if q ≤ 148 then 0 else if q ≤ 156 then 32 * (q - 148) else 256
theorem blank_in (q : Nat) (h1 : 148 ≤ q) (h2 : q < 156) : blankF (q + 1) = blankF q + 32 := by
  unfold blankF
  split <;> split <;> (try split) <;> (try split) <;> omega
theorem blank_out (q : Nat) (h : q < 148 ∨ 156 ≤ q) : blankF (q + 1) = blankF q := by
  unfold blankF
  split <;> split <;> (try split) <;> (try split) <;> omega
theorem blank_le (q : Nat) : blankF q ≤ 256 := by
  unfold blankF
  split <;> (try split) <;> omega
set_option maxHeartbeats 1600000 in
set_option maxRecDepth 100000 in
theorem csum15_any (w : World) (s : ByteArray) (_ : s.size ≤ 140737488355328) : Calls Tryz.prog 122 #[.string s] w fun e w' => e = .returned (.tuple #[.int .i64 (sumA s.data.toList).1, .int .i64 (sumA s.data.toList).2]) ∧ Below w.heap.size w w' := by
  have hsl : s.data.toList.length = s.size := rfl
  unfold sumA
  rw [hsl]
  by_cases e1 : s.size ≠ 512
  · rw [if_pos e1]
    have d0 : ((s.size : Int) != 512) = true := bne_iff_ne.2 (by omega)
    go_enter Tryz.func122, Tryz.ntmps122
    go_wp2_with fail
    go_ret2
    exact ⟨rfl, Below.refl _ _⟩
  rw [if_neg e1]
  have e2 : s.size = 512 := Decidable.not_not.1 e1
  have d0 : ((s.size : Int) != 512) = false := by rw [bne_eq_false_iff_eq]; omega
  have HF := Lib.hid fun q => sumF_next s.data.toList q
  have HL := Lib.hid fun q => sumF_le s.data.toList q
  have HBY := Lib.hid fun q (h : q < s.size) => fbyte s q h
  have HZ := Lib.hid e2
  have hz9 : (s.size : Int) = 512 := by omega
  have b32 : ((⟨#[32]⟩ : ByteArray)[0]'(by decide)).toNat = 32 := rfl
  clear e1 e2 hsl
  go_enter Tryz.func122, Tryz.ntmps122
  go_wp2_with fail
  go_loopw [4, 11] (fun sv si wx => ∃ q v : Nat, sv = .int .i64 v ∧ si = .int .i64 q ∧ q ≤ 512 ∧ v ≤ 255 * q + 256 ∧ wx = w ∧ Hid (v = sumF s.data.toList q + blankF q)) (fun _ si _ => 512 - (intOf si).toNat)
  case atStart => exact ⟨0, 0, rfl, rfl, Nat.zero_le _, Nat.zero_le _, rfl, Lib.hid rfl⟩
  case round =>
    obtain ⟨q, v, rfl, rfl, hq, hv, rfl, HV⟩ := hrel
    by_cases e : q < 512
    · have d1 : decide ((q : Int) < 512) = true := decide_eq_true (by omega)
      have hqs : q < s.size := by rw [HZ.out]; exact e
      have hqz : (q : Int) < s.size := by omega
      have hnext := HF.out q
      have hb := blank_le (q + 1)
      have hl := HL.out (q + 1)
      by_cases e1 : 148 ≤ q
      · have d2 : decide ((148 : Int) ≤ (q : Int)) = true := decide_eq_true (by omega)
        by_cases e2 : q < 156
        · have d3 : decide ((q : Int) < 156) = true := decide_eq_true (by omega)
          rw [if_neg (by omega), Nat.add_zero] at hnext
          have HN := Lib.hid (show v + 32 = sumF s.data.toList (q + 1) + blankF (q + 1) by rw [hnext, blank_in q e1 e2, HV.out]; omega)
          clear hnext hb hl
          go_wp2_with fail
          go_roundw
          case rel => exact ⟨q + 1, v + 32, by go_num, by go_num, by omega, by omega, by first | rfl | trivial, HN⟩
          case measure => simp [intOf]; omega
        · have d3 : decide ((q : Int) < 156) = false := decide_eq_false (by omega)
          rw [if_pos (by omega), HBY.out q hqs] at hnext
          have hc := s[q].toNat_lt
          have HN := Lib.hid (show v + s[q].toNat = sumF s.data.toList (q + 1) + blankF (q + 1) by rw [hnext, blank_out q (by omega), HV.out]; omega)
          clear hnext hb hl
          go_wp2_with fail
          go_roundw
          case rel => exact ⟨q + 1, v + s[q].toNat, by go_num, by go_num, by omega, by omega, by first | rfl | trivial, HN⟩
          case measure => simp [intOf]; omega
      · have d2 : decide ((148 : Int) ≤ (q : Int)) = false := decide_eq_false (by omega)
        rw [if_pos (by omega), HBY.out q hqs] at hnext
        have hc := s[q].toNat_lt
        have HN := Lib.hid (show v + s[q].toNat = sumF s.data.toList (q + 1) + blankF (q + 1) by rw [hnext, blank_out q (by omega), HV.out]; omega)
        clear hnext hb hl
        go_wp2_with fail
        go_roundw
        case rel => exact ⟨q + 1, v + s[q].toNat, by go_num, by go_num, by omega, by omega, by first | rfl | trivial, HN⟩
        case measure => simp [intOf]; omega
    · have hq5 : q = 512 := by omega
      have d1 : decide ((q : Int) < 512) = false := decide_eq_false (by omega)
      have HE := Lib.hid (show 256 + sumF s.data.toList 512 = v by rw [HV.out, hq5]; exact Nat.add_comm _ _)
      clear hq5
      go_wp2_with fail
      go_ret2
      exact ⟨by rw [HE.out]; rfl, Below.refl _ _⟩
end Go.Proofs.YtdjmfkodjjjhfaaGreatDoor
/- Ustar's code: fields laid (made, ownerField, kindField, sumField, lay), Zero. Conditions: the tables are there, where numbers are told. -/
namespace Go.Proofs.YtdjmfkodjjjhfaaGreatDoor
open Go.RowKit

abbrev laidV (t : ByteArray) (e : Nat) : Value := .agg #[.string t, .int .i64 e]
set_option maxHeartbeats 1600000 in
set_option maxRecDepth 100000 in
theorem cmade_any (w : World) (t : ByteArray) (e : Nat) : Calls Tryz.prog 86 #[.string t, .int .i64 e] w fun x w' => x = .returned (laidV t e) ∧ Below w.heap.size w w' := by
  have hr := blk_new w 130 #[.string ⟨#[]⟩, .int .i64 0]
  have HB := Lib.hid (show Below w.heap.size w (w.alloc (.cells #[.string ⟨#[]⟩, .int .i64 0] 130)) from (Below.refl _ _).alloc (Nat.le_refl _) _)
  go_enter Tryz.func86, Tryz.ntmps86
  go_upto_region 1 with fail
  generalize w.alloc (.cells #[.string ⟨#[]⟩, .int .i64 0] 130) = w2 at *
  have e0 := (blk_cell hr 0).trans (rfl : _ = some (Value.string ⟨#[]⟩))
  have e1 := (blk_cell hr 1).trans (rfl : _ = some (Value.int .i64 0))
  have f0 := blk_frozen hr 0
  have f1 := blk_frozen hr 1
  clear hr
  go_wp2_with fail
  refine bodyPost_ret (v := .agg #[.string t, .int .i64 e]) ?_ rfl ?_
  · simp [results, Tryz.results86, go_sem, e0, e1]
  · exact ⟨rfl, (HB.out.setCell (p := ⟨w.heap.size, 0, none⟩) (Nat.le_refl _) _).setCell (p := ⟨w.heap.size, 1, none⟩) (Nat.le_refl _) _⟩

/-- What ownerField lays. -/
def ownA (s : List UInt8) : List UInt8 × Nat := ((textA s 31).1 ++ [0], (textA s 31).2)
set_option maxHeartbeats 1600000 in
set_option maxRecDepth 100000 in
theorem cowner_any (w : World) (t : ByteArray) (hs : t.size ≤ 140737488355328) : Calls Tryz.prog 90 #[.string t] w fun x w' => x = .returned (laidV (strF (ownA t.data.toList).1) (ownA t.data.toList).2) ∧ Below w.heap.size w w' := by
  have C1 := Lib.hid fun wx : World => ctext_any wx t 31 hs (by omega) (by omega)
  have hsz : (strF (textA t.data.toList 31).1).size ≤ 31 := by
    show (textA t.data.toList 31).1.length ≤ 31
    unfold textA
    split
    · exact Nat.zero_le _
    · split
      · exact Nat.zero_le _
      · next h => rw [List.length_append, List.length_replicate]; omega
  have HAP : Hid (strF (textA t.data.toList 31).1 ++ ⟨#[0]⟩ = strF (ownA t.data.toList).1) := Lib.hid (strF_app _ [0])
  have HE : Hid ((textA t.data.toList 31).2 = (ownA t.data.toList).2) := Lib.hid rfl
  generalize (ownA t.data.toList).1 = OA at *
  generalize (ownA t.data.toList).2 = OE at *
  generalize strF (textA t.data.toList 31).1 = T at *
  generalize (textA t.data.toList 31).2 = E at *
  have hr := blk_new w 130 #[.string ⟨#[]⟩, .int .i64 0]
  have HB := Lib.hid (show Below w.heap.size w (w.alloc (.cells #[.string ⟨#[]⟩, .int .i64 0] 130)) from (Below.refl _ _).alloc (Nat.le_refl _) _)
  go_enter Tryz.func90, Tryz.ntmps90
  go_upto_region 1 with fail
  generalize w.alloc (.cells #[.string ⟨#[]⟩, .int .i64 0] 130) = w2 at *
  have HR := Lib.hid hr
  clear hr
  go_wp2_with fail
  refine (C1.out _).mono ?_
  rintro e w3 ⟨rfl, hb3⟩
  have hr := (step_of_below hb3).blk HR.out List.not_mem_nil List.not_mem_nil
  have HB3 := Lib.hid (HB.out.trans (hb3.mono HB.out.size))
  have e0 := (blk_cell hr 0).trans (rfl : _ = some (Value.string ⟨#[]⟩))
  have e1 := (blk_cell hr 1).trans (rfl : _ = some (Value.int .i64 0))
  have f0 := blk_frozen hr 0
  have f1 := blk_frozen hr 1
  clear hr hb3 HR HB
  go_wp2_with fail
  rw [HAP.out, HE.out]
  refine bodyPost_ret (v := laidV (strF OA) OE) ?_ rfl ?_
  · simp [results, Tryz.results90, go_sem, e0, e1]
  · exact ⟨rfl, (HB3.out.setCell (p := ⟨w.heap.size, 0, none⟩) (Nat.le_refl _) _).setCell (p := ⟨w.heap.size, 1, none⟩) (Nat.le_refl _) _⟩

/-- What kindField lays. -/
def kindA (k : Nat) : List UInt8 × Nat := if k = 48 ∨ k = 53 ∨ k = 120 ∨ k = 103 then ([UInt8.ofNat k], 0) else ([], 160)
set_option maxRecDepth 100000 in
theorem kind_mem (c : UInt8) : c ∈ (⟨#[48, 53, 120, 103]⟩ : ByteArray).data.toList ↔ (c.toNat = 48 ∨ c.toNat = 53 ∨ c.toNat = 120 ∨ c.toNat = 103) := by
  show c ∈ [48, 53, 120, 103] ↔ _
  simp only [List.mem_cons, List.not_mem_nil, or_false]
  have e : ∀ d : UInt8, c = d ↔ c.toNat = d.toNat := fun d => ⟨fun h => by rw [h], fun h => UInt8.toNat_inj.1 h⟩
  rw [e 48, e 53, e 120, e 103]
  rfl
set_option maxHeartbeats 1600000 in
set_option maxRecDepth 100000 in
theorem ckind_any (w : World) (k : Nat) (hk : k < 256) : Calls Tryz.prog 89 #[.int .u8 k] w fun x w' => x = .returned (laidV (strF (kindA k).1) (kindA k).2) ∧ Below w.heap.size w w' := by
  obtain ⟨c, hc⟩ : ∃ c : UInt8, c.toNat = k := ⟨UInt8.ofNat k, by rw [UInt8.toNat_ofNat']; omega⟩
  have C1 := Lib.hid fun wx : World => sidx_any wx ⟨#[48, 53, 120, 103]⟩ c
  rw [hc] at C1
  have hm := kind_mem c
  rw [hc] at hm
  have hcv : UInt8.ofNat k = c := by rw [← hc]; exact UInt8.ofNat_toNat
  have hr := blk_new w 130 #[.string ⟨#[]⟩, .int .i64 0]
  have HB := Lib.hid (show Below w.heap.size w (w.alloc (.cells #[.string ⟨#[]⟩, .int .i64 0] 130)) from (Below.refl _ _).alloc (Nat.le_refl _) _)
  obtain ⟨w2, hw2⟩ : ∃ w2, w2 = w.alloc (.cells #[.string ⟨#[]⟩, .int .i64 0] 130) := ⟨_, rfl⟩
  rw [← hw2] at hr HB
  have HW2 := Lib.hid hw2.symm
  have e0 := (blk_cell hr 0).trans (rfl : _ = some (Value.string ⟨#[]⟩))
  have e1 := (blk_cell hr 1).trans (rfl : _ = some (Value.int .i64 0))
  have f0 := blk_frozen hr 0
  have f1 := blk_frozen hr 1
  have HR := Lib.hid hr
  clear hr hw2
  by_cases h : k = 48 ∨ k = 53 ∨ k = 120 ∨ k = 103
  · have HE : Hid (kindA k = ([c], 0)) := Lib.hid (by unfold kindA; rw [if_pos h, hcv])
    have hp := ibyte_pos _ _ (hm.2 h)
    generalize Lib.indexByte (⟨#[48, 53, 120, 103]⟩ : ByteArray).data.toList c = y at *
    have d1 : decide (y < 0) = false := decide_eq_false (by omega)
    rw [HE.out]
    have HCV : Hid (∀ (w1 : World) (g : Nat), w1.cell? ⟨g, 0, none⟩ = some (.int .u8 k) → (convert 80 9 (.slice (some ⟨g, 0, none⟩) 1 1)).run Tryz.prog w1 = .ok (.string (strF [c])) w1) := Lib.hid (by
      intro w1 g hcc
      have := run_convert_bytes_arg (P := Tryz.prog) w1 80 5 Tryz.underlying80 Tryz.underlying5 g 0 1 1 [(k : Int)] rfl (fun i hi => by
        obtain rfl : i = 0 := by omega
        exact hcc) 9 Tryz.underlying9
      rw [show strOfNums [(k : Int)] = strF [c] from by rw [← hcv]; rfl] at this
      exact this)
    have hb2 := blk_new w2 5 #[.int .u8 k]
    have hcv2 := HCV.out (w2.alloc (.cells #[.int .u8 k] 5)) w2.heap.size (blk_cell hb2 0)
    have hb3 : Below w2.heap.size w2 (w2.alloc (.cells #[.int .u8 k] 5)) := (Below.refl _ _).alloc (Nat.le_refl _) _
    have hk3 := (step_of_below hb3).blk HR.out List.not_mem_nil List.not_mem_nil
    have g0 := (blk_cell hk3 0).trans (rfl : _ = some (Value.string ⟨#[]⟩))
    have g1 := (blk_cell hk3 1).trans (rfl : _ = some (Value.int .i64 0))
    have k0 := blk_frozen hk3 0
    have k1 := blk_frozen hk3 1
    have HB3 := Lib.hid (HB.out.trans (hb3.mono HB.out.size))
    clear h hm hp hcv hc hb2 hb3 hk3 HR HB HE HCV
    go_enter Tryz.func89, Tryz.ntmps89
    go_upto_region 1 with fail
    rw [HW2.out]
    go_wp2_with fail
    refine (C1.out _).mono ?_
    rintro e w3 ⟨rfl, rfl⟩
    go_wp2_with fail
    refine bodyPost_ret (v := laidV (strF [c]) 0) ?_ rfl ?_
    · simp [results, Tryz.results89, go_sem, g0, g1]
    · exact ⟨rfl, (HB3.out.setCell (p := ⟨w.heap.size, 0, none⟩) (Nat.le_refl _) _).setCell (p := ⟨w.heap.size, 1, none⟩) (Nat.le_refl _) _⟩
  · have HE : Hid (kindA k = ([], 160)) := Lib.hid (by unfold kindA; rw [if_neg h])
    have hp := ibyte_neg _ _ (fun hh => h (hm.1 hh))
    generalize Lib.indexByte (⟨#[48, 53, 120, 103]⟩ : ByteArray).data.toList c = y at *
    have d1 : decide (y < 0) = true := decide_eq_true (by omega)
    rw [HE.out]
    clear h hm hp hcv hc HR HE
    go_enter Tryz.func89, Tryz.ntmps89
    go_upto_region 1 with fail
    rw [HW2.out]
    go_wp2_with fail
    refine (C1.out _).mono ?_
    rintro e w3 ⟨rfl, rfl⟩
    go_wp2_with fail
    refine bodyPost_ret (v := laidV (strF []) 160) ?_ rfl ?_
    · simp [results, Tryz.results89, go_sem, e0, e1]
      rfl
    · exact ⟨rfl, (HB.out.setCell (p := ⟨w.heap.size, 0, none⟩) (Nat.le_refl _) _).setCell (p := ⟨w.heap.size, 1, none⟩) (Nat.le_refl _) _⟩

theorem zeroA_rep (l : List UInt8) : zeroA l = decide (l = List.replicate 512 0) := by
  unfold zeroA allZ
  rw [Bool.eq_iff_iff, Bool.and_eq_true, decide_eq_true_iff, decide_eq_true_iff, List.all_eq_true]
  constructor
  · rintro ⟨h1, h2⟩
    exact List.eq_replicate_iff.2 ⟨h2, fun c hc => of_decide_eq_true (h1 c hc)⟩
  · intro h
    obtain ⟨h2, h1⟩ := List.eq_replicate_iff.1 h
    exact ⟨fun c hc => decide_eq_true (h1 c hc), h2⟩
set_option maxRecDepth 100000 in
theorem czero_any (w : World) (s : ByteArray) : Calls Tryz.prog 113 #[.string s] w fun e w' => e = .returned (.bool (zeroA s.data.toList)) ∧ Below w.heap.size w w' := by
  have C1 := Lib.hid fun wx : World => repeat_byte wx 0 512 (by omega)
  have he : (s.toList == (strF (List.replicate 512 0)).toList) = zeroA s.data.toList := by
    rw [fsame, strF_list, zeroA_rep]
  generalize strF (List.replicate 512 0) = T at *
  generalize zeroA s.data.toList = b at *
  go_enter Tryz.func113, Tryz.ntmps113
  go_wp2_with fail
  refine (C1.out _).mono ?_
  rintro e w2 ⟨rfl, hb2⟩
  have HB := Lib.hid hb2
  clear hb2
  go_wp2_with fail
  go_ret
  exact ⟨rfl, HB.out⟩

/-- What sumField tells. -/
def sumT (A B : List UInt8) : List UInt8 := oW ((sumA (A ++ (blanks ++ B))).1 : Nat) 7 ++ [32]
set_option maxRecDepth 100000 in
theorem oW_seven (x : Int) : (oW x 7).length ≤ 7 := by
  unfold oW octalA
  split
  · exact Nat.zero_le _
  · split
    · exact Nat.zero_le _
    · simp [octL_length]
set_option maxHeartbeats 1600000 in
set_option maxRecDepth 100000 in
theorem csumf_any (w : World) (hT : Tabs w) (A B : List UInt8) (hA : A.length ≤ 1000) (hB : B.length ≤ 1000) :
    Calls Tryz.prog 91 #[.string (strF A), .string (strF B)] w fun e w' => e = .returned (.string (strF (sumT A B))) ∧ Below w.heap.size w w' := by
  have HTB : Hid (∀ wx : World, Below w.heap.size w wx → Tabs wx) := Lib.hid fun wx hb => hT.below hb
  have C1 := Lib.hid fun wx : World => repeat_byte wx 32 8 (by omega)
  have C2 := Lib.hid fun wx : World => csum15_any wx (strF (A ++ (blanks ++ B))) (by show (A ++ (blanks ++ B)).length ≤ _; unfold blanks; simp; omega)
  rw [strF_list] at C2
  have hn := sumF_le (A ++ (blanks ++ B)) 512
  have hn2 : (sumA (A ++ (blanks ++ B))).1 ≤ 200000 := by
    unfold sumA
    split
    · exact Nat.zero_le _
    · show 256 + _ ≤ _; omega
  have C3 := Lib.hid fun (wx : World) (ht : Tabs wx) => coctal_any wx ht ((sumA (A ++ (blanks ++ B))).1 : Nat) 7 (by omega) (by omega) (by omega) (by omega)
  have HAP : Hid (strF A ++ strF (List.replicate 8 32) ++ strF B = strF (A ++ (blanks ++ B))) := Lib.hid (by rw [strF_app, strF_app, List.append_assoc]; rfl)
  have HSM : Hid (strF (oW ((sumA (A ++ (blanks ++ B))).1 : Nat) 7) ++ ⟨#[32]⟩ = strF (sumT A B)) := Lib.hid (strF_app _ [32])
  have hz : (strF (oW ((sumA (A ++ (blanks ++ B))).1 : Nat) 7)).size ≤ 7 := oW_seven _
  have HO : Hid ((octalA ((sumA (A ++ (blanks ++ B))).1 : Nat) 7).1 = oW ((sumA (A ++ (blanks ++ B))).1 : Nat) 7) := Lib.hid rfl
  have hza : (strF A).size ≤ 1000 := hA
  have hzb : (strF B).size ≤ 1000 := hB
  have hzr : (strF (List.replicate 8 (32 : UInt8))).size = 8 := rfl
  have hzm : (strF A ++ strF (List.replicate 8 (32 : UInt8))).size ≤ 1008 := by rw [ByteArray.size_append]; omega
  rw [HO.out] at C3
  clear hn hn2 HO hT
  generalize (octalA ((sumA (A ++ (blanks ++ B))).1 : Nat) 7).2 = OE at *
  generalize strF (oW ((sumA (A ++ (blanks ++ B))).1 : Nat) 7) = OT at *
  generalize (sumA (A ++ (blanks ++ B))).1 = SN at *
  generalize (sumA (A ++ (blanks ++ B))).2 = SE at *
  generalize strF (A ++ (blanks ++ B)) = ALL at *
  generalize strF (List.replicate 8 (32 : UInt8)) = BL at *
  generalize strF (sumT A B) = RES at *
  generalize strF A = TA at *
  generalize strF B = TB at *
  clear hA hB
  go_enter Tryz.func91, Tryz.ntmps91
  go_wp2_with fail
  refine (C1.out _).mono ?_
  rintro e w2 ⟨rfl, hb2⟩
  have HB2 := Lib.hid hb2
  clear hb2
  go_wp2_with fail
  rw [HAP.out]
  refine (C2.out _).mono ?_
  rintro e w3 ⟨rfl, hb3⟩
  have HB3 := Lib.hid (HB2.out.trans (hb3.mono HB2.out.size))
  clear hb3
  go_wp2_with fail
  refine (C3.out _ (HTB.out _ (Hid.out (by assumption)))).mono ?_
  rintro e w4 ⟨rfl, hb4⟩
  have HB4 := Lib.hid (HB3.out.trans (hb4.mono HB3.out.size))
  clear hb4
  go_wp2_with fail
  rw [HSM.out]
  go_ret
  exact ⟨rfl, HB4.out⟩
end Go.Proofs.YtdjmfkodjjjhfaaGreatDoor
/- Ustar's code: lay. No conditions. -/
namespace Go.Proofs.YtdjmfkodjjjhfaaGreatDoor
open Go.RowKit

abbrev LaidP := List UInt8 × Nat
def noL : LaidP := ([], 0)
/-- Fields that are read: two cells each. -/
def LIn16 (w : World) (A : Option Addr) (n : Nat) (L : List LaidP) : Prop := L.length = n ∧ (0 < n → ∃ b off, A = some ⟨b, off, none⟩ ∧ ∀ i, i < n → w.cell? ⟨b, off + i * 2, none⟩ = some (.string (strF (L.getD i noL).1)) ∧ w.cell? ⟨b, off + i * 2 + 1, none⟩ = some (.int .i64 (L.getD i noL).2))
theorem LIn16.below {w w' : World} {A : Option Addr} {n : Nat} {L : List LaidP} (h : LIn16 w A n L) (hb : Below w.heap.size w w') : LIn16 w' A n L := by
  refine ⟨h.1, fun hn => ?_⟩
  obtain ⟨b, off, rfl, hc⟩ := h.2 hn
  exact ⟨b, off, rfl, fun i hi => ⟨(hb.cell (p := ⟨b, _, none⟩) (World.block_lt_of_cell? w _ (hc i hi).1)).trans (hc i hi).1, (hb.cell (p := ⟨b, _, none⟩) (World.block_lt_of_cell? w _ (hc i hi).2)).trans (hc i hi).2⟩⟩
/-- What lay answers. -/
def layS (L : List LaidP) : List UInt8 := L.flatMap (·.1)
def layOk (L : List LaidP) : Prop := ∀ p ∈ L, p.2 = 0
instance (L : List LaidP) : Decidable (layOk L) := by unfold layOk; infer_instance
def layA (L : List LaidP) : List UInt8 × Bool := if layOk L then (layS L, true) else ([], false)
set_option maxRecDepth 100000 in
theorem layS_next (L : List LaidP) (q : Nat) (hq : q < L.length) : strF (layS (L.take q)) ++ strF (L.getD q noL).1 = strF (layS (L.take (q + 1))) := by
  rw [strF_app, List.take_succ_eq_append_getElem hq, List.getD_eq_getElem?_getD, List.getElem?_eq_getElem hq]
  unfold layS
  rw [List.flatMap_append]
  simp
theorem layS_le (L : List LaidP) (q : Nat) : (layS (L.take q)).length ≤ (layS L).length := by
  have h := congrArg (fun l => (layS l).length) (List.take_append_drop q L)
  unfold layS at *
  rw [List.flatMap_append, List.length_append] at h
  omega

set_option maxHeartbeats 3200000 in
set_option maxRecDepth 100000 in
theorem clay_any (w : World) (A : Option Addr) (n c : Nat) (L : List LaidP) (hI : LIn16 w A n L) (hn : n ≤ 1000) (hz : (layS L).length ≤ 100000) :
    Calls Tryz.prog 85 #[.slice A n c] w fun e w' => e = .returned (.tuple #[.string (strF (layA L).1), .bool (layA L).2]) ∧ Below w.heap.size w w' := by
  have HI := Lib.hid hI
  have hlen := hI.1
  have HP : Hid (∀ (l : List UInt8) (b : Bool) (w' : World), layA L = (l, b) → Below w.heap.size w w' → (fun e w' => e = Ending.returned (.tuple #[.string (strF (layA L).1), .bool (layA L).2]) ∧ Below w.heap.size w w') (.returned (.tuple #[.string (strF l), .bool b])) w') := Lib.hid fun l b w' h hb => ⟨by rw [h], hb⟩
  generalize (fun e w' => e = Ending.returned (.tuple #[.string (strF (layA L).1), .bool (layA L).2]) ∧ Below w.heap.size w w') = PO at *
  have HZ : Hid (∀ q, (strF (layS (L.take q))).size ≤ 100000) := Lib.hid fun q => by
    have := layS_le L q
    show (layS (L.take q)).length ≤ _
    omega
  have HNX := Lib.hid (layS_next L)
  have HLEN := Lib.hid hlen
  have H0 : Hid (strF (layS (L.take 0)) = ⟨#[]⟩) := Lib.hid rfl
  have HYES : Hid (layOk (L.take n) → layA L = (layS (L.take n), true)) := Lib.hid (by
    rw [← hlen, List.take_length]
    intro h
    unfold layA
    rw [if_pos h])
  clear hI hlen hz
  go_enter Tryz.func85, Tryz.ntmps85
  go_wp2_with fail
  go_loopw [4, 9] (fun ss si wx => ∃ q : Nat, ss = .string (strF (layS (L.take q))) ∧ si = .int .i64 q ∧ q ≤ n ∧ Hid (layOk (L.take q)) ∧ Below w.heap.size w wx) (fun _ si _ => n - (intOf si).toNat)
  case atStart => exact ⟨0, by rw [H0.out], rfl, Nat.zero_le _, Lib.hid (fun p hp => by simp at hp), Below.refl _ _⟩
  case round =>
    obtain ⟨q, rfl, rfl, hqn, hok, hbx⟩ := hrel
    have HBX := Lib.hid hbx
    by_cases e : q < n
    · have d2 : decide ((q : Int) < (n : Int)) = true := decide_eq_true (by omega)
      obtain ⟨b, off, hA, hc⟩ := (HI.out.below hbx).2 (by omega)
      obtain ⟨c1, c2⟩ := hc q e
      have HN := Lib.hid (HNX.out q (by rw [HLEN.out]; exact e))
      have HG : Hid ((L.getD q noL) ∈ L) := Lib.hid (by
        have hq : q < L.length := by rw [HLEN.out]; exact e
        rw [List.getD_eq_getElem?_getD, List.getElem?_eq_getElem hq]
        exact List.getElem_mem hq)
      have HT : Hid (L.take (q + 1) = L.take q ++ [L.getD q noL]) := Lib.hid (by
        have hq : q < L.length := by rw [HLEN.out]; exact e
        rw [List.take_succ_eq_append_getElem hq, List.getD_eq_getElem?_getD, List.getElem?_eq_getElem hq]
        rfl)
      have hz1 := HZ.out (q + 1)
      rw [← HN.out, ByteArray.size_append] at hz1
      have HBN : Hid (∀ x : Obj, Below w.heap.size w (wr.alloc x)) := Lib.hid fun x => hbx.alloc hbx.size _
      generalize hP : L.getD q noL = P at *
      have HP9 := Lib.hid hP
      obtain ⟨T, E⟩ := P
      dsimp only at c1 c2
      subst hA
      generalize hG : strF (layS (L.take q)) = G at *
      generalize hU : strF T = U at *
      have HU := Lib.hid hU
      have hz2 : G.size ≤ 100000 := by omega
      have hz3 : U.size ≤ 100000 := by omega
      clear hc hP hbx hG hU hz1
      by_cases ek : E = 0
      · subst ek
        have HOK : Hid (layOk (L.take (q + 1))) := Lib.hid (by
          rw [HT.out]
          intro p hp
          rcases List.mem_append.1 hp with h | h
          · exact hok.out p h
          · rw [List.mem_singleton.1 h])
        have hg2 : G ++ U = strF (layS (L.take (q + 1))) := HN.out
        have HG2 := Lib.hid hg2
        clear hg2
        go_wp2_with fail
        go_roundw
        case rel => exact ⟨q + 1, by rw [HG2.out], by go_num, by omega, HOK, HBN.out _⟩
        case measure => simp [intOf]; omega
      · have d3 : ((E : Int) != 0) = true := bne_iff_ne.2 (by omega)
        have HF : Hid (∀ w', Below w.heap.size w w' → PO (.returned (.tuple #[.string (strF []), .bool false])) w') := Lib.hid fun w' h => HP.out [] false w' (by
          unfold layA
          rw [if_neg fun h => ek (h _ HG.out)]) h
        clear ek
        go_wp2_with fail
        exact HF.out _ (HBN.out _)
    · obtain rfl : q = n := by omega
      have d2 : decide ((q : Int) < (q : Int)) = false := decide_eq_false (by omega)
      have HF := Lib.hid (HP.out _ true wr (HYES.out hok.out) hbx)
      clear hbx
      go_wp2_with fail
      exact HF.out
end Go.Proofs.YtdjmfkodjjjhfaaGreatDoor
/- Ustar: plain: the fields as the landed code lays them are the document's header. -/
namespace Go.Proofs.YtdjmfkodjjjhfaaGreatDoor
open Go.RowKit

def aheadP (h : HeadP) (name : List UInt8) : List LaidP := [textA name 100, octalA h.mode 8, octalA h.uid 8, octalA h.gid 8, octalA h.size 12, octalA h.time 12]
def behindP (h : HeadP) (pre : List UInt8) : List LaidP := [kindA h.kind, textA h.link.data.toList 100, (ustarL, 0), ownA h.user.data.toList, ownA h.group.data.toList, octalA 0 8, octalA 0 8, textA pre 155, textA [] 12]
theorem textA_le (s : List UInt8) (n : Nat) : (textA s n).1.length ≤ n := by
  unfold textA
  split
  · exact Nat.zero_le _
  · split
    · exact Nat.zero_le _
    · next h => rw [List.length_append, List.length_replicate]; omega
theorem octalA_le (x : Int) (n : Nat) : (octalA x n).1.length ≤ n := by
  unfold octalA
  split
  · exact Nat.zero_le _
  · split
    · exact Nat.zero_le _
    · rw [List.length_append, octL_length, List.length_singleton]; omega
theorem ownA_le (s : List UInt8) : (ownA s).1.length ≤ 32 := by
  have := textA_le s 31
  unfold ownA
  rw [List.length_append, List.length_singleton]
  exact Nat.succ_le_succ this
theorem kindA_le (k : Nat) : (kindA k).1.length ≤ 1 := by
  unfold kindA
  split
  · exact Nat.le_refl _
  · exact Nat.zero_le _
set_option maxRecDepth 100000 in
theorem aheadP_le (h : HeadP) (name : List UInt8) : (layS (aheadP h name)).length ≤ 1000 := by
  have h0 := textA_le name 100
  have h1 := octalA_le h.mode 8
  have h2 := octalA_le h.uid 8
  have h3 := octalA_le h.gid 8
  have h4 := octalA_le h.size 12
  have h5 := octalA_le h.time 12
  unfold layS aheadP
  simp only [List.flatMap_cons, List.flatMap_nil, List.length_append, List.length_nil]
  simp only [Int.cast_ofNat_Int] at *
  omega
set_option maxRecDepth 100000 in
theorem behindP_le (h : HeadP) (pre : List UInt8) : (layS (behindP h pre)).length ≤ 1000 := by
  have h0 := kindA_le h.kind
  have h1 := textA_le h.link.data.toList 100
  have h2 := ownA_le h.user.data.toList
  have h3 := ownA_le h.group.data.toList
  have h4 := octalA_le 0 8
  have h5 := textA_le pre 155
  have h6 := textA_le [] 12
  have h7 : ustarL.length = 8 := rfl
  unfold layS behindP
  simp only [List.flatMap_cons, List.flatMap_nil, List.length_append, List.length_nil]
  simp only [Int.cast_ofNat_Int] at *
  omega
set_option maxRecDepth 100000 in
theorem textA_ok (s : List UInt8) (n : Nat) (hn : n ≤ 512) : (textA s n).2 = 0 ↔ s.length ≤ n ∧ cutZ s = s := by
  unfold textA
  rw [if_neg (by omega)]
  split
  · next h =>
    constructor
    · intro h2; cases h2
    · rintro ⟨h1, h2⟩
      rcases h with h | h
      · omega
      · exact absurd h2 h
  · next h =>
    refine ⟨fun _ => ⟨?_, ?_⟩, fun _ => rfl⟩
    · by_cases e : s.length ≤ n
      · exact e
      · exact absurd (.inl (by omega)) h
    · by_cases e : cutZ s = s
      · exact e
      · exact absurd (.inr e) h
theorem octalA_ok (x : Int) (n : Nat) (h1 : 2 ≤ n) (h2 : n ≤ 20) : (octalA x n).2 = 0 ↔ 0 ≤ x ∧ x < 8 ^ (n - 1) := by
  unfold octalA
  rw [if_neg (by omega), Int.toNat_natCast]
  have hp : (0 : Int) < 8 ^ (n - 1) := Int.pow_pos (by decide)
  have hz : x / 8 ^ (n - 1) = 0 ↔ 0 ≤ x ∧ x < 8 ^ (n - 1) := by
    constructor
    · intro h
      have h3 := Int.emod_nonneg x (Int.ne_of_gt hp)
      have h4 := Int.emod_lt_of_pos x hp
      have h5 := Int.mul_ediv_add_emod x (8 ^ (n - 1))
      rw [h, Int.mul_zero, Int.zero_add] at h5
      rw [h5] at h3 h4
      exact ⟨h3, h4⟩
    · exact fun h => Int.ediv_eq_zero_of_lt h.1 h.2
  split
  · next h =>
    constructor
    · intro h3; cases h3
    · exact fun h3 => absurd (hz.2 h3) h
  · next h => exact ⟨fun _ => hz.1 (Classical.not_not.1 h), fun _ => rfl⟩
theorem kindA_ok (k : Nat) : (kindA k).2 = 0 ↔ (k = 48 ∨ k = 53 ∨ k = 120 ∨ k = 103) := by
  unfold kindA
  split
  · next h => exact ⟨fun _ => h, fun _ => rfl⟩
  · next h =>
    constructor
    · intro h2; cases h2
    · exact fun h2 => absurd h2 h
theorem own_tW (s : List UInt8) (h : (ownA s).2 = 0) : (ownA s).1 = tW s 32 := by
  obtain ⟨h1, h2⟩ := (textA_ok s 31 (by omega)).1 h
  have e1 := (tW_len h1 (by omega) h2).1
  have e2 := (tW_len (show s.length ≤ 32 by omega) (by omega) h2).1
  rw [e2]
  show tW s 31 ++ [0] = _
  rw [e1, List.append_assoc]
  congr 1
  rw [show 32 - s.length = (31 - s.length) + 1 by omega, List.replicate_succ']
set_option maxRecDepth 100000 in
theorem path_ok (p a b : List UInt8) (hs : splitL p = (a, b, true)) : (cutZ p = p ↔ cutZ a = a ∧ cutZ b = b) ∧ p.length ≤ 256 := by
  obtain ⟨h1, h2, h3, h4, h5⟩ := split_back p a b hs
  constructor
  · rw [cutZ_iff, cutZ_iff, cutZ_iff]
    constructor
    · exact fun h => ⟨fun hh => h (h4 _ hh), fun hh => h (h5 _ hh)⟩
    · rintro ⟨ha, hb⟩ hh
      rw [← h1] at hh
      unfold joinP at hh
      split at hh
      · exact hb hh
      · rcases List.mem_append.1 hh with hh | hh
        · exact ha hh
        · rcases List.mem_cons.1 hh with hh | hh
          · exact absurd hh (by decide)
          · exact hb hh
  · rw [← h1]
    unfold joinP
    split
    · omega
    · rw [List.length_append, List.length_cons]
      omega
set_option maxRecDepth 100000 in
theorem enc_ok (h : HeadP) (a b : List UInt8) (hs : splitL h.path.data.toList = (a, b, true)) : (layOk (aheadP h b) ∧ layOk (behindP h a)) ↔ mayA h := by
  obtain ⟨hp, hl⟩ := path_ok _ _ _ hs
  obtain ⟨_, h2, h3, _, _⟩ := split_back _ _ _ hs
  have hz : h.path.size = h.path.data.toList.length := rfl
  have z1 : h.link.size = h.link.data.toList.length := rfl
  have z2 : h.user.size = h.user.data.toList.length := rfl
  have z3 : h.group.size = h.group.data.toList.length := rfl
  have t0 := textA_ok b 100 (by omega)
  have t1 := octalA_ok h.mode 8 (by omega) (by omega)
  have t2 := octalA_ok h.uid 8 (by omega) (by omega)
  have t3 := octalA_ok h.gid 8 (by omega) (by omega)
  have t4 := octalA_ok h.size 12 (by omega) (by omega)
  have t5 := octalA_ok h.time 12 (by omega) (by omega)
  have k0 := kindA_ok h.kind
  have k1 := textA_ok h.link.data.toList 100 (by omega)
  have k2 : (ownA h.user.data.toList).2 = 0 ↔ _ := textA_ok h.user.data.toList 31 (by omega)
  have k3 : (ownA h.group.data.toList).2 = 0 ↔ _ := textA_ok h.group.data.toList 31 (by omega)
  have k4 : (octalA 0 8).2 = 0 := by decide
  have k5 := textA_ok a 155 (by omega)
  have k6 : (textA [] 12).2 = 0 := by decide
  have p7 : (8 : Int) ^ (8 - 1) = 2097152 := by decide
  have p11 : (8 : Int) ^ (12 - 1) = 8589934592 := by decide
  rw [p7] at t1 t2 t3
  rw [p11] at t4 t5
  simp only [Int.cast_ofNat_Int] at t0 t1 t2 t3 t4 t5 k1 k2 k3 k5
  unfold layOk aheadP behindP mayA textOk smallOk greatOk
  simp only [List.forall_mem_cons, List.not_mem_nil, false_implies, implies_true, and_true]
  rw [t0, t1, t2, t3, t4, t5, k0, k1, k2, k3, k4, k5, k6, hp, hz, z1, z2, z3]
  constructor
  · rintro ⟨⟨a0, a1, a2, a3, a4, a5⟩, b0, b1, b2, b3, b4, b5, b6, b7, b8⟩
    exact ⟨b0, ⟨by omega, b7.2, a0.2⟩, b1, b3, b4, by omega, by omega, by omega, by omega, by omega⟩
  · rintro ⟨b0, ⟨_, c1, c2⟩, b1, b3, b4, a1, a2, a3, a4, a5⟩
    exact ⟨⟨⟨h3, c2⟩, by omega, by omega, by omega, by omega, by omega⟩, b0, b1, by trivial, b3, b4, by trivial, by trivial, ⟨h2, c1⟩, by trivial⟩
set_option maxRecDepth 100000 in
theorem enc_parts (h : HeadP) (a b : List UInt8) (ho : layOk (behindP h a)) : layS (aheadP h b) = aheadL h b ∧ layS (behindP h a) = behindL h a := by
  have hu := ho (ownA h.user.data.toList) (by simp [behindP])
  have hg := ho (ownA h.group.data.toList) (by simp [behindP])
  have hk := ho (kindA h.kind) (by simp [behindP])
  have e1 := own_tW _ hu
  have e2 := own_tW _ hg
  have e3 : (kindA h.kind).1 = [UInt8.ofNat h.kind] := by
    unfold kindA
    rw [if_pos ((kindA_ok _).1 hk)]
  constructor
  · unfold layS aheadP aheadL
    simp only [List.flatMap_cons, List.flatMap_nil, List.append_nil]
    rfl
  · unfold layS behindP behindL
    simp only [List.flatMap_cons, List.flatMap_nil, List.append_nil]
    rw [e1, e2, e3]
    rfl
set_option maxRecDepth 100000 in
theorem enc_whole (h : HeadP) (a b : List UInt8) : strF (aheadL h b) ++ strF (sumT (aheadL h b) (behindL h a)) ++ strF (behindL h a) = strF (headL h a b) := by
  rw [strF_app, strF_app]
  unfold headL sumT rawL
  simp only [List.append_assoc, List.cons_append, List.nil_append]
end Go.Proofs.YtdjmfkodjjjhfaaGreatDoor
