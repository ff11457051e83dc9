/- fields.passer and the closure that it makes; strings.IndexByte. Conditions: texts of at most 2^47 bytes. -/
import Derived.Test.YtccfjabmmecbkaaDoorFda
import Derived.Lib.Bytealg
namespace Go.Proofs.YtccfjabmmecbkaaDoor
open Go.RowKit

theorem ibyte_neg (l : List UInt8) (b : UInt8) : b ∉ l → Lib.indexByte l b = -1 := by
  induction l with
  | nil => intro _; rfl
  | cons x l ih =>
    intro h
    unfold Lib.indexByte
    rw [ih (fun q => h (List.mem_cons_of_mem _ q)), show (x == b) = false from beq_false_of_ne fun q => h (q ▸ List.mem_cons_self)]
    rfl
set_option maxRecDepth 100000 in
theorem ibyte_pos (l : List UInt8) (b : UInt8) : b ∈ l → 0 ≤ Lib.indexByte l b := by
  induction l with
  | nil => intro h; cases h
  | cons x l ih =>
    intro h
    unfold Lib.indexByte
    by_cases e : x = b
    · rw [show (x == b) = true from beq_iff_eq.2 e]
      exact Int.le_refl 0
    · rw [show (x == b) = false from beq_false_of_ne e]
      have h2 := ih (by rcases List.mem_cons.1 h with q | q; exact absurd q.symm e; exact q)
      have h3 : (Lib.indexByte l b == -1) = false := beq_false_of_ne (by omega)
      simp only [h3, Bool.false_eq_true, if_false]
      omega
set_option maxRecDepth 100000 in
theorem sidx_any (w : World) (s : ByteArray) (c : UInt8) : Calls Tryd.prog 34 #[.string s, .int .u8 c.toNat] w fun e w' => e = .returned (.int .i64 (Lib.indexByte s.data.toList c)) ∧ w' = w := by
  have hrun := Lib.run_indexByteString (P := Tryd.prog) s (c.toNat : Int) w
  rw [show ((c.toNat : Int).toNat.toUInt8) = c from by rw [Int.toNat_natCast]; exact UInt8.ofNat_toNat] at hrun
  have HR := Lib.hid hrun
  clear hrun
  have HI : Hid (∀ wx, wx = w → Calls Tryd.prog 36 #[.string s, .int .u8 c.toNat] wx fun e w' => e = .returned (.int .i64 (Lib.indexByte s.data.toList c)) ∧ w' = w) := Lib.hid fun wx hwx => by
    subst hwx
    generalize Lib.indexByte s.data.toList c = y at *
    generalize c.toNat = n at *
    go_enter Tryd.func36, Tryd.ntmps36
    go_wp2_with fail
    rw [run_callFunc_extern Tryd.func41 (by kernel_rfl) (by kernel_rfl) (by kernel_rfl) (e := Extern.BytealgIndexByte.indexByte) (by kernel_rfl), HR.out]
    simp only [Result.andThen]
    rw [Oper.upon_value]
    go_wp2_with fail
    go_ret
    exact ⟨rfl, rfl⟩
  clear HR
  generalize Lib.indexByte s.data.toList c = y at *
  generalize c.toNat = n at *
  go_enter Tryd.func34, Tryd.ntmps34
  go_wp2_with fail
  refine (HI.out w rfl).mono ?_
  rintro e w ⟨rfl, rfl⟩
  go_wp2_with fail
  go_ret
  exact ⟨rfl, rfl⟩

/-- How many bytes at the beginning are of a set. -/
def headN (set s : List UInt8) : Nat := (s.takeWhile (· ∈ set)).length
theorem headN_le (set s : List UInt8) : headN set s ≤ s.length := by
  have := congrArg List.length (List.takeWhile_append_dropWhile (p := (· ∈ set)) (l := s))
  rw [List.length_append] at this
  unfold headN
  omega
set_option maxRecDepth 100000 in
theorem headN_in : ∀ (set s : List UInt8) (j : Nat), j < headN set s → s.getD j 0 ∈ set
  | set, [], j, h => by cases h
  | set, c :: s, j, h => by
    unfold headN at h
    rw [List.takeWhile_cons] at h
    by_cases e : c ∈ set
    · rw [if_pos (by simpa using e)] at h
      cases j with
      | zero => exact e
      | succ j => exact headN_in set s j (by unfold headN; simpa using h)
    · rw [if_neg (by simpa using e)] at h
      cases h
set_option maxRecDepth 100000 in
theorem headN_out : ∀ (set s : List UInt8), headN set s < s.length → s.getD (headN set s) 0 ∉ set
  | set, [], h => by cases h
  | set, c :: s, h => by
    unfold headN at h ⊢
    rw [List.takeWhile_cons] at h ⊢
    by_cases e : c ∈ set
    · rw [if_pos (by simpa using e)] at h ⊢
      exact headN_out set s (by unfold headN; simpa using h)
    · rw [if_neg (by simpa using e)]
      exact e
theorem headN_take (set s : List UInt8) : s.take (headN set s) = s.takeWhile (· ∈ set) := by
  have h := List.takeWhile_append_dropWhile (p := (· ∈ set)) (l := s)
  unfold headN
  conv => lhs; arg 2; rw [← h]
  exact List.take_left
theorem headN_drop (set s : List UInt8) : s.drop (headN set s) = s.dropWhile (· ∈ set) := by
  have h := List.takeWhile_append_dropWhile (p := (· ∈ set)) (l := s)
  unfold headN
  conv => lhs; arg 2; rw [← h]
  exact List.drop_left
theorem ext_takeW (set : List UInt8) (s : ByteArray) : s.extract 0 (headN set s.data.toList) = strF (s.data.toList.takeWhile (· ∈ set)) := by
  rw [fext_take, headN_take]
theorem ext_dropW (set : List UInt8) (s : ByteArray) : s.extract (headN set s.data.toList) s.size = strF (s.data.toList.dropWhile (· ∈ set)) := by
  have h := fext_drop s.data.toList (headN set s.data.toList)
  rw [strF_self, headN_drop] at h
  exact h

abbrev passV (g : Nat) : Value := .func (.func 33) #[] #[.pointer (some ⟨g, 0, none⟩)]
/-- A passer's variable: what is left is s. -/
def Pass (w : World) (g : Nat) (s : ByteArray) : Prop := Blk w g 9 #[.string s] ∧ s.size ≤ 140737488355328

set_option maxHeartbeats 1600000 in
set_option maxRecDepth 100000 in
theorem pass_walk (w : World) (g : Nat) (set s : ByteArray) (k : Nat) (h : Pass w g s) (hk : k ≤ s.size) (hin : ∀ j, j < k → s.data.toList.getD j 0 ∈ set.data.toList) (hout : k < s.size → s.data.toList.getD k 0 ∉ set.data.toList) :
    Calls Tryd.prog 33 #[.string set, .pointer (some ⟨g, 0, none⟩)] w fun e w' => e = .returned (.tuple #[.string (s.extract 0 k), .string (s.extract k s.size)]) ∧ Pass w' g (s.extract k s.size) ∧ Step g [g] [] w w' := by
  obtain ⟨hr, hl⟩ := h
  have c0 : w.cell? ⟨g, 0, none⟩ = some (.string s) := blk_cell hr 0
  have f0 : w.frozen? ⟨g, 0, none⟩ = false := blk_frozen hr 0
  have HI := Lib.hid fun (c : UInt8) => sidx_any w set c
  have HIN := Lib.hid hin
  have HOUT := Lib.hid hout
  have hps : (s.extract 0 k).size = k := by rw [ByteArray.size_extract]; omega
  have hds : (s.extract k s.size).size ≤ 140737488355328 := by rw [ByteArray.size_extract]; omega
  have hall : k = s.size → s.extract 0 k = s := fun h => by subst h; exact ByteArray.extract_zero_size
  have hemp : k = s.size → s.extract k s.size = ByteArray.empty := fun h => by
    apply ByteArray.ext
    apply Array.toList_inj.1
    rw [fext_list, List.drop_eq_nil_of_le (by rw [List.length_take]; show min s.size s.data.size ≤ k; omega)]
    rfl
  generalize hP : s.extract 0 k = P at *
  generalize hD : s.extract k s.size = D at *
  have c9 : (w.setCell ⟨g, 0, none⟩ (.string D)).cell? ⟨g, 0, none⟩ = some (.string D) := blk_cell (blk_set hr 0 (.string D)) 0
  have HPS : Hid (Pass (w.setCell ⟨g, 0, none⟩ (.string D)) g D ∧ Step g [g] [] w (w.setCell ⟨g, 0, none⟩ (.string D))) := Lib.hid ⟨⟨blk_set hr 0 (.string D), hds⟩, (Step.refl g [g] [] w).set (p := ⟨g, 0, none⟩) (Nat.le_refl _) (by simp) _⟩
  have HP := Lib.hid hP
  have HD := Lib.hid hD
  have hpz : (P.size : Int) = k := by omega
  have hpk : (k : Int) ≤ s.size := by omega
  have HALL := Lib.hid hall
  have HEMP := Lib.hid hemp
  clear hr hin hout hds hP hD hall hemp
  go_enter Tryd.func33, Tryd.ntmps33
  go_wp2_with fail
  go_loopw [5, 10] (fun sp si wx => ∃ q : Nat, sp = .string s ∧ si = .int .i64 q ∧ q ≤ k ∧ wx = w) (fun _ si _ => k - (intOf si).toNat)
  case atStart => exact ⟨0, rfl, rfl, Nat.zero_le _, rfl⟩
  case round =>
    obtain ⟨q, rfl, rfl, hq, rfl⟩ := hrel
    by_cases e : q < k
    · have d0 : decide ((q : Int) < (s.size : Int)) = true := decide_eq_true (by omega)
      have hqz : (q : Int) < s.size := by omega
      have hmem := HIN.out q e
      rw [fbyte s q (by omega)] at hmem
      have hpos := ibyte_pos _ _ hmem
      have hidx := (HI.out s[q])
      generalize Lib.indexByte set.data.toList s[q] = y at *
      have d1 : decide (y < 0) = false := decide_eq_false (by omega)
      have HX := Lib.hid hidx
      clear hmem hpos hidx HI
      go_wp2_with fail
      refine HX.out.mono ?_
      rintro e wr ⟨rfl, rfl⟩
      go_wp2_with fail
      go_roundw
      case rel => exact ⟨q + 1, by first | rfl | trivial, by go_num, by omega, by first | rfl | trivial⟩
      case measure => simp [intOf]; omega
    · obtain rfl : q = k := by omega
      by_cases e2 : q < s.size
      · have d0 : decide ((q : Int) < (s.size : Int)) = true := decide_eq_true (by omega)
        have hqz : (q : Int) < s.size := by omega
        have hmem := HOUT.out e2
        rw [fbyte s q (by omega)] at hmem
        have hneg := ibyte_neg _ _ hmem
        have hidx := (HI.out s[q])
        rw [hneg] at hidx
        have d1 : decide ((-1 : Int) < 0) = true := rfl
        have HX := Lib.hid hidx
        clear hmem hneg hidx HI
        go_wp2_with fail
        refine HX.out.mono ?_
        rintro e wr ⟨rfl, rfl⟩
        go_wp2_with fail
        rw [HP.out, HD.out]
        go_region
        go_wp2_with fail
        go_ret2
        exact ⟨rfl, HPS.out.1, HPS.out.2.drew⟩
      · have hqs : q = s.size := by omega
        have d0 : decide ((q : Int) < (s.size : Int)) = false := decide_eq_false (by omega)
        have HP2 := Lib.hid (HALL.out hqs)
        have HD2 := Lib.hid (HEMP.out hqs)
        clear hqs
        go_wp2_with fail
        rw [← HD2.out]
        go_region
        go_wp2_with fail
        go_ret2
        exact ⟨by rw [HP2.out]; rfl, HPS.out.1, HPS.out.2.drew⟩
theorem pass_any (w : World) (g : Nat) (set s : ByteArray) (h : Pass w g s) : Calls Tryd.prog 33 #[.string set, .pointer (some ⟨g, 0, none⟩)] w fun e w' =>
    e = .returned (.tuple #[.string (strF (s.data.toList.takeWhile (· ∈ set.data.toList))), .string (strF (s.data.toList.dropWhile (· ∈ set.data.toList)))]) ∧ Pass w' g (strF (s.data.toList.dropWhile (· ∈ set.data.toList))) ∧ Step g [g] [] w w' := by
  have h2 := pass_walk w g set s (headN set.data.toList s.data.toList) h (headN_le _ _) (fun j hj => headN_in _ _ j hj) (fun hj => headN_out _ _ hj)
  rw [ext_takeW, ext_dropW] at h2
  exact h2

set_option maxRecDepth 100000 in
theorem passer_any (w : World) (s : ByteArray) (hs : s.size ≤ 140737488355328) : Calls Tryd.prog 28 #[.string s] w fun e w' => e = .returned (passV w.heap.size) ∧ Pass w' w.heap.size s ∧ w'.heap.size = w.heap.size + 1 ∧ Below w.heap.size w w' := by
  have HST : Hid (Pass (w.alloc (.cells #[.string s] 9)) w.heap.size s) := Lib.hid ⟨blk_new w 9 #[.string s], hs⟩
  have HB : Hid (Below w.heap.size w (w.alloc (.cells #[.string s] 9))) := Lib.hid ((Below.refl _ w).alloc (Nat.le_refl _) _)
  go_enter Tryd.func28, Tryd.ntmps28
  go_wp2_with fail
  go_ret
  exact ⟨rfl, HST.out, by simp, HB.out⟩
end Go.Proofs.YtccfjabmmecbkaaDoor
