/- What paths asks of strings: Cut at a slash, Count of slashes, Compare, CutPrefix, HasPrefix. Conditions: texts of at most 2^47 bytes where it cuts. -/
import Derived.Test.YtdjmfkodjjjhfaaGreatDoorPt
import Derived.Lib.Bytealg
import Derived.WalkMore
import Derived.Test.YtdjmfkodjjjhfaaGreatDoorTpd
namespace Go.Proofs.YtdjmfkodjjjhfaaGreatDoor
open Go.RowKit

set_option maxRecDepth 100000 in
theorem slash_idx (l : List UInt8) (b : UInt8) : Lib.indexByte l b = if b ∈ l then ((l.idxOf b : Nat) : Int) else -1 := by
  induction l with
  | nil => simp [Lib.indexByte]
  | cons x l ih =>
    unfold Lib.indexByte
    rw [List.idxOf_cons]
    by_cases e : x = b
    · subst e
      simp
    · have e1 : (x == b) = false := by simpa using e
      have e2 : ¬ b = x := fun h => e h.symm
      rw [e1, ih]
      simp only [Bool.false_eq_true, if_false, cond_false, List.mem_cons, e2, false_or]
      by_cases hm : b ∈ l
      · rw [if_pos hm, if_pos hm]
        have : (((l.idxOf b : Nat) : Int) == -1) = false := by
          rw [beq_eq_false_iff_ne]
          omega
        rw [this]
        simp
      · rw [if_neg hm, if_neg hm]
        simp
/-- What Cut answers at a slash. -/
def cutL (s : List UInt8) : List UInt8 × List UInt8 × Bool := if (47 : UInt8) ∈ s then (s.take (s.idxOf 47), s.drop (s.idxOf 47 + 1), true) else (s, [], false)

set_option maxRecDepth 100000 in
theorem idxs_any (w : World) (s : ByteArray) : Calls Tryz.prog 147 #[.string s, .int .u8 47] w fun e w' => e = .returned (.int .i64 (if (47 : UInt8) ∈ s.data.toList then ((s.data.toList.idxOf 47 : Nat) : Int) else -1)) ∧ w' = w := by
  have hrun := Lib.run_indexByteString (P := Tryz.prog) s 47 w
  rw [show ((47 : Int).toNat.toUInt8) = (47 : UInt8) from rfl, slash_idx] at hrun
  have HR := Lib.hid hrun
  clear hrun
  generalize (if (47 : UInt8) ∈ s.data.toList then ((s.data.toList.idxOf 47 : Nat) : Int) else -1) = y at *
  go_enter Tryz.func147, Tryz.ntmps147
  go_wp2_with fail
  rw [run_callFunc_extern Tryz.func163 (by kernel_rfl) (by kernel_rfl) (by kernel_rfl) (e := Extern.BytealgIndexByte.indexByte) (by kernel_rfl), HR.out]
  simp only [Result.andThen]
  rw [Oper.upon_value]
  go_wp2_with fail
  go_ret
  exact ⟨rfl, rfl⟩

set_option maxHeartbeats 1600000 in
set_option maxRecDepth 100000 in
theorem index_any (w : World) (s : ByteArray) : Calls Tryz.prog 145 #[.string s, .string ⟨#[47]⟩] w fun e w' => e = .returned (.int .i64 (if (47 : UInt8) ∈ s.data.toList then ((s.data.toList.idxOf 47 : Nat) : Int) else -1)) ∧ w' = w := by
  have HI := Lib.hid (idxs_any w s)
  by_cases e : s = ⟨#[47]⟩
  · subst e
    have d0 : (((⟨#[47]⟩ : ByteArray).toList) == ((⟨#[47]⟩ : ByteArray).toList)) = true := beq_self_eq_true _
    have d1 : ([47] == ((⟨#[47]⟩ : ByteArray).toList)) = true := by rw [ByteArray.toList_eq]; rfl
    rw [show (if (47 : UInt8) ∈ (⟨#[47]⟩ : ByteArray).data.toList then (((⟨#[47]⟩ : ByteArray).data.toList.idxOf 47 : Nat) : Int) else -1) = 0 from by decide]
    go_enter Tryz.func145, Tryz.ntmps145
    go_wp2_with fail
    go_ret
    exact ⟨rfl, rfl⟩
  have d1 : ([47] == s.toList) = false := by
    rw [ByteArray.toList_eq]
    refine beq_false_of_ne fun h => e ?_
    apply ByteArray.ext
    apply Array.toList_inj.1
    exact h.symm
  clear e
  generalize (if (47 : UInt8) ∈ s.data.toList then ((s.data.toList.idxOf 47 : Nat) : Int) else -1) = y at *
  go_enter Tryz.func145, Tryz.ntmps145
  go_wp2_with fail
  refine HI.out.mono ?_
  rintro e w ⟨rfl, rfl⟩
  go_wp2_with fail
  go_ret
  exact ⟨rfl, rfl⟩

theorem idx_lt {s : List UInt8} (h : (47 : UInt8) ∈ s) : s.idxOf 47 < s.length := List.idxOf_lt_length_of_mem h
theorem ext_front (s : ByteArray) (i : Nat) : s.extract 0 i = strP (s.data.toList.take i) := by
  apply ByteArray.ext
  apply Array.toList_inj.1
  rw [ext_list, List.drop_zero]
  rfl
theorem ext_back (s : ByteArray) (i : Nat) : s.extract i s.size = strP (s.data.toList.drop i) := by
  apply ByteArray.ext
  apply Array.toList_inj.1
  rw [ext_list, List.take_of_length_le (show s.data.toList.length ≤ s.size from Nat.le_refl _)]
  rfl

set_option maxHeartbeats 1600000 in
set_option maxRecDepth 100000 in
theorem lcut_any (w : World) (s : ByteArray) (hs : s.size ≤ 140737488355328) : Calls Tryz.prog 117 #[.string s, .string ⟨#[47]⟩] w fun e w' => e = .returned (.tuple #[.string (strP (cutL s.data.toList).1), .string (strP (cutL s.data.toList).2.1), .bool (cutL s.data.toList).2.2]) ∧ ∃ d, w' = w.drewN d := by
  have HI := Lib.hid (index_any w s)
  unfold cutL
  by_cases h : (47 : UInt8) ∈ s.data.toList
  · have hlt := idx_lt h
    rw [if_pos h] at HI ⊢
    rw [← ext_front, ← ext_back]
    obtain ⟨i, hi⟩ : ∃ i, i = s.data.toList.idxOf 47 := ⟨_, rfl⟩
    rw [← hi] at HI hlt ⊢
    have hlt2 : i < s.size := hlt
    have c1 : (0 : Int) ≤ (i : Int) := by omega
    have c2 : (i : Int) ≤ (s.size : Int) := by omega
    have c3 : (0 : Int) ≤ (i : Int) + 1 := by omega
    have c4 : (i : Int) + 1 ≤ (s.size : Int) := by omega
    clear hi hlt h
    go_enter Tryz.func117, Tryz.ntmps117
    go_wp2_with fail
    refine HI.out.mono ?_
    rintro e w ⟨rfl, rfl⟩
    go_wp2_with fail
    go_region
    go_wp2_with fail
    go_ret3
    exact ⟨rfl, 1, rfl⟩
  · rw [if_neg h] at HI ⊢
    rw [strP_self]
    clear h
    go_enter Tryz.func117, Tryz.ntmps117
    go_wp2_with fail
    refine HI.out.mono ?_
    rintro e w ⟨rfl, rfl⟩
    go_wp2_with fail
    go_ret3
    exact ⟨rfl, 0, rfl⟩

set_option maxRecDepth 100000 in
theorem cut_any (w : World) (s : ByteArray) (hs : s.size ≤ 140737488355328) : Calls Tryz.prog 83 #[.string s, .string ⟨#[47]⟩] w fun e w' => e = .returned (.tuple #[.string (strP (cutL s.data.toList).1), .string (strP (cutL s.data.toList).2.1), .bool (cutL s.data.toList).2.2]) ∧ ∃ d, w' = w.drewN d := by
  have HI := Lib.hid (lcut_any w s hs)
  go_enter Tryz.func83, Tryz.ntmps83
  go_wp2_with fail
  refine HI.out.mono ?_
  rintro e w' ⟨rfl, hd⟩
  have HD := Lib.hid hd
  clear hd
  go_wp2_with fail
  go_ret3
  exact ⟨rfl, HD.out⟩

set_option maxRecDepth 100000 in
theorem cmpstr_any (w : World) (a b : ByteArray) : Calls Tryz.prog 84 #[.string a, .string b] w fun e w' => e = .returned (.int .i64 (Lib.compareBytes a.data.toList b.data.toList)) ∧ w' = w := by
  have hrun := Lib.run_compareString (P := Tryz.prog) a b w
  have HR := Lib.hid hrun
  clear hrun
  generalize Lib.compareBytes a.data.toList b.data.toList = y at *
  go_enter Tryz.func84, Tryz.ntmps84
  go_wp2_with fail
  rw [run_callFunc_extern Tryz.func118 (by kernel_rfl) (by kernel_rfl) (by kernel_rfl) (e := Extern.BytealgCompare.compare) (by kernel_rfl), HR.out]
  simp only [Result.andThen]
  rw [Oper.upon_value]
  go_wp2_with fail
  go_ret
  exact ⟨rfl, rfl⟩

set_option maxRecDepth 100000 in
theorem strcmp_any (w : World) (a b : ByteArray) : Calls Tryz.prog 51 #[.string a, .string b] w fun e w' => e = .returned (.int .i64 (Lib.compareBytes a.data.toList b.data.toList)) ∧ w' = w := by
  have HI := Lib.hid (cmpstr_any w a b)
  generalize Lib.compareBytes a.data.toList b.data.toList = y at *
  go_enter Tryz.func51, Tryz.ntmps51
  go_wp2_with fail
  refine HI.out.mono ?_
  rintro e w ⟨rfl, rfl⟩
  go_wp2_with fail
  go_ret
  exact ⟨rfl, rfl⟩

/-- Does a text begin with another one? -/
def begL (s p : List UInt8) : Bool := decide (p.length ≤ s.length ∧ s.take p.length = p)

set_option maxRecDepth 100000 in
theorem lprefix_any (w : World) (s p : ByteArray) (_ : s.size ≤ 140737488355328) : Calls Tryz.prog 110 #[.string s, .string p] w fun e w' => e = .returned (.bool (begL s.data.toList p.data.toList)) ∧ w' = w := by
  unfold begL
  rw [show s.data.toList.length = s.size from rfl, show p.data.toList.length = p.size from rfl]
  by_cases h : p.size ≤ s.size
  · have d0 : decide ((p.size : Int) ≤ (s.size : Int)) = true := decide_eq_true (by omega)
    have hst := same_text (s.extract 0 p.size) p
    rw [ext_front, strP_list] at hst
    have HE := Lib.hid (ext_front s p.size)
    have d1 : ((strP (s.data.toList.take p.size)).toList == p.toList) = decide (p.size ≤ s.size ∧ s.data.toList.take p.size = p.data.toList) := by
      rw [hst]
      exact decide_eq_decide.2 ⟨fun q => ⟨h, q⟩, fun q => q.2⟩
    rw [← HE.out] at d1
    clear hst HE
    generalize decide (p.size ≤ s.size ∧ s.data.toList.take p.size = p.data.toList) = b at *
    have c1 : (p.size : Int) ≤ (s.size : Int) := by omega
    go_enter Tryz.func110, Tryz.ntmps110
    go_wp2_with fail
    go_ret
    exact ⟨by simp, rfl⟩
  · have d0 : decide ((p.size : Int) ≤ (s.size : Int)) = false := decide_eq_false (by omega)
    rw [decide_eq_false (fun q => h q.1)]
    go_enter Tryz.func110, Tryz.ntmps110
    go_wp2_with fail
    go_ret
    exact ⟨rfl, rfl⟩

set_option maxRecDepth 100000 in
theorem prefix_any (w : World) (s p : ByteArray) (hs : s.size ≤ 140737488355328) : Calls Tryz.prog 71 #[.string s, .string p] w fun e w' => e = .returned (.bool (begL s.data.toList p.data.toList)) ∧ w' = w := by
  have HI := Lib.hid (lprefix_any w s p hs)
  generalize begL s.data.toList p.data.toList = y at *
  go_enter Tryz.func71, Tryz.ntmps71
  go_wp2_with fail
  refine HI.out.mono ?_
  rintro e w ⟨rfl, rfl⟩
  go_wp2_with fail
  go_ret
  exact ⟨rfl, rfl⟩

/-- What CutPrefix answers. -/
def restL (s p : List UInt8) : List UInt8 := if begL s p = true then s.drop p.length else s

end Go.Proofs.YtdjmfkodjjjhfaaGreatDoor
/- paths.teller and the closure that it makes; plain. Conditions: texts of at most 2^47 bytes. -/
namespace Go.Proofs.YtdjmfkodjjjhfaaGreatDoor
open Go.RowKit

theorem cut_slash (s : List UInt8) : cutL (47 :: s) = ([], s, true) := by
  unfold cutL
  rw [if_pos List.mem_cons_self, List.idxOf_cons_self]
  rfl
set_option maxRecDepth 100000 in
theorem cut_other {c : UInt8} (s : List UInt8) (h : c ≠ 47) : cutL (c :: s) = (c :: (cutL s).1, (cutL s).2.1, (cutL s).2.2) := by
  unfold cutL
  have e2 : ¬ (47 : UInt8) = c := fun q => h q.symm
  by_cases hm : (47 : UInt8) ∈ s
  · rw [if_pos hm, if_pos (List.mem_cons_of_mem _ hm), List.idxOf_cons, show (c == 47) = false from beq_false_of_ne h]
    rfl
  · rw [if_neg hm, if_neg (by simp [e2, hm])]
set_option maxRecDepth 100000 in
theorem partsF_cut : ∀ (s cur : List UInt8), partsF cur s = (cur ++ (cutL s).1) :: (if (cutL s).2.2 = true then partsL (cutL s).2.1 else [])
  | [], cur => by simp [partsF, cutL]
  | c :: s, cur => by
    rw [partsF]
    by_cases e : c = 47
    · subst e
      rw [if_pos rfl, cut_slash]
      simp [partsL]
    · rw [if_neg e, partsF_cut s, cut_other s e]
      simp
theorem partsL_cut (s : List UInt8) : partsL s = (cutL s).1 :: (if (cutL s).2.2 = true then partsL (cutL s).2.1 else []) := by
  rw [partsL, partsF_cut s []]
  rfl
theorem tcut_len (s : List UInt8) : (cutL s).1.length ≤ s.length ∧ (cutL s).2.1.length ≤ s.length := by
  unfold cutL
  split
  · exact ⟨List.length_take_le' _ _, by rw [List.length_drop]; omega⟩
  · exact ⟨Nat.le_refl _, Nat.zero_le _⟩

/-- The next part, and whether there is one. -/
def hdL : List (List UInt8) → List UInt8
  | [] => []
  | p :: _ => p
def anyL : List (List UInt8) → Bool
  | [] => false
  | _ :: _ => true
abbrev tellV (g : Nat) : Value := .func (.func 82) #[] #[.pointer (some ⟨g + 1, 0, none⟩), .pointer (some ⟨g, 0, none⟩)]
/-- A teller's two variables: what is left to tell is L. -/
def Tell (w : World) (g : Nat) (L : List (List UInt8)) : Prop := ∃ (r : List UInt8) (m : Bool), Blk w g 9 #[sv r] ∧ Blk w (g + 1) 4 #[.bool m] ∧ L = (if m = true then partsL r else []) ∧ r.length ≤ 140737488355328
theorem Tell.step {w w' : World} {g B : Nat} {ps : List Nat} {L : List (List UInt8)} (h : Tell w g L) (hs : Step B ps [] w w') (h0 : g ∉ ps) (h1 : g + 1 ∉ ps) : Tell w' g L := by
  obtain ⟨r, m, a, b, c⟩ := h
  exact ⟨r, m, hs.blk a h0 List.not_mem_nil, hs.blk b h1 List.not_mem_nil, c⟩
theorem Tell.lt {w : World} {g : Nat} {L : List (List UInt8)} (h : Tell w g L) : g + 1 < w.heap.size := by
  obtain ⟨r, m, a, b, c⟩ := h
  exact blk_lt b
theorem blk_far {w : World} {g : Nat} {t : TypeId} {cs : Array Value} (h : Blk w g t cs) {p : Addr} (hne : g ≠ p.block) (u : Value) : Blk (w.setCell p u) g t cs := by
  show (w.setCell p u).heap[g]? = _
  rw [Below.heap_setCell w p u g hne]
  exact h
theorem blk_past {w : World} {g : Nat} {t : TypeId} {cs : Array Value} (h : Blk w g t cs) (o : Obj) : Blk (w.alloc o) g t cs := (Below.heap_alloc w o g (blk_lt h)).trans h

set_option maxHeartbeats 1600000 in
set_option maxRecDepth 100000 in
theorem next_any (w : World) (g : Nat) (L : List (List UInt8)) (h : Tell w g L) : Calls Tryz.prog 82 #[.pointer (some ⟨g + 1, 0, none⟩), .pointer (some ⟨g, 0, none⟩)] w fun e w' => e = .returned (.tuple #[sv (hdL L), .bool (anyL L)]) ∧ Tell w' g L.tail ∧ Step g [g, g + 1] [] w w' := by
  obtain ⟨r, m, hr, hm, rfl, hl⟩ := h
  have c1 : w.cell? ⟨g + 1, 0, none⟩ = some (.bool m) := blk_cell hm 0
  have c0 : w.cell? ⟨g, 0, none⟩ = some (.string (strP r)) := blk_cell hr 0
  cases m
  · have HT : Hid (Tell w g [] ∧ Step g [g, g + 1] [] w w) := Lib.hid ⟨⟨r, false, hr, hm, rfl, hl⟩, Step.refl _ _ _ _⟩
    clear hr hm
    go_enter Tryz.func82, Tryz.ntmps82
    go_wp2_with fail
    go_ret2
    exact ⟨rfl, HT.out⟩
  · have HC := Lib.hid (cut_any w (strP r) hl)
    have HL := Lib.hid (tcut_len r)
    have HP := Lib.hid (partsL_cut r)
    rw [strP_list] at HC
    generalize cutL r = K at *
    obtain ⟨x, y, b⟩ := K
    dsimp only at HC HL HP
    have HY : Hid (y.length ≤ 140737488355328) := Lib.hid (Nat.le_trans HL.out.2 hl)
    rw [if_pos rfl, HP.out]
    have HR := Lib.hid hr
    have HM := Lib.hid hm
    clear hl HL HP hr hm
    have main : ∀ b' : Bool, b' = b → Calls Tryz.prog 82 #[.pointer (some ⟨g + 1, 0, none⟩), .pointer (some ⟨g, 0, none⟩)] w fun e w' => e = .returned (.tuple #[sv x, .bool true]) ∧ Tell w' g (if b' = true then partsL y else []) ∧ Step g [g, g + 1] [] w w' := by
      intro b' hb'
      subst hb'
      cases b'
      all_goals
        go_enter Tryz.func82, Tryz.ntmps82
        go_wp2_with fail
        refine HC.out.mono ?_
        rintro e w1 ⟨rfl, d, rfl⟩
        have f0 : (w.drewN d).frozen? ⟨g, 0, none⟩ = false := blk_frozen HR.out 0
        have k0 : (w.drewN d).cell? ⟨g, 0, none⟩ = some (.string (strP r)) := c0
        have HR1 := Lib.hid (blk_set (show Blk (w.drewN d) g 9 #[sv r] from HR.out) 0 (sv y))
        have HM1 := Lib.hid (blk_far (show Blk (w.drewN d) (g + 1) 4 #[.bool true] from HM.out) (p := ⟨g, 0, none⟩) (Nat.succ_ne_self g) (sv y))
        have f1 : ((w.drewN d).setCell ⟨g, 0, none⟩ (.string (strP y))).frozen? ⟨g + 1, 0, none⟩ = false := blk_frozen HM1.out 0
        have k1 : ((w.drewN d).setCell ⟨g, 0, none⟩ (.string (strP y))).cell? ⟨g + 1, 0, none⟩ = some (.bool true) := blk_cell HM1.out 0
        go_wp2_with fail
        go_ret2
        refine ⟨rfl, ?_, ?_⟩
        · first
          | exact ⟨y, true, blk_far HR1.out (p := ⟨g + 1, 0, none⟩) (Nat.succ_ne_self g).symm _, blk_set HM1.out 0 (.bool true), rfl, HY.out⟩
          | exact ⟨y, false, blk_far HR1.out (p := ⟨g + 1, 0, none⟩) (Nat.succ_ne_self g).symm _, blk_set HM1.out 0 (.bool false), rfl, HY.out⟩
        · exact (((Step.refl g [g, g + 1] [] w).drewN d).set (p := ⟨g, 0, none⟩) (Nat.le_refl _) (by simp) _).set (p := ⟨g + 1, 0, none⟩) (Nat.le_succ g) (by simp) _
    exact main b rfl

set_option maxHeartbeats 1600000 in
set_option maxRecDepth 100000 in
theorem teller_any (w : World) (s : ByteArray) (hs : s.size ≤ 140737488355328) : Calls Tryz.prog 50 #[.string s] w fun e w' => e = .returned (tellV w.heap.size) ∧ Tell w' w.heap.size (partsL s.data.toList) ∧ w'.heap.size = w.heap.size + 2 ∧ Below w.heap.size w w' := by
  go_enter Tryz.func50, Tryz.ntmps50
  have hst : Tell ((w.alloc (.cells #[.string s] 9)).alloc (.cells #[.bool true] 4)) w.heap.size (partsL s.data.toList) := by
    have ha := blk_past (blk_new w 9 #[.string s]) (.cells #[.bool true] 4)
    have hb := blk_new (w.alloc (.cells #[.string s] 9)) 4 #[.bool true]
    rw [show (w.alloc (.cells #[.string s] 9)).heap.size = w.heap.size + 1 by simp] at hb
    refine ⟨s.data.toList, true, ?_, hb, rfl, hs⟩
    unfold sv
    rw [strP_self]
    exact ha
  have HST := Lib.hid hst
  have HB : Hid (Below w.heap.size w ((w.alloc (.cells #[.string s] 9)).alloc (.cells #[.bool true] 4))) := Lib.hid (((Below.refl _ w).alloc (Nat.le_refl _) _).alloc (by simp) _)
  clear hst
  go_wp2_with fail
  go_ret
  exact ⟨rfl, HST.out, by simp, HB.out⟩

set_option maxRecDepth 100000 in
theorem plain_any (w : World) (s : ByteArray) (hs : s.size ≤ 9223372036854775807) : Calls Tryz.prog 66 #[.string s] w fun e w' => e = .returned (.bool (decide (∀ c ∈ s.data.toList, okB c))) ∧ w' = w := by
  by_cases hall : ∀ c ∈ s.data.toList, okB c
  · rw [decide_eq_true hall]
    have HALL := Lib.hid hall
    clear hall
    go_enter Tryz.func66, Tryz.ntmps66
    go_wp2_with fail
    go_loopw [6] (fun si wx => ∃ q : Nat, si = .int .i64 q ∧ q ≤ s.size ∧ wx = w) (fun si _ => s.size - (intOf si).toNat)
    case atStart => exact ⟨0, rfl, Nat.zero_le _, rfl⟩
    case round =>
      obtain ⟨q, rfl, hq, rfl⟩ := hrel
      by_cases e : q < s.size
      · have d0 : decide ((q : Int) < (s.size : Int)) = true := decide_eq_true (by omega)
        have hqz : (q : Int) < s.size := by omega
        have hok : okB (s[q]) := HALL.out _ (by
          rw [← byte_at s q e, List.getD_eq_getElem?_getD, List.getElem?_eq_getElem (by show q < s.size; exact e)]
          exact List.getElem_mem _)
        have d1 : decide (((s[q]).toNat : Int) < 32) = false := decide_eq_false (by have := hok.1; omega)
        have d2 : decide ((126 : Int) < ((s[q]).toNat : Int)) = false := decide_eq_false (by have := hok.2; omega)
        clear hok
        go_wp2_with fail
        go_roundw
        case rel => exact ⟨q + 1, by go_num, by omega, by first | rfl | trivial⟩
        case measure => simp [intOf]; omega
      · obtain rfl : q = s.size := by omega
        have d0 : decide ((s.size : Int) < (s.size : Int)) = false := decide_eq_false (by omega)
        go_wp2_with fail
        go_ret
        exact ⟨rfl, rfl⟩
  · rw [decide_eq_false hall]
    have HALL := Lib.hid hall
    clear hall
    go_enter Tryz.func66, Tryz.ntmps66
    go_wp2_with fail
    go_loopw [6] (fun si wx => ∃ q : Nat, si = .int .i64 q ∧ q ≤ s.size ∧ wx = w ∧ Hid (∀ j, j < q → okB (s.data.toList.getD j 0))) (fun si _ => s.size - (intOf si).toNat)
    case atStart => exact ⟨0, rfl, Nat.zero_le _, rfl, Lib.hid fun j hj => by omega⟩
    case round =>
      obtain ⟨q, rfl, hq, rfl, hJ⟩ := hrel
      by_cases e : q < s.size
      · have d0 : decide ((q : Int) < (s.size : Int)) = true := decide_eq_true (by omega)
        have hqz : (q : Int) < s.size := by omega
        have hby := byte_at s q e
        by_cases e1 : (s[q]).toNat < 32
        · have d1 : decide (((s[q]).toNat : Int) < 32) = true := decide_eq_true (by omega)
          clear hby hJ
          go_wp2_with fail
          go_ret
          exact ⟨rfl, rfl⟩
        have d1 : decide (((s[q]).toNat : Int) < 32) = false := decide_eq_false (by omega)
        by_cases e2 : 126 < (s[q]).toNat
        · have d2 : decide ((126 : Int) < ((s[q]).toNat : Int)) = true := decide_eq_true (by omega)
          clear hby hJ
          go_wp2_with fail
          go_ret
          exact ⟨rfl, rfl⟩
        have d2 : decide ((126 : Int) < ((s[q]).toNat : Int)) = false := decide_eq_false (by omega)
        have HJ2 := Lib.hid (show ∀ j, j < q + 1 → okB (s.data.toList.getD j 0) from fun j hj => by
          by_cases ej : j = q
          · rw [ej, hby]
            exact ⟨by omega, by omega⟩
          · exact hJ.out j (by omega))
        clear hby hJ
        go_wp2_with fail
        go_roundw
        case rel => exact ⟨q + 1, by go_num, by omega, by first | rfl | trivial, HJ2⟩
        case measure => simp [intOf]; omega
      · obtain rfl : q = s.size := by omega
        exfalso
        refine HALL.out fun c hc => ?_
        obtain ⟨j, hj, rfl⟩ := List.getElem_of_mem hc
        have := hJ.out j hj
        rw [List.getD_eq_getElem?_getD, List.getElem?_eq_getElem hj] at this
        exact this
end Go.Proofs.YtdjmfkodjjjhfaaGreatDoor
/- Paths: plain: what Clean gathers part by part; what is left of a teller. -/
namespace Go.Proofs.YtdjmfkodjjjhfaaGreatDoor
open Go.RowKit

/-- What Clean gathers, part by part; nothing where one may not be. -/
def cleanC : List UInt8 → List (List UInt8) → List UInt8
  | O, [] => O
  | O, p :: l => if p = [] ∨ p = [46] then cleanC O l
      else if p = [46, 46] ∨ 120 < p.length + O.length + (if O = [] then 0 else 1) ∨ ¬ ∀ c ∈ p, okB c then []
      else cleanC ((if O = [] then [] else O ++ [47]) ++ p) l
set_option maxRecDepth 100000 in
theorem cleanC_no : ∀ (l : List (List UInt8)) (O : List UInt8), (∃ p ∈ l, p = [46, 46] ∨ ¬ ∀ c ∈ p, okB c) → cleanC O l = []
  | [], _, h => by
    obtain ⟨p, hp, _⟩ := h
    exact absurd hp List.not_mem_nil
  | q :: l, O, h => by
    obtain ⟨p, hp, hb⟩ := h
    rw [cleanC]
    rcases List.mem_cons.1 hp with rfl | hp
    · rw [if_neg ?_, if_pos ?_]
      · rcases hb with hb | hb
        · exact .inl hb
        · exact .inr (.inr hb)
      · rintro (rfl | rfl)
        · rcases hb with hb | hb
          · cases hb
          · exact hb fun c hc => absurd hc List.not_mem_nil
        · rcases hb with hb | hb
          · simp at hb
          · refine hb fun c hc => ?_
            rw [List.mem_singleton.1 hc]
            exact ⟨by decide, by decide⟩
    · split
      · exact cleanC_no l _ ⟨p, hp, hb⟩
      · by_cases e2 : q = [46, 46] ∨ 120 < q.length + O.length + (if O = [] then 0 else 1) ∨ ¬ ∀ c ∈ q, okB c
        · rw [if_pos e2]
        · rw [if_neg e2]
          exact cleanC_no l _ ⟨p, hp, hb⟩
theorem joinF_len : ∀ (l : List (List UInt8)) (O : List UInt8), O.length ≤ (joinF O l).length
  | [], O => Nat.le_refl _
  | p :: l, O => by
    rw [joinF]
    split
    · exact joinF_len l O
    · refine Nat.le_trans ?_ (joinF_len l _)
      split
      · next h => rw [h]; exact Nat.zero_le _
      · rw [List.length_append, List.length_append]; omega
set_option maxRecDepth 100000 in
theorem cleanC_join : ∀ (l : List (List UInt8)) (O : List UInt8), O.length ≤ 120 → (∀ p ∈ l, p ≠ [46, 46] ∧ ∀ c ∈ p, okB c) → cleanC O l = if (joinF O l).length ≤ 120 then joinF O l else []
  | [], O, hO, _ => by rw [cleanC, joinF, if_pos hO]
  | p :: l, O, hO, h => by
    rw [cleanC, joinF]
    by_cases e : p = [] ∨ p = [46]
    · rw [if_pos e, if_pos e]
      exact cleanC_join l O hO fun q hq => h q (List.mem_cons_of_mem _ hq)
    · rw [if_neg e, if_neg e]
      have hp := h p List.mem_cons_self
      have hlen : ((if O = [] then [] else O ++ [47]) ++ p).length = p.length + O.length + (if O = [] then 0 else 1) := by
        split
        · next h => rw [h]; simp
        · rw [List.length_append, List.length_append, List.length_singleton]; omega
      by_cases e2 : 120 < p.length + O.length + (if O = [] then 0 else 1)
      · rw [if_pos (.inr (.inl e2)), if_neg]
        have := joinF_len l ((if O = [] then [] else O ++ [47]) ++ p)
        omega
      · rw [if_neg]
        · exact cleanC_join l _ (by omega) fun q hq => h q (List.mem_cons_of_mem _ hq)
        · rintro (h1 | h1 | h1)
          · exact hp.1 h1
          · exact e2 h1
          · exact h1 hp.2
set_option maxRecDepth 100000 in
theorem clean_code (s : List UInt8) : cleanL s = if cleanC [] (partsL s) = [] then ([], 140) else (cleanC [] (partsL s), 0) := by
  unfold cleanL
  by_cases h1 : [46, 46] ∈ partsL s
  · rw [if_pos h1, if_pos (cleanC_no _ _ ⟨_, h1, .inl rfl⟩)]
  rw [if_neg h1]
  by_cases h2 : ∀ c ∈ s, okB c
  · rw [if_neg (fun h => h h2)]
    have hall : ∀ p ∈ partsL s, p ≠ [46, 46] ∧ ∀ c ∈ p, okB c := fun p hp => ⟨fun e => h1 (e ▸ hp), fun c hc => (parts_bytes s [] p hp c hc).elim (fun h => absurd h List.not_mem_nil) fun h => h2 c h⟩
    rw [cleanC_join _ _ (Nat.zero_le _) hall]
    by_cases h3 : (joinF [] (partsL s)).length ≤ 120
    · rw [if_pos h3]
      by_cases h4 : joinF [] (partsL s) = []
      · rw [if_pos (.inl h4), if_pos h4]
      · rw [if_neg (fun h => h.elim h4 (fun h => by omega)), if_neg h4]
    · rw [if_neg h3, if_pos (.inr (by omega)), if_pos rfl]
  · rw [if_pos h2]
    rw [if_pos]
    refine cleanC_no _ _ ?_
    have ⟨c, hc, hb⟩ : ∃ c, c ∈ s ∧ ¬ okB c := by
      refine Classical.byContradiction fun hn => h2 fun c hc => Classical.byContradiction fun hb => hn ⟨c, hc, hb⟩
    have hj := parts_back s
    rw [← hj] at hc
    rcases join_bytes hc with rfl | ⟨q, hq, hcq⟩
    · exact absurd ⟨by decide, by decide⟩ hb
    · exact ⟨q, hq, .inr fun h => hb (h c hcq)⟩

/-- How many parts a teller has left, read out of memory. -/
def leftOf (w : World) (g : Nat) : Nat := match w.cell? ⟨g, 0, none⟩, w.cell? ⟨g + 1, 0, none⟩ with
  | some (.string r), some (.bool true) => (partsL r.data.toList).length
  | _, _ => 0
theorem left_is {w : World} {g : Nat} {L : List (List UInt8)} (h : Tell w g L) : leftOf w g = L.length := by
  obtain ⟨r, m, hr, hm, rfl, _⟩ := h
  have c1 : w.cell? ⟨g + 1, 0, none⟩ = some (.bool m) := blk_cell hm 0
  have c0 : w.cell? ⟨g, 0, none⟩ = some (.string (strP r)) := blk_cell hr 0
  unfold leftOf
  rw [c0, c1]
  cases m <;> rfl
def oneIf : Value → Nat
  | .bool true => 1
  | _ => 0
theorem any_left (L : List (List UInt8)) : oneIf (.bool (anyL L)) + L.tail.length = L.length := by
  cases L with
  | nil => rfl
  | cons p L => exact Nat.add_comm _ _
/-- What stands between what was gathered and the next part. -/
def btw (O : List UInt8) : ByteArray := if O = [] then ⟨#[]⟩ else ⟨#[47]⟩
theorem btw_size (O : List UInt8) : (btw O).size = if O = [] then 0 else 1 := by
  unfold btw
  split <;> rfl
theorem btw_put (O p : List UInt8) : strP O ++ (btw O ++ strP p) = strP ((if O = [] then [] else O ++ [47]) ++ p) := by
  unfold btw
  by_cases e : O = []
  · rw [if_pos e, if_pos e, e, show (⟨#[]⟩ : ByteArray) = strP [] from rfl, strP_app, strP_app]
    rfl
  · rw [if_neg e, if_neg e, show (⟨#[47]⟩ : ByteArray) = strP [47] from rfl, strP_app, strP_app, List.append_assoc]
end Go.Proofs.YtdjmfkodjjjhfaaGreatDoor
/- paths.Clean, Check. Conditions: texts of at most 2^47 bytes. -/
namespace Go.Proofs.YtdjmfkodjjjhfaaGreatDoor
open Go.RowKit

set_option maxHeartbeats 3200000 in
set_option maxRecDepth 100000 in
theorem cclean_any (w : World) (t : ByteArray) (hs : t.size ≤ 140737488355328) : Calls Tryz.prog 36 #[.string t] w fun e w' => e = .returned (.tuple #[.string (strP (cleanL t.data.toList).1), .int .i64 (cleanL t.data.toList).2]) ∧ Below w.heap.size w w' := by
  have HT := Lib.hid (teller_any w t hs)
  have HCL := Lib.hid (clean_code t.data.toList)
  have HP : Hid (∀ (X : List UInt8) (k : Nat) (w' : World), cleanL t.data.toList = (X, k) → Below w.heap.size w w' → (fun e w' => e = Ending.returned (.tuple #[.string (strP (cleanL t.data.toList).1), .int .i64 (cleanL t.data.toList).2]) ∧ Below w.heap.size w w') (.returned (.tuple #[.string (strP X), .int .i64 k])) w') := Lib.hid fun X k w' h hb => ⟨by rw [h], hb⟩
  generalize (fun e w' => e = Ending.returned (.tuple #[.string (strP (cleanL t.data.toList).1), .int .i64 (cleanL t.data.toList).2]) ∧ Below w.heap.size w w') = PO at *
  generalize partsL t.data.toList = L0 at *
  obtain ⟨g, hg⟩ : ∃ g, g = w.heap.size := ⟨_, rfl⟩
  have HG := Lib.hid hg
  rw [← hg] at HT
  clear hg
  have HEND : Hid (∀ (O : List UInt8) (wx : World), O = cleanC [] L0 → Below w.heap.size w wx → (O = [] → PO (.returned (.tuple #[.string ⟨#[]⟩, .int .i64 140])) wx) ∧ (O ≠ [] → PO (.returned (.tuple #[.string (strP O), .int .i64 0])) wx)) := Lib.hid fun O wx hO hb => by
    refine ⟨fun e => HP.out [] 140 wx ?_ hb, fun e => HP.out O 0 wx ?_ hb⟩
    · rw [HCL.out, if_pos (by rw [← hO, e])]
    · rw [HCL.out, if_neg (by rw [← hO]; exact e), hO]
  obtain ⟨C0, hC0⟩ : ∃ C0, cleanC [] L0 = C0 := ⟨_, rfl⟩
  rw [hC0] at HEND
  have HC0 := Lib.hid hC0
  clear HP HCL hC0
  go_enter Tryz.func36, Tryz.ntmps36
  go_wp2_with fail
  go_step3
  go_wp2_with fail
  refine HT.out.mono ?_
  rintro e w1 ⟨rfl, ht1, _, hb1⟩
  have HN := Lib.hid (next_any w1 g _ ht1)
  have HB1 := Lib.hid hb1
  clear ht1 hb1
  go_wp2_with fail
  go_step3
  go_wp2_with fail
  refine HN.out.mono ?_
  rintro e w2 ⟨rfl, ht2, hs2⟩
  have HB2 : Hid (Below w.heap.size w w2) := Lib.hid (by rw [← HG.out]; exact HB1.out.trans hs2.below)
  have HI : Hid (Tell w2 g L0.tail ∧ cleanC [] L0 = C0) := Lib.hid ⟨ht2, HC0.out⟩
  clear ht2 hs2 HN HB1
  go_wp2_with fail
  go_loopw [4, 5, 7, 8] (fun so sb sp si wx => ∃ (O : List UInt8) (L : List (List UInt8)), so = .string (strP O) ∧ sb = .string (btw O) ∧ sp = .string (strP (hdL L)) ∧ si = .bool (anyL L) ∧ O.length ≤ 120 ∧ Below w.heap.size w wx ∧
    Hid (Tell wx g L.tail ∧ cleanC O L = C0)) (fun _ _ _ si wx => oneIf si + leftOf wx g)
  case atStart => exact ⟨[], L0, rfl, rfl, rfl, rfl, Nat.zero_le _, HB2.out, HI⟩
  case round =>
    obtain ⟨O, L, rfl, rfl, hp, hi, hO, hbx, hJ⟩ := hrel
    have HBX := Lib.hid hbx
    clear hbx
    rcases L with _ | ⟨p, L⟩
    · change _ = Value.string (strP []) at hp
      change _ = Value.bool false at hi
      subst hp hi
      have HE := HEND.out O wr hJ.out.2 HBX.out
      by_cases eO : O = []
      · have d0 : (strP O).toList.isEmpty = true := by rw [strP_toList, eO]; rfl
        have HF := Lib.hid (HE.1 eO)
        clear HE hJ eO
        go_wp2_with fail
        exact HF.out
      · have d0 : (strP O).toList.isEmpty = false := by
          rw [strP_toList]
          cases O with
          | nil => exact absurd rfl eO
          | cons x l => rfl
        have HF := Lib.hid (HE.2 eO)
        clear HE hJ eO
        go_wp2_with fail
        exact HF.out
    · change _ = Value.string (strP p) at hp
      change _ = Value.bool true at hi
      subst hp hi
      have ht := hJ.out.1
      have HN := Lib.hid (next_any wr g L ht)
      have HLEFT := Lib.hid (left_is (L := L) ht)
      have hcl := hJ.out.2
      have HPT := Lib.hid (strP_toList p)
      clear hJ ht
      rw [cleanC] at hcl
      by_cases e1 : p = []
      · rw [if_pos (.inl e1)] at hcl
        have HJ2 := Lib.hid hcl
        have d1 : (strP p).toList.isEmpty = true := by rw [HPT.out, e1]; rfl
        clear hcl e1
        go_wp2_with fail
        refine HN.out.mono ?_
        rintro e w3 ⟨rfl, ht3, hs3⟩
        have HB3 : Hid (Below w.heap.size w w3) := Lib.hid (HBX.out.trans (by rw [← HG.out]; exact hs3.below))
        have HL3 := Lib.hid (left_is ht3)
        have HJ3 := Lib.hid (show Tell w3 g L.tail ∧ _ from ⟨ht3, HJ2.out⟩)
        clear ht3 hs3 HN
        go_wp2_with fail
        go_roundw
        case rel => exact ⟨O, L, rfl, rfl, rfl, rfl, hO, HB3.out, HJ3⟩
        case measure =>
          have := any_left L
          rw [HLEFT.out, HL3.out]
          show _ < 1 + L.length
          omega
      have d1 : (strP p).toList.isEmpty = false := by
        rw [HPT.out]
        cases p with
        | nil => exact absurd rfl e1
        | cons x l => rfl
      by_cases e2 : p = [46]
      · rw [if_pos (.inr e2)] at hcl
        have HJ2 := Lib.hid hcl
        have d2 : ((strP p).toList == [46]) = true := by rw [HPT.out, e2]; rfl
        clear hcl e1 e2
        go_wp2_with fail
        refine HN.out.mono ?_
        rintro e w3 ⟨rfl, ht3, hs3⟩
        have HB3 : Hid (Below w.heap.size w w3) := Lib.hid (HBX.out.trans (by rw [← HG.out]; exact hs3.below))
        have HL3 := Lib.hid (left_is ht3)
        have HJ3 := Lib.hid (show Tell w3 g L.tail ∧ _ from ⟨ht3, HJ2.out⟩)
        clear ht3 hs3 HN
        go_wp2_with fail
        go_roundw
        case rel => exact ⟨O, L, rfl, rfl, rfl, rfl, hO, HB3.out, HJ3⟩
        case measure =>
          have := any_left L
          rw [HLEFT.out, HL3.out]
          show _ < 1 + L.length
          omega
      have d2 : ((strP p).toList == [46]) = false := by rw [HPT.out]; exact beq_false_of_ne e2
      rw [if_neg (fun h => h.elim e1 e2)] at hcl
      clear e2
      by_cases e3 : p = [46, 46]
      · have d3 : ((strP p).toList == [46, 46]) = true := by rw [HPT.out, e3]; rfl
        rw [if_pos (.inl e3)] at hcl
        clear e1 e3
        have HF := Lib.hid ((HEND.out [] wr hcl HBX.out).1 rfl)
        clear hcl
        go_wp2_with fail
        exact HF.out
      have d3 : ((strP p).toList == [46, 46]) = false := by rw [HPT.out]; exact beq_false_of_ne e3
      have HPS := Lib.hid (strP_size p)
      have HOS := Lib.hid (strP_size O)
      have HBS := Lib.hid (btw_size O)
      have hos : (strP O).size ≤ 120 := hO
      have hbs : (btw O).size ≤ 1 := by
        rw [HBS.out]
        split
        · exact Nat.zero_le _
        · exact Nat.le_refl _
      by_cases e4 : 120 < p.length + O.length + (if O = [] then 0 else 1)
      · have d4 : decide ((120 : Int) - ((strP O).size : Int) - ((btw O).size : Int) < ((strP p).size : Int)) = true := decide_eq_true (by
          rw [HPS.out, HOS.out, HBS.out]
          omega)
        rw [if_pos (.inr (.inl e4))] at hcl
        clear e1 e3 e4
        have HF := Lib.hid ((HEND.out [] wr hcl HBX.out).1 rfl)
        clear hcl
        go_wp2_with fail
        exact HF.out
      have d4 : decide ((120 : Int) - ((strP O).size : Int) - ((btw O).size : Int) < ((strP p).size : Int)) = false := decide_eq_false (by
        rw [HPS.out, HOS.out, HBS.out]
        omega)
      have hps : (strP p).size ≤ 120 := by
        rw [HPS.out]
        omega
      have HPL := Lib.hid (plain_any wr (strP p) (by omega))
      rw [strP_list] at HPL
      by_cases e5 : ∀ c ∈ p, okB c
      · rw [decide_eq_true e5] at HPL
        rw [if_neg (fun h => h.elim e3 fun h => h.elim e4 fun h => h e5)] at hcl
        have HJ2 := Lib.hid hcl
        have HPUT := Lib.hid (btw_put O p)
        have HE1 := Lib.hid e1
        have HE4 := Lib.hid e4
        obtain ⟨N, hN⟩ : ∃ N, N = (if O = [] then [] else O ++ [47]) ++ p := ⟨_, rfl⟩
        rw [← hN] at HJ2 HPUT
        have HNL : Hid (N.length ≤ 120) := Lib.hid (by
          rw [hN]
          split
          · next h => simp [h] at e4; simp; omega
          · next h => simp [h] at e4; simp; omega)
        have HNB : Hid (btw N = ⟨#[47]⟩) := Lib.hid (by
          unfold btw
          rw [if_neg]
          rw [hN]
          intro h
          exact e1 (List.append_eq_nil_iff.1 h).2)
        have hcs : (btw O ++ strP p).size ≤ 121 := by
          rw [ByteArray.size_append]
          omega
        clear hcl e1 e3 e4 e5 hN
        go_wp2_with fail
        refine HPL.out.mono ?_
        rintro e w2' ⟨rfl, rfl⟩
        go_wp2_with fail
        refine HN.out.mono ?_
        rintro e w3 ⟨rfl, ht3, hs3⟩
        have HB3 : Hid (Below w.heap.size w w3) := Lib.hid (HBX.out.trans (by rw [← HG.out]; exact hs3.below))
        have HL3 := Lib.hid (left_is ht3)
        have HJ3 := Lib.hid (show Tell w3 g L.tail ∧ _ from ⟨ht3, HJ2.out⟩)
        clear ht3 hs3 HN
        go_wp2_with fail
        go_roundw
        case rel => exact ⟨N, L, by rw [← HPUT.out], by rw [HNB.out], rfl, rfl, HNL.out, HB3.out, HJ3⟩
        case measure =>
          have := any_left L
          rw [HLEFT.out, HL3.out]
          show _ < 1 + L.length
          omega
      · rw [decide_eq_false e5] at HPL
        rw [if_pos (.inr (.inr e5))] at hcl
        have HF := Lib.hid ((HEND.out [] wr hcl HBX.out).1 rfl)
        clear hcl e1 e3 e4 e5
        go_wp2_with fail
        refine HPL.out.mono ?_
        rintro e w2' ⟨rfl, rfl⟩
        go_wp2_with fail
        exact HF.out

set_option maxRecDepth 100000 in
theorem ccheck_any (w : World) (t : ByteArray) (hs : t.size ≤ 140737488355328) : Calls Tryz.prog 24 #[.string t] w fun e w' => e = .returned (.int .i64 (checkL t.data.toList)) ∧ Below w.heap.size w w' := by
  have HC := Lib.hid (cclean_any w t hs)
  unfold checkL
  have h2 := clean_err t.data.toList
  have hst := same_text (strP (cleanL t.data.toList).1) t
  rw [strP_list] at hst
  generalize cleanL t.data.toList = K at *
  obtain ⟨X, k⟩ := K
  dsimp only at HC hst h2 ⊢
  rcases h2 with rfl | h2
  · by_cases e : X = t.data.toList
    · have d0 : ((strP X).toList == t.toList) = true := by rw [hst]; exact decide_eq_true e
      have d1 : ((strP X).toList != t.toList) = false := by rw [bne, d0]; rfl
      rw [if_neg (fun h => h.elim (fun h => h rfl) fun h => h e)]
      clear hst e
      go_enter Tryz.func24, Tryz.ntmps24
      go_wp2_with fail
      refine HC.out.mono ?_
      rintro e w1 ⟨rfl, hb⟩
      have HB := Lib.hid hb
      clear hb
      go_wp2_with fail
      go_ret
      exact ⟨rfl, HB.out⟩
    · have d0 : ((strP X).toList == t.toList) = false := by rw [hst]; exact decide_eq_false e
      have d1 : ((strP X).toList != t.toList) = true := by rw [bne, d0]; rfl
      rw [if_pos (.inr e)]
      clear hst e
      go_enter Tryz.func24, Tryz.ntmps24
      go_wp2_with fail
      refine HC.out.mono ?_
      rintro e w1 ⟨rfl, hb⟩
      have HB := Lib.hid hb
      clear hb
      go_wp2_with fail
      go_ret
      exact ⟨rfl, HB.out⟩
  · injection h2 with h3 h4
    subst h4
    rw [if_pos (.inl (by decide))]
    clear hst h3
    go_enter Tryz.func24, Tryz.ntmps24
    go_wp2_with fail
    refine HC.out.mono ?_
    rintro e w1 ⟨rfl, hb⟩
    have HB := Lib.hid hb
    clear hb
    go_wp2_with fail
    go_ret
    exact ⟨rfl, HB.out⟩
end Go.Proofs.YtdjmfkodjjjhfaaGreatDoor
/- Tar's code: check, filled. Conditions: texts of at most 2^47 bytes. -/
namespace Go.Proofs.YtdjmfkodjjjhfaaGreatDoor
open Go.RowKit

set_option maxRecDepth 100000 in
theorem cfilled_any (w : World) (n : Nat) (hn : n ≤ 9007199254740992) : Calls Tryz.prog 53 #[.int .i64 n] w fun e w' => e = .returned (.int .i64 (upTo n)) ∧ w' = w := by
  have h1 : IntKind.i64.wrap ((n : Int) + 512) = (n : Int) + 512 := by rw [IntKind.wrap_i64]; omega
  have h2 : IntKind.i64.wrap ((n : Int) + 512 - 1) = (n : Int) + 512 - 1 := by rw [IntKind.wrap_i64]; omega
  have h3 : Int.tdiv ((n : Int) + 512 - 1) 512 = (((n + 511) / 512 : Nat) : Int) := by
    rw [show (n : Int) + 512 - 1 = ((n + 511 : Nat) : Int) by omega]
    rfl
  have h4 : (((n + 511) / 512 : Nat) : Int) * 512 = (upTo n : Int) := by unfold upTo; omega
  have h6 : (((n + 511) / 512 : Nat) : Int) ≤ 9007199254740992 := by omega
  have hz : upTo n ≤ 9007199254741503 := by unfold upTo; omega
  have h5 : IntKind.i64.wrap (((n + 511) / 512 : Nat) : Int) = (((n + 511) / 512 : Nat) : Int) := by rw [IntKind.wrap_i64]; omega
  have h7 : IntKind.i64.wrap (upTo n : Int) = (upTo n : Int) := by rw [IntKind.wrap_i64]; omega
  generalize (((n + 511) / 512 : Nat) : Int) = q at *
  generalize upTo n = u at *
  go_enter Tryz.func53, Tryz.ntmps53
  go_wp2_with fail
  go_ret
  exact ⟨by first | rfl | (simp only [h1, h2, h3, h4, h5, h7]), rfl⟩

set_option maxHeartbeats 1600000 in
set_option maxRecDepth 100000 in
theorem ccheckE_any (w : World) (p d : ByteArray) (hp : p.size ≤ 140737488355328) (hd : d.size ≤ 140737488355328) :
    Calls Tryz.prog 26 #[.agg #[.string p, .string d]] w fun e w' => e = .returned (.int .i64 (if checkL p.data.toList ≠ 0 then 140 else if 262144 < d.size then 3 else 0 : Nat)) ∧ Below w.heap.size w w' := by
  have CC := Lib.hid fun wx : World => ccheck_any wx p hp
  have HK1 := Lib.hid (blk_new w 23 #[.string p, .string d])
  have HB1 := Lib.hid (show Below w.heap.size w (w.alloc (.cells #[.string p, .string d] 23)) from (Below.refl _ _).alloc (Nat.le_refl _) _)
  have c0 : (w.alloc (.cells #[.string p, .string d] 23)).cell? ⟨w.heap.size, 0, none⟩ = some (.string p) := blk_cell HK1.out 0
  obtain ⟨ck, hck⟩ : ∃ k, k = checkL p.data.toList := ⟨_, rfl⟩
  rw [← hck] at CC ⊢
  obtain ⟨N, hN⟩ : ∃ N : Nat, N = (if ck ≠ 0 then 140 else if 262144 < d.size then 3 else 0) := ⟨_, rfl⟩
  have HN := Lib.hid hN
  rw [← hN]
  clear hck hN
  go_enter Tryz.func26, Tryz.ntmps26
  go_upto_region 1 with fail
  generalize w.alloc (.cells #[.string p, .string d] 23) = w1 at *
  go_wp2_with fail
  refine (CC.out _).mono ?_
  rintro e w2 ⟨rfl, hb2⟩
  have hk2 := (step_of_below hb2).blk HK1.out List.not_mem_nil List.not_mem_nil
  have HB2 := Lib.hid (HB1.out.trans (hb2.mono HB1.out.size))
  have q1 : w2.cell? ⟨w.heap.size, 1, none⟩ = some (.string d) := blk_cell hk2 1
  clear c0 hb2 hk2 HK1 HB1 CC
  by_cases ec : ck = 0
  · have t0 : ((ck : Int) != 0) = false := by rw [ec]; rfl
    by_cases ed : 262144 < d.size
    · have t1 : decide ((262144 : Int) < (d.size : Int)) = true := decide_eq_true (by omega)
      have hN : N = 3 := by rw [HN.out, if_neg (fun h => h ec), if_pos ed]
      clear ec ed HN
      go_wp2_with fail
      go_ret
      exact ⟨by rw [hN]; rfl, HB2.out⟩
    · have t1 : decide ((262144 : Int) < (d.size : Int)) = false := decide_eq_false (by omega)
      have hN : N = 0 := by rw [HN.out, if_neg (fun h => h ec), if_neg ed]
      clear ec ed HN
      go_wp2_with fail
      go_ret
      exact ⟨by rw [hN]; rfl, HB2.out⟩
  · have t0 : ((ck : Int) != 0) = true := bne_iff_ne.2 (by omega)
    have hN : N = 140 := by rw [HN.out, if_pos ec]
    clear ec HN
    go_wp2_with fail
    go_ret
    exact ⟨by rw [hN]; rfl, HB2.out⟩
end Go.Proofs.YtdjmfkodjjjhfaaGreatDoor
