/- paths.teller and the closure that it makes; plain. Conditions: texts of at most 2^47 bytes. -/
import Derived.Test.YtlnopdlpdnengaaPua
namespace Go.Proofs.Ytlnopdlpdnengaa
open Go.RowKit

theorem cut_slash (s : List UInt8) : cutL (47 :: s) = ([], s, true) := by
  unfold cutL
  rw [if_pos List.mem_cons_self, List.idxOf_cons_self]
  rfl
set_option maxRecDepth 100000 in
theorem cut_other {c : UInt8} (s : List UInt8) (h : c ≠ 47) : cutL (c :: s) = (c :: (cutL s).1, (cutL s).2.1, (cutL s).2.2) := by
  unfold cutL
  have e2 : ¬ (47 : UInt8) = c := fun q => h q.symm
  by_cases hm : (47 : UInt8) ∈ s
  · rw [if_pos hm, if_pos (List.mem_cons_of_mem _ hm), List.idxOf_cons, show (c == 47) = false from beq_false_of_ne h]
    rfl
  · rw [if_neg hm, if_neg (by simp [e2, hm])]
set_option maxRecDepth 100000 in
theorem partsF_cut : ∀ (s cur : List UInt8), partsF cur s = (cur ++ (cutL s).1) :: (if (cutL s).2.2 = true then partsL (cutL s).2.1 else [])
  | [], cur => by simp [partsF, cutL]
  | c :: s, cur => by
    rw [partsF]
    by_cases e : c = 47
    · subst e
      rw [if_pos rfl, cut_slash]
      simp [partsL]
    · rw [if_neg e, partsF_cut s, cut_other s e]
      simp
theorem partsL_cut (s : List UInt8) : partsL s = (cutL s).1 :: (if (cutL s).2.2 = true then partsL (cutL s).2.1 else []) := by
  rw [partsL, partsF_cut s []]
  rfl
theorem cut_len (s : List UInt8) : (cutL s).1.length ≤ s.length ∧ (cutL s).2.1.length ≤ s.length := by
  unfold cutL
  split
  · exact ⟨List.length_take_le' _ _, by rw [List.length_drop]; omega⟩
  · exact ⟨Nat.le_refl _, Nat.zero_le _⟩

/-- The next part, and whether there is one. -/
def hdL : List (List UInt8) → List UInt8
  | [] => []
  | p :: _ => p
def anyL : List (List UInt8) → Bool
  | [] => false
  | _ :: _ => true
abbrev tellV (g : Nat) : Value := .func (.func 29) #[] #[.pointer (some ⟨g + 1, 0, none⟩), .pointer (some ⟨g, 0, none⟩)]
/-- A teller's two variables: what is left to tell is L. -/
def Tell (w : World) (g : Nat) (L : List (List UInt8)) : Prop := ∃ (r : List UInt8) (m : Bool), Blk w g 9 #[sv r] ∧ Blk w (g + 1) 4 #[.bool m] ∧ L = (if m = true then partsL r else []) ∧ r.length ≤ 140737488355328
theorem Tell.step {w w' : World} {g B : Nat} {ps : List Nat} {L : List (List UInt8)} (h : Tell w g L) (hs : Step B ps [] w w') (h0 : g ∉ ps) (h1 : g + 1 ∉ ps) : Tell w' g L := by
  obtain ⟨r, m, a, b, c⟩ := h
  exact ⟨r, m, hs.blk a h0 List.not_mem_nil, hs.blk b h1 List.not_mem_nil, c⟩
theorem Tell.lt {w : World} {g : Nat} {L : List (List UInt8)} (h : Tell w g L) : g + 1 < w.heap.size := by
  obtain ⟨r, m, a, b, c⟩ := h
  exact blk_lt b
theorem blk_far {w : World} {g : Nat} {t : TypeId} {cs : Array Value} (h : Blk w g t cs) {p : Addr} (hne : g ≠ p.block) (u : Value) : Blk (w.setCell p u) g t cs := by
  show (w.setCell p u).heap[g]? = _
  rw [Below.heap_setCell w p u g hne]
  exact h
theorem blk_past {w : World} {g : Nat} {t : TypeId} {cs : Array Value} (h : Blk w g t cs) (o : Obj) : Blk (w.alloc o) g t cs := (Below.heap_alloc w o g (blk_lt h)).trans h

set_option maxHeartbeats 1600000 in
set_option maxRecDepth 100000 in
theorem next_any (w : World) (g : Nat) (L : List (List UInt8)) (h : Tell w g L) : Calls Try.prog 29 #[.pointer (some ⟨g + 1, 0, none⟩), .pointer (some ⟨g, 0, none⟩)] w fun e w' => e = .returned (.tuple #[sv (hdL L), .bool (anyL L)]) ∧ Tell w' g L.tail ∧ Step g [g, g + 1] [] w w' := by
  obtain ⟨r, m, hr, hm, rfl, hl⟩ := h
  have c1 : w.cell? ⟨g + 1, 0, none⟩ = some (.bool m) := blk_cell hm 0
  have c0 : w.cell? ⟨g, 0, none⟩ = some (.string (strP r)) := blk_cell hr 0
  cases m
  · have HT : Hid (Tell w g [] ∧ Step g [g, g + 1] [] w w) := Lib.hid ⟨⟨r, false, hr, hm, rfl, hl⟩, Step.refl _ _ _ _⟩
    clear hr hm
    go_enter Try.func29, Try.ntmps29
    go_wp2_with fail
    go_ret2
    exact ⟨rfl, HT.out⟩
  · have HC := Lib.hid (cut_any w (strP r) hl)
    have HL := Lib.hid (cut_len r)
    have HP := Lib.hid (partsL_cut r)
    rw [strP_list] at HC
    generalize cutL r = K at *
    obtain ⟨x, y, b⟩ := K
    dsimp only at HC HL HP
    have HY : Hid (y.length ≤ 140737488355328) := Lib.hid (Nat.le_trans HL.out.2 hl)
    rw [if_pos rfl, HP.out]
    have HR := Lib.hid hr
    have HM := Lib.hid hm
    clear hl HL HP hr hm
    have main : ∀ b' : Bool, b' = b → Calls Try.prog 29 #[.pointer (some ⟨g + 1, 0, none⟩), .pointer (some ⟨g, 0, none⟩)] w fun e w' => e = .returned (.tuple #[sv x, .bool true]) ∧ Tell w' g (if b' = true then partsL y else []) ∧ Step g [g, g + 1] [] w w' := by
      intro b' hb'
      subst hb'
      cases b'
      all_goals
        go_enter Try.func29, Try.ntmps29
        go_wp2_with fail
        refine HC.out.mono ?_
        rintro e w1 ⟨rfl, d, rfl⟩
        have f0 : (w.drewN d).frozen? ⟨g, 0, none⟩ = false := blk_frozen HR.out 0
        have k0 : (w.drewN d).cell? ⟨g, 0, none⟩ = some (.string (strP r)) := c0
        have HR1 := Lib.hid (blk_set (show Blk (w.drewN d) g 9 #[sv r] from HR.out) 0 (sv y))
        have HM1 := Lib.hid (blk_far (show Blk (w.drewN d) (g + 1) 4 #[.bool true] from HM.out) (p := ⟨g, 0, none⟩) (Nat.succ_ne_self g) (sv y))
        have f1 : ((w.drewN d).setCell ⟨g, 0, none⟩ (.string (strP y))).frozen? ⟨g + 1, 0, none⟩ = false := blk_frozen HM1.out 0
        have k1 : ((w.drewN d).setCell ⟨g, 0, none⟩ (.string (strP y))).cell? ⟨g + 1, 0, none⟩ = some (.bool true) := blk_cell HM1.out 0
        go_wp2_with fail
        go_ret2
        refine ⟨rfl, ?_, ?_⟩
        · first
          | exact ⟨y, true, blk_far HR1.out (p := ⟨g + 1, 0, none⟩) (Nat.succ_ne_self g).symm _, blk_set HM1.out 0 (.bool true), rfl, HY.out⟩
          | exact ⟨y, false, blk_far HR1.out (p := ⟨g + 1, 0, none⟩) (Nat.succ_ne_self g).symm _, blk_set HM1.out 0 (.bool false), rfl, HY.out⟩
        · exact (((Step.refl g [g, g + 1] [] w).drewN d).set (p := ⟨g, 0, none⟩) (Nat.le_refl _) (by simp) _).set (p := ⟨g + 1, 0, none⟩) (Nat.le_succ g) (by simp) _
    exact main b rfl

set_option maxHeartbeats 1600000 in
set_option maxRecDepth 100000 in
theorem teller_any (w : World) (s : ByteArray) (hs : s.size ≤ 140737488355328) : Calls Try.prog 23 #[.string s] w fun e w' => e = .returned (tellV w.heap.size) ∧ Tell w' w.heap.size (partsL s.data.toList) ∧ w'.heap.size = w.heap.size + 2 ∧ Below w.heap.size w w' := by
  go_enter Try.func23, Try.ntmps23
  have hst : Tell ((w.alloc (.cells #[.string s] 9)).alloc (.cells #[.bool true] 4)) w.heap.size (partsL s.data.toList) := by
    have ha := blk_past (blk_new w 9 #[.string s]) (.cells #[.bool true] 4)
    have hb := blk_new (w.alloc (.cells #[.string s] 9)) 4 #[.bool true]
    rw [show (w.alloc (.cells #[.string s] 9)).heap.size = w.heap.size + 1 by simp] at hb
    refine ⟨s.data.toList, true, ?_, hb, rfl, hs⟩
    unfold sv
    rw [strP_self]
    exact ha
  have HST := Lib.hid hst
  have HB : Hid (Below w.heap.size w ((w.alloc (.cells #[.string s] 9)).alloc (.cells #[.bool true] 4))) := Lib.hid (((Below.refl _ w).alloc (Nat.le_refl _) _).alloc (by simp) _)
  clear hst
  go_wp2_with fail
  go_ret
  exact ⟨rfl, HST.out, by simp, HB.out⟩

set_option maxRecDepth 100000 in
theorem plain_any (w : World) (s : ByteArray) (hs : s.size ≤ 9223372036854775807) : Calls Try.prog 24 #[.string s] w fun e w' => e = .returned (.bool (decide (∀ c ∈ s.data.toList, okB c))) ∧ w' = w := by
  by_cases hall : ∀ c ∈ s.data.toList, okB c
  · rw [decide_eq_true hall]
    have HALL := Lib.hid hall
    clear hall
    go_enter Try.func24, Try.ntmps24
    go_wp2_with fail
    go_loopw [6] (fun si wx => ∃ q : Nat, si = .int .i64 q ∧ q ≤ s.size ∧ wx = w) (fun si _ => s.size - (intOf si).toNat)
    case atStart => exact ⟨0, rfl, Nat.zero_le _, rfl⟩
    case round =>
      obtain ⟨q, rfl, hq, rfl⟩ := hrel
      by_cases e : q < s.size
      · have d0 : decide ((q : Int) < (s.size : Int)) = true := decide_eq_true (by omega)
        have hqz : (q : Int) < s.size := by omega
        have hok : okB (s[q]) := HALL.out _ (by
          rw [← byte_at s q e, List.getD_eq_getElem?_getD, List.getElem?_eq_getElem (by show q < s.size; exact e)]
          exact List.getElem_mem _)
        have d1 : decide (((s[q]).toNat : Int) < 32) = false := decide_eq_false (by have := hok.1; omega)
        have d2 : decide ((126 : Int) < ((s[q]).toNat : Int)) = false := decide_eq_false (by have := hok.2; omega)
        clear hok
        go_wp2_with fail
        go_roundw
        case rel => exact ⟨q + 1, by go_num, by omega, by first | rfl | trivial⟩
        case measure => simp [intOf]; omega
      · obtain rfl : q = s.size := by omega
        have d0 : decide ((s.size : Int) < (s.size : Int)) = false := decide_eq_false (by omega)
        go_wp2_with fail
        go_ret
        exact ⟨rfl, rfl⟩
  · rw [decide_eq_false hall]
    have HALL := Lib.hid hall
    clear hall
    go_enter Try.func24, Try.ntmps24
    go_wp2_with fail
    go_loopw [6] (fun si wx => ∃ q : Nat, si = .int .i64 q ∧ q ≤ s.size ∧ wx = w ∧ Hid (∀ j, j < q → okB (s.data.toList.getD j 0))) (fun si _ => s.size - (intOf si).toNat)
    case atStart => exact ⟨0, rfl, Nat.zero_le _, rfl, Lib.hid fun j hj => by omega⟩
    case round =>
      obtain ⟨q, rfl, hq, rfl, hJ⟩ := hrel
      by_cases e : q < s.size
      · have d0 : decide ((q : Int) < (s.size : Int)) = true := decide_eq_true (by omega)
        have hqz : (q : Int) < s.size := by omega
        have hby := byte_at s q e
        by_cases e1 : (s[q]).toNat < 32
        · have d1 : decide (((s[q]).toNat : Int) < 32) = true := decide_eq_true (by omega)
          clear hby hJ
          go_wp2_with fail
          go_ret
          exact ⟨rfl, rfl⟩
        have d1 : decide (((s[q]).toNat : Int) < 32) = false := decide_eq_false (by omega)
        by_cases e2 : 126 < (s[q]).toNat
        · have d2 : decide ((126 : Int) < ((s[q]).toNat : Int)) = true := decide_eq_true (by omega)
          clear hby hJ
          go_wp2_with fail
          go_ret
          exact ⟨rfl, rfl⟩
        have d2 : decide ((126 : Int) < ((s[q]).toNat : Int)) = false := decide_eq_false (by omega)
        have HJ2 := Lib.hid (show ∀ j, j < q + 1 → okB (s.data.toList.getD j 0) from fun j hj => by
          by_cases ej : j = q
          · rw [ej, hby]
            exact ⟨by omega, by omega⟩
          · exact hJ.out j (by omega))
        clear hby hJ
        go_wp2_with fail
        go_roundw
        case rel => exact ⟨q + 1, by go_num, by omega, by first | rfl | trivial, HJ2⟩
        case measure => simp [intOf]; omega
      · obtain rfl : q = s.size := by omega
        exfalso
        refine HALL.out fun c hc => ?_
        obtain ⟨j, hj, rfl⟩ := List.getElem_of_mem hc
        have := hJ.out j hj
        rw [List.getD_eq_getElem?_getD, List.getElem?_eq_getElem hj] at this
        exact this
end Go.Proofs.Ytlnopdlpdnengaa
