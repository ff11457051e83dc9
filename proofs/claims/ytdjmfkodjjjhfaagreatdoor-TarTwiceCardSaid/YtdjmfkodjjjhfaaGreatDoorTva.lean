/- paths.Cmp, and that the count of draws never falls in it. Conditions: texts of at most 2^47 bytes. -/
import Derived.Test.YtdjmfkodjjjhfaaGreatDoorPud
namespace Go.Proofs.YtdjmfkodjjjhfaaGreatDoor
open Go.RowKit

/-- A step behind which no fewer draws are counted. -/
def StepN (B : Nat) (ps : List Nat) (w w' : World) : Prop := Step B ps [] w w' ∧ w.drawn ≤ w'.drawn
theorem BelowN.trans {B : Nat} {a b c : World} (h : Below B a b ∧ a.drawn ≤ b.drawn) (k : Below B b c ∧ b.drawn ≤ c.drawn) : Below B a c ∧ a.drawn ≤ c.drawn := ⟨h.1.trans k.1, Nat.le_trans h.2 k.2⟩
set_option maxHeartbeats 1600000 in
set_option maxRecDepth 100000 in
theorem next_drawn (w : World) (g : Nat) (L : List (List UInt8)) (h : Tell w g L) : Calls Tryz.prog 82 #[.pointer (some ⟨g + 1, 0, none⟩), .pointer (some ⟨g, 0, none⟩)] w fun e w' => e = .returned (.tuple #[sv (hdL L), .bool (anyL L)]) ∧ Tell w' g L.tail ∧ StepN g [g, g + 1] w w' := by
  obtain ⟨r, m, hr, hm, rfl, hl⟩ := h
  have c1 : w.cell? ⟨g + 1, 0, none⟩ = some (.bool m) := blk_cell hm 0
  have c0 : w.cell? ⟨g, 0, none⟩ = some (.string (strP r)) := blk_cell hr 0
  cases m
  · have HT : Hid (Tell w g [] ∧ StepN g [g, g + 1] w w) := Lib.hid ⟨⟨r, false, hr, hm, rfl, hl⟩, ⟨Step.refl _ _ _ _, Nat.le_refl _⟩⟩
    clear hr hm
    go_enter Tryz.func82, Tryz.ntmps82
    go_wp2_with fail
    go_ret2
    exact ⟨rfl, HT.out⟩
  · have HC := Lib.hid (cut_any w (strP r) hl)
    have HL := Lib.hid (tcut_len r)
    have HP := Lib.hid (partsL_cut r)
    rw [strP_list] at HC
    generalize cutL r = K at *
    obtain ⟨x, y, b⟩ := K
    dsimp only at HC HL HP
    have HY : Hid (y.length ≤ 140737488355328) := Lib.hid (Nat.le_trans HL.out.2 hl)
    rw [if_pos rfl, HP.out]
    have HR := Lib.hid hr
    have HM := Lib.hid hm
    clear hl HL HP hr hm
    have main : ∀ b' : Bool, b' = b → Calls Tryz.prog 82 #[.pointer (some ⟨g + 1, 0, none⟩), .pointer (some ⟨g, 0, none⟩)] w fun e w' => e = .returned (.tuple #[sv x, .bool true]) ∧ Tell w' g (if b' = true then partsL y else []) ∧ StepN g [g, g + 1] w w' := by
      intro b' hb'
      subst hb'
      cases b'
      all_goals
        go_enter Tryz.func82, Tryz.ntmps82
        go_wp2_with fail
        refine HC.out.mono ?_
        rintro e w1 ⟨rfl, d, rfl⟩
        have f0 : (w.drewN d).frozen? ⟨g, 0, none⟩ = false := blk_frozen HR.out 0
        have k0 : (w.drewN d).cell? ⟨g, 0, none⟩ = some (.string (strP r)) := c0
        have HR1 := Lib.hid (blk_set (show Blk (w.drewN d) g 9 #[sv r] from HR.out) 0 (sv y))
        have HM1 := Lib.hid (blk_far (show Blk (w.drewN d) (g + 1) 4 #[.bool true] from HM.out) (p := ⟨g, 0, none⟩) (Nat.succ_ne_self g) (sv y))
        have f1 : ((w.drewN d).setCell ⟨g, 0, none⟩ (.string (strP y))).frozen? ⟨g + 1, 0, none⟩ = false := blk_frozen HM1.out 0
        have k1 : ((w.drewN d).setCell ⟨g, 0, none⟩ (.string (strP y))).cell? ⟨g + 1, 0, none⟩ = some (.bool true) := blk_cell HM1.out 0
        go_wp2_with fail
        go_ret2
        refine ⟨rfl, ?_, ?_⟩
        · first
          | exact ⟨y, true, blk_far HR1.out (p := ⟨g + 1, 0, none⟩) (Nat.succ_ne_self g).symm _, blk_set HM1.out 0 (.bool true), rfl, HY.out⟩
          | exact ⟨y, false, blk_far HR1.out (p := ⟨g + 1, 0, none⟩) (Nat.succ_ne_self g).symm _, blk_set HM1.out 0 (.bool false), rfl, HY.out⟩
        · exact ⟨(((Step.refl g [g, g + 1] [] w).drewN d).set (p := ⟨g, 0, none⟩) (Nat.le_refl _) (by simp) _).set (p := ⟨g + 1, 0, none⟩) (Nat.le_succ g) (by simp) _, Nat.le_add_right _ _⟩
    exact main b rfl

set_option maxHeartbeats 1600000 in
set_option maxRecDepth 100000 in
theorem teller_drawn (w : World) (s : ByteArray) (hs : s.size ≤ 140737488355328) : Calls Tryz.prog 50 #[.string s] w fun e w' => e = .returned (tellV w.heap.size) ∧ Tell w' w.heap.size (partsL s.data.toList) ∧ w'.heap.size = w.heap.size + 2 ∧ Below w.heap.size w w' ∧ w.drawn ≤ w'.drawn := by
  go_enter Tryz.func50, Tryz.ntmps50
  have hst : Tell ((w.alloc (.cells #[.string s] 9)).alloc (.cells #[.bool true] 4)) w.heap.size (partsL s.data.toList) := by
    have ha := blk_past (blk_new w 9 #[.string s]) (.cells #[.bool true] 4)
    have hb := blk_new (w.alloc (.cells #[.string s] 9)) 4 #[.bool true]
    rw [show (w.alloc (.cells #[.string s] 9)).heap.size = w.heap.size + 1 by simp] at hb
    refine ⟨s.data.toList, true, ?_, hb, rfl, hs⟩
    unfold sv
    rw [strP_self]
    exact ha
  have HST := Lib.hid hst
  have HB : Hid (Below w.heap.size w ((w.alloc (.cells #[.string s] 9)).alloc (.cells #[.bool true] 4))) := Lib.hid (((Below.refl _ w).alloc (Nat.le_refl _) _).alloc (by simp) _)
  clear hst
  go_wp2_with fail
  go_ret
  exact ⟨rfl, HST.out, by simp, HB.out, Nat.le_refl _⟩

theorem next_nil (w : World) (g : Nat) (h : Tell w g []) : Calls Tryz.prog 82 #[.pointer (some ⟨g + 1, 0, none⟩), .pointer (some ⟨g, 0, none⟩)] w fun e w' => e = .returned (.tuple #[.string ⟨#[]⟩, .bool false]) ∧ Tell w' g [] ∧ StepN g [g, g + 1] w w' := next_drawn w g [] h
theorem next_cons (w : World) (g : Nat) (p : List UInt8) (L : List (List UInt8)) (h : Tell w g (p :: L)) : Calls Tryz.prog 82 #[.pointer (some ⟨g + 1, 0, none⟩), .pointer (some ⟨g, 0, none⟩)] w fun e w' => e = .returned (.tuple #[.string (strP p), .bool true]) ∧ Tell w' g L ∧ StepN g [g, g + 1] w w' := next_drawn w g (p :: L) h
set_option maxRecDepth 100000 in
theorem bytes_cmp : ∀ x y : List UInt8, Lib.compareBytes x y = if x < y then -1 else if y < x then 1 else 0
  | [], [] => by simp [Lib.compareBytes]
  | [], _ :: _ => by simp [Lib.compareBytes]
  | _ :: _, [] => by simp [Lib.compareBytes]
  | a :: x, b :: y => by
    rw [Lib.compareBytes, bytes_cmp x y]
    by_cases e : a < b
    · rw [if_pos e, if_pos (List.cons_lt_cons_iff.2 (.inl e))]
    · rw [if_neg e]
      by_cases e2 : b < a
      · rw [if_pos e2, if_neg ?_, if_pos (List.cons_lt_cons_iff.2 (.inl e2))]
        intro h
        rcases List.cons_lt_cons_iff.1 h with h | h
        · exact e h
        · exact absurd e2 (by rw [h.1]; exact UInt8.lt_irrefl _)
      · have hab : a = b := UInt8.le_antisymm (UInt8.not_lt.1 e2) (UInt8.not_lt.1 e)
        subst hab
        rw [if_neg e]
        simp only [List.cons_lt_cons_iff, e, false_or, true_and]

set_option maxHeartbeats 3200000 in
set_option maxRecDepth 100000 in
theorem ccmp_drawn (w : World) (a b : ByteArray) (ha : a.size ≤ 140737488355328) (hb : b.size ≤ 140737488355328) : Calls Tryz.prog 25 #[.string a, .string b] w fun e w' => e = .returned (.int .i64 (cmpL a.data.toList b.data.toList)) ∧ Below w.heap.size w w' ∧ w.drawn ≤ w'.drawn := by
  have HA := Lib.hid (teller_drawn w a ha)
  have HBT := Lib.hid fun wx => teller_drawn wx b hb
  unfold cmpL
  generalize partsL a.data.toList = X0 at *
  generalize partsL b.data.toList = Y0 at *
  have HP : Hid (∀ (k : Int) (w' : World), k = cmpF X0 Y0 → Below w.heap.size w w' ∧ w.drawn ≤ w'.drawn → (fun e w' => e = Ending.returned (.int .i64 (cmpF X0 Y0)) ∧ Below w.heap.size w w' ∧ w.drawn ≤ w'.drawn) (.returned (.int .i64 k)) w') := Lib.hid fun k w' h hb => ⟨by rw [h], hb⟩
  generalize (fun e w' => e = Ending.returned (.int .i64 (cmpF X0 Y0)) ∧ Below w.heap.size w w' ∧ w.drawn ≤ w'.drawn) = PO at *
  obtain ⟨K0, hK0⟩ : ∃ K0, cmpF X0 Y0 = K0 := ⟨_, rfl⟩
  rw [hK0] at HP
  have HK0 := Lib.hid hK0
  obtain ⟨g, hg⟩ : ∃ g, g = w.heap.size := ⟨_, rfl⟩
  have HG := Lib.hid hg
  rw [← hg] at HA
  clear hK0 hg ha hb
  go_enter Tryz.func25, Tryz.ntmps25
  go_wp2_with fail
  refine HA.out.mono ?_
  rintro e w1 ⟨rfl, ht1, hz1, hb1, hn1⟩
  have HN1 := Lib.hid hn1
  have HT1 := Lib.hid ht1
  have HB1 := Lib.hid hb1
  have hbt := HBT.out w1
  rw [hz1] at hbt
  have HY := Lib.hid hbt
  have HZ1 := Lib.hid hz1
  clear ht1 hz1 hb1 hbt hn1
  go_wp2_with fail
  refine HY.out.mono ?_
  rintro e w2 ⟨rfl, ht2, hz2, hb2, hn2⟩
  have HI : Hid (Tell w2 g X0 ∧ Tell w2 (g + 2) Y0 ∧ cmpF X0 Y0 = K0) := Lib.hid ⟨by
    rw [← HZ1.out] at hb2
    exact HT1.out.step (step_of_below hb2) List.not_mem_nil List.not_mem_nil, ht2, HK0.out⟩
  have HB2 : Hid (Below w.heap.size w w2 ∧ w.drawn ≤ w2.drawn) := Lib.hid ⟨by
    rw [← HG.out]
    exact HB1.out.trans (hb2.mono (by omega)), Nat.le_trans HN1.out hn2⟩
  clear ht2 hz2 hb2 HT1 HB1 HY hn2
  go_wp2_with fail
  go_loopw [7] (fun _ wx => ∃ (X Y : List (List UInt8)), (Below w.heap.size w wx ∧ w.drawn ≤ wx.drawn) ∧
    Hid (Tell wx g X ∧ Tell wx (g + 2) Y ∧ cmpF X Y = K0)) (fun _ wx => leftOf wx g)
  case atStart => exact ⟨X0, Y0, HB2.out, HI⟩
  case round =>
    obtain ⟨X, Y, hbx, hJ⟩ := hrel
    have HBX := Lib.hid hbx
    obtain ⟨hx, hy, hk⟩ := hJ.out
    have HLX := Lib.hid (left_is hx)
    have hap : ∀ wa, StepN g [g, g + 1] wr wa → Tell wa (g + 2) Y := fun wa hs => hy.step hs.1 (by rw [List.mem_cons, List.mem_singleton]; omega) (by rw [List.mem_cons, List.mem_singleton]; omega)
    have HAP := Lib.hid hap
    have HBA : Hid (∀ wa wb, StepN g [g, g + 1] wr wa → StepN (g + 2) [g + 2, g + 2 + 1] wa wb → Below w.heap.size w wb ∧ w.drawn ≤ wb.drawn) := Lib.hid fun wa wb h1 h2 => by
      refine BelowN.trans HBX.out ?_
      rw [← HG.out]
      exact ⟨h1.1.below.trans (h2.1.below.mono (by omega)), Nat.le_trans h1.2 h2.2⟩
    clear hbx hJ hap hy
    rcases X with _ | ⟨x, X⟩
    · have HN := Lib.hid (next_nil wr g hx)
      clear hx
      rcases Y with _ | ⟨y, Y⟩
      · have HPK := Lib.hid (HP.out 0 · hk)
        clear hk
        go_wp2_with fail
        refine HN.out.mono ?_
        rintro e wa ⟨rfl, hxa, hsa⟩
        have HM := Lib.hid (next_nil wa (g + 2) (HAP.out wa hsa))
        have HSA := Lib.hid hsa
        clear hxa hsa
        go_wp2_with fail
        refine HM.out.mono ?_
        rintro e wb ⟨rfl, hyb, hsb⟩
        have HF := Lib.hid (HPK.out wb (HBA.out wa wb HSA.out hsb))
        clear hyb hsb
        go_wp2_with fail
        exact HF.out
      · have HPK := Lib.hid (HP.out (-1) · hk)
        clear hk
        go_wp2_with fail
        refine HN.out.mono ?_
        rintro e wa ⟨rfl, hxa, hsa⟩
        have HM := Lib.hid (next_cons wa (g + 2) y Y (HAP.out wa hsa))
        have HSA := Lib.hid hsa
        clear hxa hsa
        go_wp2_with fail
        refine HM.out.mono ?_
        rintro e wb ⟨rfl, hyb, hsb⟩
        have HF := Lib.hid (HPK.out wb (HBA.out wa wb HSA.out hsb))
        clear hyb hsb
        go_wp2_with fail
        exact HF.out
    · have HN := Lib.hid (next_cons wr g x X hx)
      clear hx
      rcases Y with _ | ⟨y, Y⟩
      · have HPK := Lib.hid (HP.out 1 · hk)
        clear hk
        go_wp2_with fail
        refine HN.out.mono ?_
        rintro e wa ⟨rfl, hxa, hsa⟩
        have HM := Lib.hid (next_nil wa (g + 2) (HAP.out wa hsa))
        have HSA := Lib.hid hsa
        clear hxa hsa
        go_wp2_with fail
        refine HM.out.mono ?_
        rintro e wb ⟨rfl, hyb, hsb⟩
        have HF := Lib.hid (HPK.out wb (HBA.out wa wb HSA.out hsb))
        clear hyb hsb
        go_wp2_with fail
        exact HF.out
      · rw [cmpF_more] at hk
        have HCM := Lib.hid fun wx => strcmp_any wx (strP x) (strP y)
        rw [strP_list, strP_list, bytes_cmp] at HCM
        by_cases e1 : x < y
        · rw [if_pos e1] at hk HCM
          have HPK := Lib.hid (HP.out (-1) · hk)
          clear hk e1
          go_wp2_with fail
          refine HN.out.mono ?_
          rintro e wa ⟨rfl, hxa, hsa⟩
          have HM := Lib.hid (next_cons wa (g + 2) y Y (HAP.out wa hsa))
          have HSA := Lib.hid hsa
          clear hxa hsa
          go_wp2_with fail
          refine HM.out.mono ?_
          rintro e wb ⟨rfl, hyb, hsb⟩
          have HF := Lib.hid (HPK.out wb (HBA.out wa wb HSA.out hsb))
          clear hyb hsb
          go_wp2_with fail
          refine (HCM.out wb).mono ?_
          rintro e wb ⟨rfl, rfl⟩
          go_wp2_with fail
          exact HF.out
        rw [if_neg e1] at hk HCM
        by_cases e2 : y < x
        · rw [if_pos e2] at hk HCM
          have HPK := Lib.hid (HP.out 1 · hk)
          clear hk e1 e2
          go_wp2_with fail
          refine HN.out.mono ?_
          rintro e wa ⟨rfl, hxa, hsa⟩
          have HM := Lib.hid (next_cons wa (g + 2) y Y (HAP.out wa hsa))
          have HSA := Lib.hid hsa
          clear hxa hsa
          go_wp2_with fail
          refine HM.out.mono ?_
          rintro e wb ⟨rfl, hyb, hsb⟩
          have HF := Lib.hid (HPK.out wb (HBA.out wa wb HSA.out hsb))
          clear hyb hsb
          go_wp2_with fail
          refine (HCM.out wb).mono ?_
          rintro e wb ⟨rfl, rfl⟩
          go_wp2_with fail
          exact HF.out
        rw [if_neg e2] at hk HCM
        have HK := Lib.hid hk
        clear hk e1 e2
        go_wp2_with fail
        refine HN.out.mono ?_
        rintro e wa ⟨rfl, hxa, hsa⟩
        have HM := Lib.hid (next_cons wa (g + 2) y Y (HAP.out wa hsa))
        have HSA := Lib.hid hsa
        have HXA := Lib.hid hxa
        clear hxa hsa
        go_wp2_with fail
        refine HM.out.mono ?_
        rintro e wb ⟨rfl, hyb, hsb⟩
        have HBB := Lib.hid (HBA.out wa wb HSA.out hsb)
        have HXB := Lib.hid (HXA.out.step hsb.1 (by rw [List.mem_cons, List.mem_singleton]; omega) (by rw [List.mem_cons, List.mem_singleton]; omega))
        have HLB := Lib.hid (left_is HXB.out)
        have HJB := Lib.hid (show Tell wb g X ∧ Tell wb (g + 2) Y ∧ cmpF X Y = K0 from ⟨HXB.out, hyb, HK.out⟩)
        clear hyb hsb
        go_wp2_with fail
        refine (HCM.out wb).mono ?_
        rintro e wb ⟨rfl, rfl⟩
        go_wp2_with fail
        go_roundw
        case rel => exact ⟨X, Y, HBB.out, HJB⟩
        case measure =>
          rw [HLX.out, HLB.out]
          exact Nat.lt_succ_self _
theorem ccmp_any (w : World) (a b : ByteArray) (ha : a.size ≤ 140737488355328) (hb : b.size ≤ 140737488355328) : Calls Tryz.prog 25 #[.string a, .string b] w fun e w' => e = .returned (.int .i64 (cmpL a.data.toList b.data.toList)) ∧ Below w.heap.size w w' :=
  (ccmp_drawn w a b ha hb).mono fun _ _ h => ⟨h.1, h.2.1⟩
end Go.Proofs.YtdjmfkodjjjhfaaGreatDoor
