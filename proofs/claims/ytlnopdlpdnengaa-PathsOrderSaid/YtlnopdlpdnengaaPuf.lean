/- paths.Cmp. Conditions: texts of at most 2^47 bytes. -/
import Derived.Test.YtlnopdlpdnengaaPuc
namespace Go.Proofs.Ytlnopdlpdnengaa
open Go.RowKit

theorem next_nil (w : World) (g : Nat) (h : Tell w g []) : Calls Try.prog 29 #[.pointer (some ⟨g + 1, 0, none⟩), .pointer (some ⟨g, 0, none⟩)] w fun e w' => e = .returned (.tuple #[.string ⟨#[]⟩, .bool false]) ∧ Tell w' g [] ∧ Step g [g, g + 1] [] w w' := next_any w g [] h
theorem next_cons (w : World) (g : Nat) (p : List UInt8) (L : List (List UInt8)) (h : Tell w g (p :: L)) : Calls Try.prog 29 #[.pointer (some ⟨g + 1, 0, none⟩), .pointer (some ⟨g, 0, none⟩)] w fun e w' => e = .returned (.tuple #[.string (strP p), .bool true]) ∧ Tell w' g L ∧ Step g [g, g + 1] [] w w' := next_any w g (p :: L) h
set_option maxRecDepth 100000 in
theorem bytes_cmp : ∀ x y : List UInt8, Lib.compareBytes x y = if x < y then -1 else if y < x then 1 else 0
  | [], [] => by simp [Lib.compareBytes]
  | [], _ :: _ => by simp [Lib.compareBytes]
  | _ :: _, [] => by simp [Lib.compareBytes]
  | a :: x, b :: y => by
    rw [Lib.compareBytes, bytes_cmp x y]
    by_cases e : a < b
    · rw [if_pos e, if_pos (List.cons_lt_cons_iff.2 (.inl e))]
    · rw [if_neg e]
      by_cases e2 : b < a
      · rw [if_pos e2, if_neg ?_, if_pos (List.cons_lt_cons_iff.2 (.inl e2))]
        intro h
        rcases List.cons_lt_cons_iff.1 h with h | h
        · exact e h
        · exact absurd e2 (by rw [h.1]; exact UInt8.lt_irrefl _)
      · have hab : a = b := UInt8.le_antisymm (UInt8.not_lt.1 e2) (UInt8.not_lt.1 e)
        subst hab
        rw [if_neg e]
        simp only [List.cons_lt_cons_iff, e, false_or, true_and]

set_option maxHeartbeats 3200000 in
set_option maxRecDepth 100000 in
theorem ccmp_any (w : World) (a b : ByteArray) (ha : a.size ≤ 140737488355328) (hb : b.size ≤ 140737488355328) : Calls Try.prog 17 #[.string a, .string b] w fun e w' => e = .returned (.int .i64 (cmpL a.data.toList b.data.toList)) ∧ Below w.heap.size w w' := by
  have HA := Lib.hid (teller_any w a ha)
  have HBT := Lib.hid fun wx => teller_any wx b hb
  unfold cmpL
  generalize partsL a.data.toList = X0 at *
  generalize partsL b.data.toList = Y0 at *
  have HP : Hid (∀ (k : Int) (w' : World), k = cmpF X0 Y0 → Below w.heap.size w w' → (fun e w' => e = Ending.returned (.int .i64 (cmpF X0 Y0)) ∧ Below w.heap.size w w') (.returned (.int .i64 k)) w') := Lib.hid fun k w' h hb => ⟨by rw [h], hb⟩
  generalize (fun e w' => e = Ending.returned (.int .i64 (cmpF X0 Y0)) ∧ Below w.heap.size w w') = PO at *
  obtain ⟨K0, hK0⟩ : ∃ K0, cmpF X0 Y0 = K0 := ⟨_, rfl⟩
  rw [hK0] at HP
  have HK0 := Lib.hid hK0
  obtain ⟨g, hg⟩ : ∃ g, g = w.heap.size := ⟨_, rfl⟩
  have HG := Lib.hid hg
  rw [← hg] at HA
  clear hK0 hg ha hb
  go_enter Try.func17, Try.ntmps17
  go_wp2_with fail
  refine HA.out.mono ?_
  rintro e w1 ⟨rfl, ht1, hz1, hb1⟩
  have HT1 := Lib.hid ht1
  have HB1 := Lib.hid hb1
  have hbt := HBT.out w1
  rw [hz1] at hbt
  have HY := Lib.hid hbt
  have HZ1 := Lib.hid hz1
  clear ht1 hz1 hb1 hbt
  go_wp2_with fail
  refine HY.out.mono ?_
  rintro e w2 ⟨rfl, ht2, hz2, hb2⟩
  have HI : Hid (Tell w2 g X0 ∧ Tell w2 (g + 2) Y0 ∧ cmpF X0 Y0 = K0) := Lib.hid ⟨by
    rw [← HZ1.out] at hb2
    exact HT1.out.step (step_of_below hb2) List.not_mem_nil List.not_mem_nil, ht2, HK0.out⟩
  have HB2 : Hid (Below w.heap.size w w2) := Lib.hid (by
    rw [← HG.out]
    exact HB1.out.trans (hb2.mono (by omega)))
  clear ht2 hz2 hb2 HT1 HB1 HY
  go_wp2_with fail
  go_loopw [7] (fun _ wx => ∃ (X Y : List (List UInt8)), Below w.heap.size w wx ∧
    Hid (Tell wx g X ∧ Tell wx (g + 2) Y ∧ cmpF X Y = K0)) (fun _ wx => leftOf wx g)
  case atStart => exact ⟨X0, Y0, HB2.out, HI⟩
  case round =>
    obtain ⟨X, Y, hbx, hJ⟩ := hrel
    have HBX := Lib.hid hbx
    obtain ⟨hx, hy, hk⟩ := hJ.out
    have HLX := Lib.hid (left_is hx)
    have hap : ∀ wa, Step g [g, g + 1] [] wr wa → Tell wa (g + 2) Y := fun wa hs => hy.step hs (by rw [List.mem_cons, List.mem_singleton]; omega) (by rw [List.mem_cons, List.mem_singleton]; omega)
    have HAP := Lib.hid hap
    have HBA : Hid (∀ wa wb, Step g [g, g + 1] [] wr wa → Step (g + 2) [g + 2, g + 2 + 1] [] wa wb → Below w.heap.size w wb) := Lib.hid fun wa wb h1 h2 => by
      refine HBX.out.trans ?_
      rw [← HG.out]
      exact h1.below.trans (h2.below.mono (by omega))
    clear hbx hJ hap hy
    rcases X with _ | ⟨x, X⟩
    · have HN := Lib.hid (next_nil wr g hx)
      clear hx
      rcases Y with _ | ⟨y, Y⟩
      · have HPK := Lib.hid (HP.out 0 · hk)
        clear hk
        go_wp2_with fail
        refine HN.out.mono ?_
        rintro e wa ⟨rfl, hxa, hsa⟩
        have HM := Lib.hid (next_nil wa (g + 2) (HAP.out wa hsa))
        have HSA := Lib.hid hsa
        clear hxa hsa
        go_wp2_with fail
        refine HM.out.mono ?_
        rintro e wb ⟨rfl, hyb, hsb⟩
        have HF := Lib.hid (HPK.out wb (HBA.out wa wb HSA.out hsb))
        clear hyb hsb
        go_wp2_with fail
        exact HF.out
      · have HPK := Lib.hid (HP.out (-1) · hk)
        clear hk
        go_wp2_with fail
        refine HN.out.mono ?_
        rintro e wa ⟨rfl, hxa, hsa⟩
        have HM := Lib.hid (next_cons wa (g + 2) y Y (HAP.out wa hsa))
        have HSA := Lib.hid hsa
        clear hxa hsa
        go_wp2_with fail
        refine HM.out.mono ?_
        rintro e wb ⟨rfl, hyb, hsb⟩
        have HF := Lib.hid (HPK.out wb (HBA.out wa wb HSA.out hsb))
        clear hyb hsb
        go_wp2_with fail
        exact HF.out
    · have HN := Lib.hid (next_cons wr g x X hx)
      clear hx
      rcases Y with _ | ⟨y, Y⟩
      · have HPK := Lib.hid (HP.out 1 · hk)
        clear hk
        go_wp2_with fail
        refine HN.out.mono ?_
        rintro e wa ⟨rfl, hxa, hsa⟩
        have HM := Lib.hid (next_nil wa (g + 2) (HAP.out wa hsa))
        have HSA := Lib.hid hsa
        clear hxa hsa
        go_wp2_with fail
        refine HM.out.mono ?_
        rintro e wb ⟨rfl, hyb, hsb⟩
        have HF := Lib.hid (HPK.out wb (HBA.out wa wb HSA.out hsb))
        clear hyb hsb
        go_wp2_with fail
        exact HF.out
      · rw [cmpF_more] at hk
        have HCM := Lib.hid fun wx => strcmp_any wx (strP x) (strP y)
        rw [strP_list, strP_list, bytes_cmp] at HCM
        by_cases e1 : x < y
        · rw [if_pos e1] at hk HCM
          have HPK := Lib.hid (HP.out (-1) · hk)
          clear hk e1
          go_wp2_with fail
          refine HN.out.mono ?_
          rintro e wa ⟨rfl, hxa, hsa⟩
          have HM := Lib.hid (next_cons wa (g + 2) y Y (HAP.out wa hsa))
          have HSA := Lib.hid hsa
          clear hxa hsa
          go_wp2_with fail
          refine HM.out.mono ?_
          rintro e wb ⟨rfl, hyb, hsb⟩
          have HF := Lib.hid (HPK.out wb (HBA.out wa wb HSA.out hsb))
          clear hyb hsb
          go_wp2_with fail
          refine (HCM.out wb).mono ?_
          rintro e wb ⟨rfl, rfl⟩
          go_wp2_with fail
          exact HF.out
        rw [if_neg e1] at hk HCM
        by_cases e2 : y < x
        · rw [if_pos e2] at hk HCM
          have HPK := Lib.hid (HP.out 1 · hk)
          clear hk e1 e2
          go_wp2_with fail
          refine HN.out.mono ?_
          rintro e wa ⟨rfl, hxa, hsa⟩
          have HM := Lib.hid (next_cons wa (g + 2) y Y (HAP.out wa hsa))
          have HSA := Lib.hid hsa
          clear hxa hsa
          go_wp2_with fail
          refine HM.out.mono ?_
          rintro e wb ⟨rfl, hyb, hsb⟩
          have HF := Lib.hid (HPK.out wb (HBA.out wa wb HSA.out hsb))
          clear hyb hsb
          go_wp2_with fail
          refine (HCM.out wb).mono ?_
          rintro e wb ⟨rfl, rfl⟩
          go_wp2_with fail
          exact HF.out
        rw [if_neg e2] at hk HCM
        have HK := Lib.hid hk
        clear hk e1 e2
        go_wp2_with fail
        refine HN.out.mono ?_
        rintro e wa ⟨rfl, hxa, hsa⟩
        have HM := Lib.hid (next_cons wa (g + 2) y Y (HAP.out wa hsa))
        have HSA := Lib.hid hsa
        have HXA := Lib.hid hxa
        clear hxa hsa
        go_wp2_with fail
        refine HM.out.mono ?_
        rintro e wb ⟨rfl, hyb, hsb⟩
        have HBB := Lib.hid (HBA.out wa wb HSA.out hsb)
        have HXB := Lib.hid (HXA.out.step hsb (by rw [List.mem_cons, List.mem_singleton]; omega) (by rw [List.mem_cons, List.mem_singleton]; omega))
        have HLB := Lib.hid (left_is HXB.out)
        have HJB := Lib.hid (show Tell wb g X ∧ Tell wb (g + 2) Y ∧ cmpF X Y = K0 from ⟨HXB.out, hyb, HK.out⟩)
        clear hyb hsb
        go_wp2_with fail
        refine (HCM.out wb).mono ?_
        rintro e wb ⟨rfl, rfl⟩
        go_wp2_with fail
        go_roundw
        case rel => exact ⟨X, Y, HBB.out, HJB⟩
        case measure =>
          rw [HLX.out, HLB.out]
          exact Nat.lt_succ_self _
end Go.Proofs.Ytlnopdlpdnengaa
