/- The reference of paths: Cmp, Split, Under. Conditions: for Cmp texts of at most a million bytes. Written ahead of stage 14. -/
import Derived.Test.YtlnopdlpdnengaaPtc
namespace Go.Proofs.Ytlnopdlpdnengaa
open Go.RowKit

theorem cmpF_step (X Y : List (List UInt8)) (q : Nat) (hx : q < X.length) (hy : q < Y.length) : cmpF (X.drop q) (Y.drop q) = if X.getD q [] < Y.getD q [] then -1 else if Y.getD q [] < X.getD q [] then 1 else cmpF (X.drop (q + 1)) (Y.drop (q + 1)) := by
  rw [list_drop X q hx, list_drop Y q hy, cmpF]
theorem SLn.drewN {w : World} {A : Option Addr} {n : Nat} {L : List (List UInt8)} (h : SLn w A n L) (k : Nat) : SLn (w.drewN k) A n L := h

set_option maxHeartbeats 3200000 in
set_option maxRecDepth 100000 in
theorem rcmpp_any (w : World) (a b : ByteArray) (ha : a.size ≤ 1000000) (hb : b.size ≤ 1000000) : Calls Try.prog 18 #[.string a, .string b] w fun e w' => e = .returned (.int .i64 (cmpL a.data.toList b.data.toList)) ∧ Below w.heap.size w w' := by
  have HPA := Lib.hid (rparts_any w a ha)
  have HPB := Lib.hid fun wx => rparts_any wx b hb
  have hxl := partsF_len a.data.toList []
  have hyl := partsF_len b.data.toList []
  have hla : a.data.toList.length = a.size := rfl
  have hlb : b.data.toList.length = b.size := rfl
  have HP : Hid (∀ (k : Int) (w' : World), cmpL a.data.toList b.data.toList = k → Below w.heap.size w w' → (fun e w' => e = Ending.returned (.int .i64 (cmpL a.data.toList b.data.toList)) ∧ Below w.heap.size w w') (.returned (.int .i64 k)) w') := Lib.hid fun k w' h hb => ⟨by rw [h], hb⟩
  generalize (fun e w' => e = Ending.returned (.int .i64 (cmpL a.data.toList b.data.toList)) ∧ Below w.heap.size w w') = PO at *
  have hdef : cmpL a.data.toList b.data.toList = cmpF (partsL a.data.toList) (partsL b.data.toList) := rfl
  rw [hdef] at HP
  obtain ⟨X, hX⟩ : ∃ X, X = partsL a.data.toList := ⟨_, rfl⟩
  obtain ⟨Y, hY⟩ : ∃ Y, Y = partsL b.data.toList := ⟨_, rfl⟩
  have hxl : X.length ≤ 1000001 := by rw [hX]; unfold partsL; omega
  have hyl : Y.length ≤ 1000001 := by rw [hY]; unfold partsL; omega
  rw [← hX, ← hY] at HP
  rw [← hX] at HPA
  rw [← hY] at HPB
  clear hdef hX hY hla hlb ha hb
  go_enter Try.func18, Try.ntmps18
  go_wp2_with fail
  refine HPA.out.mono ?_
  rintro e w2 ⟨A, n, c, rfl, hnc, hcm, hsx, hb2⟩
  have HSX := Lib.hid hsx
  have HB2 := Lib.hid hb2
  have hn : n ≤ 1000001 := by rw [← hsx.1]; exact hxl
  have HLX := Lib.hid hsx.1
  unfold maxLen at hcm
  clear hsx hb2 HPA
  go_wp2_with fail
  refine (HPB.out w2).mono ?_
  rintro e w3 ⟨B, m, d, rfl, hmd, hdm, hsy, hb3⟩
  have HSX3 := Lib.hid (HSX.out.below hb3)
  have HSY := Lib.hid hsy
  have HB3 := Lib.hid (HB2.out.trans (hb3.mono HB2.out.size))
  have hm : m ≤ 1000001 := by rw [← hsy.1]; exact hyl
  have HLY := Lib.hid hsy.1
  unfold maxLen at hdm
  clear hsy hb3 HPB HSX HB2 hxl hyl
  go_wp2_with fail
  go_loopw [7] (fun si wx => ∃ q : Nat, si = .int .i64 q ∧ q ≤ n ∧ q ≤ m ∧ (∃ j, wx = w3.drewN j) ∧ Hid (cmpF (X.drop q) (Y.drop q) = cmpF X Y)) (fun si _ => n - (intOf si).toNat)
  case atStart => exact ⟨0, rfl, Nat.zero_le _, Nat.zero_le _, ⟨0, rfl⟩, Lib.hid rfl⟩
  case round =>
    obtain ⟨q, rfl, hqn, hqm, ⟨j, rfl⟩, hJ⟩ := hrel
    have HBJ := Lib.hid (below_drewN HB3.out j)
    have HSXJ := Lib.hid (HSX3.out.drewN j)
    have HSYJ := Lib.hid (HSY.out.drewN j)
    generalize hwj : w3.drewN j = w4 at *
    have HWJ := Lib.hid hwj
    clear hwj
    by_cases e1 : q < n
    · have d1 : decide ((q : Int) < (n : Int)) = true := decide_eq_true (by omega)
      by_cases e2 : q < m
      · have d2 : decide ((q : Int) < (m : Int)) = true := decide_eq_true (by omega)
        obtain ⟨b1, o1, rfl, hc1⟩ := HSXJ.out.2 (by omega)
        obtain ⟨b2, o2, rfl, hc2⟩ := HSYJ.out.2 (by omega)
        have c1 := hc1 q e1
        have c2 := hc2 q e2
        have hst := cmpF_step X Y q (by rw [HLX.out]; exact e1) (by rw [HLY.out]; exact e2)
        rw [hJ.out] at hst
        obtain ⟨x, hx⟩ : ∃ x, x = X.getD q [] := ⟨_, rfl⟩
        obtain ⟨y, hy⟩ : ∃ y, y = Y.getD q [] := ⟨_, rfl⟩
        rw [← hx] at c1 hst
        rw [← hy] at c2 hst
        have l1 := less_text (strP x) (strP y)
        have l2 := less_text (strP y) (strP x)
        have l3 := same_text (strP x) (strP y)
        rw [strP_list, strP_list] at l1 l2 l3
        unfold sv at c1 c2
        have HST := Lib.hid hst
        clear hc1 hc2 hJ hst hx hy
        by_cases e3 : x < y
        · rw [decide_eq_true e3] at l1
          have HF := Lib.hid fun w' (hb : Below w.heap.size w w') => HP.out (-1) w' (by rw [HST.out, if_pos e3]) hb
          generalize strP x = sx at *
          generalize strP y = sy at *
          clear e3 HST HP
          go_wp2_with fail
          go_region
          go_wp2_with fail
          exact HF.out _ HBJ.out.drew
        · rw [decide_eq_false e3] at l1
          by_cases e4 : y < x
          · rw [decide_eq_true e4] at l2
            rw [decide_eq_false (fun h : x = y => by rw [h] at e4; exact absurd e4 (List.lt_irrefl _))] at l3
            have HF := Lib.hid fun w' (hb : Below w.heap.size w w') => HP.out 1 w' (by rw [HST.out, if_neg e3, if_pos e4]) hb
            generalize strP x = sx at *
            generalize strP y = sy at *
            clear e3 e4 HST HP
            go_wp2_with fail
            go_region
            go_wp2_with fail
            go_region
            go_wp2_with fail
            exact HF.out _ HBJ.out.drew.drew
          · rw [decide_eq_false e4] at l2
            rw [decide_eq_true (List.le_antisymm (List.not_lt.1 e4) (List.not_lt.1 e3))] at l3
            have HJ2 := Lib.hid (show cmpF (X.drop (q + 1)) (Y.drop (q + 1)) = cmpF X Y by rw [HST.out, if_neg e3, if_neg e4])
            generalize strP x = sx at *
            generalize strP y = sy at *
            clear e3 e4 HST
            go_wp2_with fail
            go_region
            go_wp2_with fail
            go_region
            go_wp2_with fail
            go_roundw
            case rel => exact ⟨q + 1, by go_num, by omega, by omega, ⟨j + 2, by rw [← HWJ.out]; rfl⟩, HJ2⟩
            case measure => simp [intOf]; omega
      · obtain rfl : q = m := by omega
        have d2 : decide ((q : Int) < (q : Int)) = false := decide_eq_false (by omega)
        have d2n : ¬ q < q := e2
        have d3 : decide ((n : Int) < (q : Int)) = false := decide_eq_false (by omega)
        have d4 : decide ((q : Int) < (n : Int)) = true := d1
        have hj := hJ.out
        rw [list_drop X q (by rw [HLX.out]; exact e1), List.drop_of_length_le (l := Y) (by rw [HLY.out]; exact Nat.le_refl _), cmpF] at hj
        have HF := Lib.hid (HP.out 1 w4 hj.symm HBJ.out)
        have d3n : ¬ n < q := by omega
        clear hj hJ
        go_wp2_with fail
        exact HF.out
    · obtain rfl : q = n := by omega
      have d1 : decide ((q : Int) < (q : Int)) = false := decide_eq_false (by omega)
      have hj := hJ.out
      rw [List.drop_of_length_le (l := X) (by rw [HLX.out]; exact Nat.le_refl _)] at hj
      by_cases e2 : q < m
      · have d2 : decide ((q : Int) < (m : Int)) = true := decide_eq_true (by omega)
        rw [list_drop Y q (by rw [HLY.out]; exact e2), cmpF] at hj
        have HF := Lib.hid (HP.out (-1) w4 hj.symm HBJ.out)
        clear hj hJ
        go_wp2_with fail
        exact HF.out
      · obtain rfl : q = m := by omega
        rw [List.drop_of_length_le (l := Y) (by rw [HLY.out]; exact Nat.le_refl _), cmpF] at hj
        have HF := Lib.hid (HP.out 0 w4 hj.symm HBJ.out)
        clear hj hJ
        go_wp2_with fail
        exact HF.out

theorem extract_take (t : ByteArray) (k : Nat) : t.extract 0 k = strP (t.data.toList.take k) := by
  apply ByteArray.ext
  apply Array.toList_inj.1
  rw [ext_list, List.drop_zero]
  rfl
theorem extract_drop (t : ByteArray) (k : Nat) : t.extract k t.size = strP (t.data.toList.drop k) := by
  apply ByteArray.ext
  apply Array.toList_inj.1
  rw [ext_list, List.take_of_length_le (show t.data.toList.length ≤ t.size from Nat.le_refl _)]
  rfl
set_option maxHeartbeats 1600000 in
set_option maxRecDepth 100000 in
theorem runder_any (w : World) (d p : ByteArray) (hd : d.size ≤ 140737488355328) (_ : p.size ≤ 9223372036854775807) : Calls Try.prog 22 #[.string d, .string p] w fun e w' => e = .returned (.bool (underL d.data.toList p.data.toList)) ∧ w' = w := by
  have hu : underL d.data.toList p.data.toList = decide (d.size + 1 ≤ p.size ∧ p.data.toList.take (d.size + 1) = d.data.toList ++ [47]) := rfl
  have hW : (d ++ (⟨#[47]⟩ : ByteArray)).data.toList = d.data.toList ++ [47] := by simp
  have hex := ext_list p 0 (d.size + 1)
  rw [List.drop_zero] at hex
  have hsm := same_text (p.extract 0 (d.size + 1)) (d ++ (⟨#[47]⟩ : ByteArray))
  rw [hex, hW] at hsm
  rw [hu]
  clear hu hW hex
  by_cases e1 : d.size + 1 ≤ p.size
  · have d1 : decide ((d.size : Int) + 1 ≤ (p.size : Int)) = true := decide_eq_true (by omega)
    have hz1 : (d.size : Int) + 1 ≤ (p.size : Int) := by omega
    by_cases e2 : p.data.toList.take (d.size + 1) = d.data.toList ++ [47]
    · rw [decide_eq_true ⟨e1, e2⟩]
      rw [decide_eq_true e2] at hsm
      have HSM := Lib.hid hsm
      clear e2
      go_enter Try.func22, Try.ntmps22
      go_wp2_with fail
      go_ret
      exact ⟨by first | rfl | exact congrArg (fun x => Ending.returned (Value.bool x)) HSM.out, rfl⟩
    · rw [decide_eq_false fun h => e2 h.2]
      rw [decide_eq_false e2] at hsm
      have HSM := Lib.hid hsm
      clear e2
      go_enter Try.func22, Try.ntmps22
      go_wp2_with fail
      go_ret
      exact ⟨by first | rfl | exact congrArg (fun x => Ending.returned (Value.bool x)) HSM.out, rfl⟩
  · have d1 : decide ((d.size : Int) + 1 ≤ (p.size : Int)) = false := decide_eq_false (by omega)
    rw [decide_eq_false fun h => e1 h.1]
    clear hsm
    go_enter Try.func22, Try.ntmps22
    go_wp2_with fail
    go_ret
    exact ⟨rfl, rfl⟩

theorem splitF_no {p : List UInt8} {k i : Nat} (h : ¬ okAt p i) : splitF p (k + 1) i = splitF p k (i + 1) := if_neg h
theorem splitF_yes {p : List UInt8} {k i : Nat} (h : okAt p i) : splitF p (k + 1) i = (p.take i, p.drop (i + 1), true) := if_pos h
set_option maxHeartbeats 3200000 in
set_option maxRecDepth 100000 in
theorem rsplit_any (w : World) (p : ByteArray) (hp : p.size ≤ 9223372036854775807) : Calls Try.prog 20 #[.string p] w fun e w' => e = .returned (.tuple #[.string (strP (splitL p.data.toList).1), .string (strP (splitL p.data.toList).2.1), .bool (splitL p.data.toList).2.2]) ∧ Below w.heap.size w w' := by
  have hlp : p.data.toList.length = p.size := rfl
  have hself := strP_self p
  have hsp : splitL p.data.toList = if p.size ≤ 100 then ([], p.data.toList, true) else splitF p.data.toList p.size 0 := rfl
  have HP : Hid (∀ (x y : List UInt8) (b : Bool) (w' : World), splitL p.data.toList = (x, y, b) → Below w.heap.size w w' → (fun e w' => e = Ending.returned (.tuple #[.string (strP (splitL p.data.toList).1), .string (strP (splitL p.data.toList).2.1), .bool (splitL p.data.toList).2.2]) ∧ Below w.heap.size w w') (.returned (.tuple #[.string (strP x), .string (strP y), .bool b])) w') := Lib.hid fun x y b w' h hb => ⟨by rw [h], hb⟩
  generalize (fun e w' => e = Ending.returned (.tuple #[.string (strP (splitL p.data.toList).1), .string (strP (splitL p.data.toList).2.1), .bool (splitL p.data.toList).2.2]) ∧ Below w.heap.size w w') = PO at *
  generalize splitL p.data.toList = S at *
  by_cases e0 : p.size ≤ 100
  · have d0 : decide ((p.size : Int) ≤ 100) = true := decide_eq_true (by omega)
    rw [if_pos e0] at hsp
    have HF := Lib.hid (HP.out _ _ _ w hsp (Below.refl _ _))
    rw [hself] at HF
    clear hsp hself hlp
    go_enter Try.func20, Try.ntmps20
    go_wp2_with fail
    go_ret3
    exact HF.out
  · have d0 : decide ((p.size : Int) ≤ 100) = false := decide_eq_false (by omega)
    rw [if_neg e0] at hsp
    have HSP := Lib.hid hsp
    have HLP := Lib.hid hlp
    clear hsp hself hlp e0
    go_enter Try.func20, Try.ntmps20
    go_wp2_with fail
    go_loopw [5] (fun si wx => ∃ q : Nat, si = .int .i64 q ∧ q ≤ p.size ∧ wx = w ∧ Hid (S = splitF p.data.toList (p.size - q) q)) (fun si _ => p.size - (intOf si).toNat)
    case atStart => exact ⟨0, rfl, Nat.zero_le _, rfl, Lib.hid HSP.out⟩
    case round =>
      obtain ⟨q, rfl, hq, rfl, hJ⟩ := hrel
      by_cases e : q < p.size
      · have dq : decide ((q : Int) < (p.size : Int)) = true := decide_eq_true (by omega)
        have hqz : (q : Int) < p.size := by omega
        obtain ⟨k, hk⟩ : ∃ k, p.size - q = k + 1 := ⟨p.size - q - 1, by omega⟩
        have hj := hJ.out
        rw [hk] at hj
        have hby := byte_at p q e
        obtain ⟨b1, hb1⟩ : ∃ b1, b1 = p.size - q := ⟨_, rfl⟩
        obtain ⟨b2, hb2⟩ : ∃ b2, b2 = p.size - q - 1 := ⟨_, rfl⟩
        have hb1z : (p.size : Int) - (q : Int) = (b1 : Int) := by omega
        have hb2z : (b1 : Int) - 1 = (b2 : Int) := by omega
        have HJ := Lib.hid hj
        have HK := Lib.hid hk
        have HB2 := Lib.hid hb2
        have hok : okAt p.data.toList q ↔ (p[q]).toNat = 47 ∧ 1 ≤ q ∧ q ≤ 155 ∧ 1 ≤ b2 ∧ b2 ≤ 100 := by
          unfold okAt
          rw [hby, HLP.out]
          omega
        have HOK := Lib.hid hok
        clear hj hk hb1 hb2 hJ hok hby
        have no : ¬ okAt p.data.toList q → S = splitF p.data.toList (p.size - (q + 1)) (q + 1) := fun h => by
          rw [HJ.out, splitF_no h, show p.size - (q + 1) = k by have := HK.out; omega]
        by_cases g1 : (p[q]).toNat = 47
        · have f1 : ((((p[q]).toNat : Nat) : Int) == 47) = true := beq_iff_eq.2 (by omega)
          by_cases g2 : 1 ≤ q
          · have f2 : decide ((1 : Int) ≤ (q : Int)) = true := decide_eq_true (by omega)
            by_cases g3 : q ≤ 155
            · have f3 : decide ((q : Int) ≤ 155) = true := decide_eq_true (by omega)
              by_cases g4 : 1 ≤ b2
              · have f4 : decide ((1 : Int) ≤ (b2 : Int)) = true := decide_eq_true (by omega)
                by_cases g5 : b2 ≤ 100
                · have f5 : decide ((b2 : Int) ≤ 100) = true := decide_eq_true (by omega)
                  have hy := splitF_yes (k := k) (HOK.out.2 ⟨g1, g2, g3, g4, g5⟩)
                  have HF := Lib.hid fun w' (hb : Below wr.heap.size wr w') => HP.out _ _ _ w' (HJ.out.trans hy) hb
                  rw [← extract_take, ← extract_drop] at HF
                  obtain ⟨q1, hq1⟩ : ∃ q1, q1 = q + 1 := ⟨_, rfl⟩
                  have hq1z : (q : Int) + 1 = (q1 : Int) := by omega
                  have hq1b : (q1 : Int) ≤ (p.size : Int) := by omega
                  rw [← hq1] at HF
                  clear no hq1 hy g1
                  go_wp2_with fail
                  go_region
                  go_wp2_with fail
                  go_ret3
                  exact HF.out _ ((Below.refl _ _).drew)
                · have f5 : decide ((b2 : Int) ≤ 100) = false := decide_eq_false (by omega)
                  have HN := Lib.hid (no fun h => g5 (HOK.out.1 h).2.2.2.2)
                  clear no g1
                  go_wp2_with fail
                  go_roundw
                  case rel => exact ⟨q + 1, by go_num, by omega, by first | rfl | trivial, HN⟩
                  case measure => simp [intOf]; omega
              · have f4 : decide ((1 : Int) ≤ (b2 : Int)) = false := decide_eq_false (by omega)
                have HN := Lib.hid (no fun h => g4 (HOK.out.1 h).2.2.2.1)
                clear no g1
                go_wp2_with fail
                go_roundw
                case rel => exact ⟨q + 1, by go_num, by omega, by first | rfl | trivial, HN⟩
                case measure => simp [intOf]; omega
            · have f3 : decide ((q : Int) ≤ 155) = false := decide_eq_false (by omega)
              have HN := Lib.hid (no fun h => g3 (HOK.out.1 h).2.2.1)
              clear no g1
              go_wp2_with fail
              go_roundw
              case rel => exact ⟨q + 1, by go_num, by omega, by first | rfl | trivial, HN⟩
              case measure => simp [intOf]; omega
          · have f2 : decide ((1 : Int) ≤ (q : Int)) = false := decide_eq_false (by omega)
            have HN := Lib.hid (no fun h => g2 (HOK.out.1 h).2.1)
            clear no g1
            go_wp2_with fail
            go_roundw
            case rel => exact ⟨q + 1, by go_num, by omega, by first | rfl | trivial, HN⟩
            case measure => simp [intOf]; omega
        · have f1 : ((((p[q]).toNat : Nat) : Int) == 47) = false := beq_false_of_ne (by omega)
          have HN := Lib.hid (no fun h => g1 (HOK.out.1 h).1)
          clear no g1
          go_wp2_with fail
          go_roundw
          case rel => exact ⟨q + 1, by go_num, by omega, by first | rfl | trivial, HN⟩
          case measure => simp [intOf]; omega
      · obtain rfl : q = p.size := by omega
        have hj := hJ.out
        rw [Nat.sub_self, splitF] at hj
        have HF := Lib.hid (HP.out [] [] false wr hj (Below.refl _ _))
        clear hj hJ
        go_wp2_with fail
        go_ret3
        exact HF.out
end Go.Proofs.Ytlnopdlpdnengaa
