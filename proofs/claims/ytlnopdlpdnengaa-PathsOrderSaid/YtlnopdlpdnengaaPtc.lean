/- The reference of paths: Clean, Check. Conditions: texts of at most a million bytes. Written ahead of stage 14. -/
import Derived.Test.YtlnopdlpdnengaaPtb
namespace Go.Proofs.Ytlnopdlpdnengaa
open Go.RowKit

theorem joinF_skip {p : List UInt8} (h : p = [] ∨ p = [46]) (O : List UInt8) (l : List (List UInt8)) : joinF O (p :: l) = joinF O l := if_pos h
theorem joinF_put {p : List UInt8} (h : ¬ (p = [] ∨ p = [46])) (O : List UInt8) (l : List (List UInt8)) : joinF O (p :: l) = joinF ((if O = [] then [] else O ++ [47]) ++ p) l := if_neg h
theorem list_drop (L : List (List UInt8)) (q : Nat) (h : q < L.length) : L.drop q = L.getD q [] :: L.drop (q + 1) := by
  rw [List.drop_eq_getElem_cons h, List.getD_eq_getElem?_getD, List.getElem?_eq_getElem h]
  rfl
theorem list_mem (L : List (List UInt8)) (q : Nat) (h : q < L.length) : L.getD q [] ∈ L := by
  rw [List.getD_eq_getElem?_getD, List.getElem?_eq_getElem h]
  exact List.getElem_mem h
theorem strP_toList (p : List UInt8) : (strP p).toList = p := by
  rw [ByteArray.toList_eq]
  rfl

set_option maxHeartbeats 3200000 in
set_option maxRecDepth 100000 in
theorem rclean_any (w : World) (t : ByteArray) (hs : t.size ≤ 1000000) : Calls Try.prog 11 #[.string t] w fun e w' => e = .returned (.tuple #[.string (strP (cleanL t.data.toList).1), .int .i64 (cleanL t.data.toList).2]) ∧ Below w.heap.size w w' := by
  have hll : t.data.toList.length = t.size := rfl
  have HLL := Lib.hid hll
  have HPA := Lib.hid (rparts_any w t hs)
  have hmem := partsF_mem t.data.toList []
  have HP : Hid (∀ (X : List UInt8) (k : Nat) (w' : World), cleanL t.data.toList = (X, k) → Below w.heap.size w w' → (fun e w' => e = Ending.returned (.tuple #[.string (strP (cleanL t.data.toList).1), .int .i64 (cleanL t.data.toList).2]) ∧ Below w.heap.size w w') (.returned (.tuple #[.string (strP X), .int .i64 k])) w') := Lib.hid fun X k w' h hb => ⟨by rw [h], hb⟩
  generalize (fun e w' => e = Ending.returned (.tuple #[.string (strP (cleanL t.data.toList).1), .int .i64 (cleanL t.data.toList).2]) ∧ Below w.heap.size w w') = PO at *
  have hclean : cleanL t.data.toList = if [46, 46] ∈ partsL t.data.toList then ([], 140)
    else if ¬ ∀ c ∈ t.data.toList, okB c then ([], 140)
    else if joinF [] (partsL t.data.toList) = [] ∨ 120 < (joinF [] (partsL t.data.toList)).length then ([], 140)
    else (joinF [] (partsL t.data.toList), 0) := rfl
  have hmem2 : ∀ p ∈ partsL t.data.toList, p.length ≤ 1000000 := fun p hp => by
    have := hmem p hp
    rw [List.length_nil, hll] at this
    omega
  have hlenL : (partsL t.data.toList).length ≤ 1000001 := by
    have := partsF_len t.data.toList []
    unfold partsL
    omega
  obtain ⟨L, hL⟩ : ∃ L, L = partsL t.data.toList := ⟨_, rfl⟩
  rw [← hL] at HPA hclean hmem2 hlenL
  have HCL := Lib.hid hclean
  have HMEM := Lib.hid hmem2
  have HLN := Lib.hid hlenL
  clear hll hmem hclean hmem2 hlenL hL
  go_enter Try.func11, Try.ntmps11
  go_wp2_with fail
  refine HPA.out.mono ?_
  rintro e w2 ⟨A, n, c, rfl, hnc, hcm, hsl, hb2⟩
  have HSL := Lib.hid hsl
  have HB2 := Lib.hid hb2
  have HLEN := Lib.hid hsl.1
  have hn1 : n ≤ 1000001 := by rw [← hsl.1]; exact HLN.out
  unfold maxLen at hcm
  clear hsl hb2
  go_wp2_with fail
  go_loopw [4, 6] (fun so si wx => ∃ (O : List UInt8) (q : Nat), so = .string (strP O) ∧ si = .int .i64 q ∧ q ≤ n ∧ O.length ≤ 1000001 * q ∧ wx = w2 ∧
    Hid ((∀ j, j < q → L.getD j [] ≠ [46, 46]) ∧ joinF O (L.drop q) = joinF [] L)) (fun _ si _ => n - (intOf si).toNat)
  case atStart => exact ⟨[], 0, rfl, rfl, Nat.zero_le _, Nat.le_refl _, rfl, Lib.hid ⟨fun j hj => by omega, rfl⟩⟩
  case round =>
    obtain ⟨O, q, rfl, rfl, hq, hO, rfl, hJ⟩ := hrel
    by_cases e : q < n
    · have d0 : decide ((q : Int) < (n : Int)) = true := decide_eq_true (by omega)
      have hqL : q < L.length := by rw [HLEN.out]; exact e
      obtain ⟨b, off, rfl, hc⟩ := HSL.out.2 (by omega)
      have hcell0 := hc q e
      have hjq := hJ.out.2
      rw [list_drop L q hqL] at hjq
      have hPm := HMEM.out _ (list_mem L q hqL)
      have hmemq := list_mem L q hqL
      have hno := hJ.out.1
      obtain ⟨P, hP⟩ : ∃ P, P = L.getD q [] := ⟨_, rfl⟩
      rw [← hP] at hcell0 hjq hPm hmemq
      have hcell : wr.cell? ⟨b, off + q, none⟩ = some (.string (strP P)) := hcell0
      have HT := Lib.hid (strP_toList P)
      have HTO := Lib.hid (strP_toList O)
      have hOs : (strP O).size ≤ 1000001 * 1000001 := by
        rw [strP_size]
        exact Nat.le_trans hO (Nat.mul_le_mul_left _ (by omega))
      have hPs : (strP P).size ≤ 1000000 := by rw [strP_size]; exact hPm
      have HNO := Lib.hid hno
      have HJQ := Lib.hid hjq
      have HPE := Lib.hid hP
      clear hc hJ hno hjq hP hcell0
      by_cases e2 : P = [46, 46]
      · have d1 : ((strP P).toList == [46, 46]) = true := by rw [HT.out, e2]; rfl
        have HF := Lib.hid (HP.out [] 140 wr (by rw [HCL.out, if_pos (by rw [← e2]; exact hmemq)]) HB2.out)
        clear e2 hmemq
        go_wp2_with fail
        exact HF.out
      · have d1 : ((strP P).toList == [46, 46]) = false := by rw [HT.out]; exact beq_false_of_ne e2
        have HNO2 := Lib.hid (show ∀ j, j < q + 1 → L.getD j [] ≠ [46, 46] from fun j hj => by
          by_cases ej : j = q
          · rw [ej, ← HPE.out]
            exact e2
          · exact HNO.out j (by omega))
        clear hmemq HNO HPE e2
        by_cases e3 : P = []
        · have HJ3 := Lib.hid ((joinF_skip (.inl e3) O (L.drop (q + 1))).symm.trans HJQ.out)
          have d2 : (strP P).toList.isEmpty = true := by rw [HT.out, e3]; rfl
          clear HJQ hPm e3
          go_wp2_with fail
          go_roundw
          case rel => exact ⟨O, q + 1, rfl, by go_num, by omega, by omega, by first | rfl | trivial, Lib.hid ⟨HNO2.out, HJ3.out⟩⟩
          case measure => simp [intOf]; omega
        · have d2 : (strP P).toList.isEmpty = false := by
            rw [HT.out]
            cases P with
            | nil => exact absurd rfl e3
            | cons x l => rfl
          by_cases e4 : P = [46]
          · have HJ3 := Lib.hid ((joinF_skip (.inr e4) O (L.drop (q + 1))).symm.trans HJQ.out)
            have d3 : ((strP P).toList == [46]) = true := by rw [HT.out, e4]; rfl
            clear HJQ hPm e3 e4
            go_wp2_with fail
            go_roundw
            case rel => exact ⟨O, q + 1, rfl, by go_num, by omega, by omega, by first | rfl | trivial, Lib.hid ⟨HNO2.out, HJ3.out⟩⟩
            case measure => simp [intOf]; omega
          · have HJ3 := Lib.hid ((joinF_put (fun h => h.elim e3 e4) O (L.drop (q + 1))).symm.trans HJQ.out)
            have d3 : ((strP P).toList == [46]) = false := by rw [HT.out]; exact beq_false_of_ne e4
            have HLP := Lib.hid hPm
            clear HJQ hPm e3 e4
            by_cases e5 : O = []
            · have HJ4 := HJ3.out
              rw [if_pos e5, List.nil_append] at HJ4
              have HJ5 := Lib.hid HJ4
              have d4 : (strP O).toList.isEmpty = true := by rw [HTO.out, e5]; rfl
              have HE5 := Lib.hid e5
              clear HJ4 HJ3 e5
              go_wp2_with fail
              go_roundw
              case rel => exact ⟨P, q + 1, by rw [HE5.out, strP_app, List.nil_append], by go_num, by omega, by have := HLP.out; omega, by first | rfl | trivial, Lib.hid ⟨HNO2.out, HJ5.out⟩⟩
              case measure => simp [intOf]; omega
            · have HJ4 := HJ3.out
              rw [if_neg e5] at HJ4
              have HJ5 := Lib.hid HJ4
              have d4 : (strP O).toList.isEmpty = false := by
                rw [HTO.out]
                cases O with
                | nil => exact absurd rfl e5
                | cons x l => rfl
              have hc1 : (strP O ++ (⟨#[47]⟩ : ByteArray)).size ≤ 1000001 * 1000001 + 1 := by
                rw [ByteArray.size_append]
                exact Nat.add_le_add_right hOs 1
              clear HJ4 HJ3 e5
              go_wp2_with fail
              go_roundw
              case rel => exact ⟨O ++ [47] ++ P, q + 1, by rw [← strP_app, ← strP_app]; rfl, by go_num, by omega, by rw [List.length_append, List.length_append, List.length_singleton]; have := HLP.out; omega, by first | rfl | trivial, Lib.hid ⟨HNO2.out, HJ5.out⟩⟩
              case measure => simp [intOf]; omega
    · obtain rfl : q = n := by omega
      have hjq := hJ.out.2
      rw [List.drop_of_length_le (by rw [HLEN.out]; exact Nat.le_refl _), joinF] at hjq
      have hno : ¬ [46, 46] ∈ L := fun h => by
        obtain ⟨j, hj, e2⟩ := List.getElem_of_mem h
        refine hJ.out.1 j (by rw [← HLEN.out]; exact hj) ?_
        rw [List.getD_eq_getElem?_getD, List.getElem?_eq_getElem hj]
        exact e2
      have hcl := HCL.out
      rw [if_neg hno, ← hjq] at hcl
      have HCL2 := Lib.hid hcl
      have HTO := Lib.hid (strP_toList O)
      have hOs : (strP O).size ≤ 1000001 * 1000001 := by
        rw [strP_size]
        exact Nat.le_trans hO (Nat.mul_le_mul_left _ (by omega))
      have hsO : (strP O).size = O.length := rfl
      have HSO := Lib.hid hsO
      clear hJ hjq hno hcl HCL HMEM HLN HLEN HSL hsO
      go_wp2_with fail
      go_loopw [7] (fun si wx => ∃ k : Nat, si = .int .i64 k ∧ k ≤ t.size ∧ wx = wr ∧ Hid (∀ j, j < k → okB (t.data.toList.getD j 0))) (fun si _ => t.size - (intOf si).toNat)
      case atStart => exact ⟨0, rfl, Nat.zero_le _, rfl, Lib.hid fun j hj => by omega⟩
      case round =>
        obtain ⟨k, rfl, hk, rfl, hok⟩ := hrel
        by_cases e : k < t.size
        · have d0 : decide ((k : Int) < (t.size : Int)) = true := decide_eq_true (by omega)
          have hkz : (k : Int) < t.size := by omega
          have hby := byte_at t k e
          have bad : ¬ okB (t[k]) → (cleanL t.data.toList = ([], 140)) := fun h => by
            rw [HCL2.out, if_pos]
            intro h2
            refine h (h2 _ ?_)
            rw [← hby, List.getD_eq_getElem?_getD, List.getElem?_eq_getElem (by show k < t.size; exact e)]
            exact List.getElem_mem _
          by_cases e2 : (t[k]).toNat < 32
          · have d1 : decide (((t[k]).toNat : Int) < 32) = true := decide_eq_true (by omega)
            have HF := Lib.hid (HP.out [] 140 wr (bad fun h => by have := h.1; omega) HB2.out)
            clear bad hby hok
            go_wp2_with fail
            exact HF.out
          · have d1 : decide (((t[k]).toNat : Int) < 32) = false := decide_eq_false (by omega)
            by_cases e3 : 126 < (t[k]).toNat
            · have d2 : decide ((126 : Int) < ((t[k]).toNat : Int)) = true := decide_eq_true (by omega)
              have HF := Lib.hid (HP.out [] 140 wr (bad fun h => by have := h.2; omega) HB2.out)
              clear bad hby hok
              go_wp2_with fail
              exact HF.out
            · have d2 : decide ((126 : Int) < ((t[k]).toNat : Int)) = false := decide_eq_false (by omega)
              have HO := Lib.hid (show ∀ j, j < k + 1 → okB (t.data.toList.getD j 0) from fun j hj => by
                by_cases ej : j = k
                · rw [ej, hby]
                  exact ⟨by omega, by omega⟩
                · exact hok.out j (by omega))
              clear bad hby hok
              go_wp2_with fail
              go_roundw
              case rel => exact ⟨k + 1, by go_num, by omega, by first | rfl | trivial, HO⟩
              case measure => simp [intOf]; omega
        · have d0 : decide ((k : Int) < (t.size : Int)) = false := decide_eq_false (by omega)
          have hall : ∀ c ∈ t.data.toList, okB c := fun c hc => by
            obtain ⟨j, hj, e2⟩ := List.getElem_of_mem hc
            have hjs : j < t.size := hj
            have h := hok.out j (by omega)
            rw [List.getD_eq_getElem?_getD, List.getElem?_eq_getElem hj] at h
            rw [← e2]
            exact h
          have hcl := HCL2.out
          rw [if_neg (not_not_intro hall)] at hcl
          by_cases e2 : O = []
          · have d1 : (strP O).toList.isEmpty = true := by rw [HTO.out, e2]; rfl
            have HF := Lib.hid (HP.out [] 140 wr (by rw [hcl, if_pos (.inl e2)]) HB2.out)
            clear hcl hall hok e2
            go_wp2_with fail
            exact HF.out
          · have d1 : (strP O).toList.isEmpty = false := by
              rw [HTO.out]
              cases O with
              | nil => exact absurd rfl e2
              | cons x l => rfl
            by_cases e3 : 120 < O.length
            · have d2 : decide ((120 : Int) < ((strP O).size : Int)) = true := decide_eq_true (by rw [HSO.out]; omega)
              have HF := Lib.hid (HP.out [] 140 wr (by rw [hcl, if_pos (.inr e3)]) HB2.out)
              clear hcl hall hok e2
              go_wp2_with fail
              exact HF.out
            · have d2 : decide ((120 : Int) < ((strP O).size : Int)) = false := decide_eq_false (by rw [HSO.out]; omega)
              have HF := Lib.hid (HP.out O 0 wr (by rw [hcl, if_neg (fun h => h.elim e2 e3)]) HB2.out)
              clear hcl hall hok e2
              go_wp2_with fail
              exact HF.out

set_option maxHeartbeats 1600000 in
set_option maxRecDepth 100000 in
theorem rcheck_any (w : World) (t : ByteArray) (hs : t.size ≤ 1000000) : Calls Try.prog 13 #[.string t] w fun e w' => e = .returned (.int .i64 (checkL t.data.toList)) ∧ Below w.heap.size w w' := by
  have HC := Lib.hid (rclean_any w t hs)
  have HK : Hid (checkL t.data.toList = if (cleanL t.data.toList).2 ≠ 0 ∨ (cleanL t.data.toList).1 ≠ t.data.toList then 140 else 0) := Lib.hid rfl
  have hst := strP_self t
  generalize cleanL t.data.toList = ans at *
  obtain ⟨X, k⟩ := ans
  dsimp only at HC HK
  have HP : Hid (∀ (k : Nat) (w' : World), checkL t.data.toList = k → Below w.heap.size w w' → (fun e w' => e = Ending.returned (.int .i64 (checkL t.data.toList)) ∧ Below w.heap.size w w') (.returned (.int .i64 k)) w') := Lib.hid fun k w' h hb => ⟨by rw [h], hb⟩
  generalize (fun e w' => e = Ending.returned (.int .i64 (checkL t.data.toList)) ∧ Below w.heap.size w w') = PO at *
  generalize checkL t.data.toList = ck at *
  have hne : X ≠ t.data.toList → ((strP X).toList == t.toList) = false := fun h => by
    rw [same_text, decide_eq_false]
    exact h
  have hyes : X = t.data.toList → strP X = t := fun h => by rw [h, hst]
  clear hst
  by_cases e : k ≠ 0
  · have d0 : ((k : Int) != 0) = true := by
      rw [bne_iff_ne]
      omega
    have hk := HK.out
    rw [if_pos (.inl e)] at hk
    have HKK := Lib.hid hk
    clear hk hne hyes e
    go_enter Try.func13, Try.ntmps13
    go_wp2_with fail
    refine HC.out.mono ?_
    rintro e w2 ⟨rfl, hb2⟩
    have HF := Lib.hid (HP.out 140 w2 HKK.out hb2)
    clear hb2
    go_wp2_with fail
    exact HF.out
  · have d0 : ((k : Int) != 0) = false := by
      rw [bne_eq_false_iff_eq]
      omega
    by_cases e2 : X = t.data.toList
    · have hst := hyes e2
      have hk := HK.out
      rw [if_neg (fun h => h.elim e (not_not_intro e2))] at hk
      have HKK := Lib.hid hk
      rw [hst] at HC
      clear hk hne hyes e e2 hst HK
      go_enter Try.func13, Try.ntmps13
      go_wp2_with fail
      refine HC.out.mono ?_
      rintro e w2 ⟨rfl, hb2⟩
      have HF := Lib.hid (HP.out 0 w2 HKK.out hb2)
      clear hb2
      go_wp2_with fail
      exact HF.out
    · have hst := hne e2
      have hst2 : ((strP X).toList != t.toList) = true := by
        rw [bne, hst]
        rfl
      have hk := HK.out
      rw [if_pos (.inr e2)] at hk
      have HKK := Lib.hid hk
      clear hk hne hyes e e2 HK
      generalize strP X = Y at *
      go_enter Try.func13, Try.ntmps13
      go_wp2_with fail
      refine HC.out.mono ?_
      rintro e w2 ⟨rfl, hb2⟩
      have HF := Lib.hid (HP.out 140 w2 HKK.out hb2)
      clear hb2
      go_wp2_with fail
      exact HF.out
end Go.Proofs.Ytlnopdlpdnengaa
