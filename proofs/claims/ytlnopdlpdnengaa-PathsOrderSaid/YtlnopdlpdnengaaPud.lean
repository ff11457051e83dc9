/- paths.Clean, Check. Conditions: texts of at most 2^47 bytes. -/
import Derived.Test.YtlnopdlpdnengaaPuc
import Derived.WalkMore
namespace Go.Proofs.Ytlnopdlpdnengaa
open Go.RowKit

set_option maxHeartbeats 3200000 in
set_option maxRecDepth 100000 in
theorem cclean_any (w : World) (t : ByteArray) (hs : t.size ≤ 140737488355328) : Calls Try.prog 10 #[.string t] w fun e w' => e = .returned (.tuple #[.string (strP (cleanL t.data.toList).1), .int .i64 (cleanL t.data.toList).2]) ∧ Below w.heap.size w w' := by
  have HT := Lib.hid (teller_any w t hs)
  have HCL := Lib.hid (clean_code t.data.toList)
  have HP : Hid (∀ (X : List UInt8) (k : Nat) (w' : World), cleanL t.data.toList = (X, k) → Below w.heap.size w w' → (fun e w' => e = Ending.returned (.tuple #[.string (strP (cleanL t.data.toList).1), .int .i64 (cleanL t.data.toList).2]) ∧ Below w.heap.size w w') (.returned (.tuple #[.string (strP X), .int .i64 k])) w') := Lib.hid fun X k w' h hb => ⟨by rw [h], hb⟩
  generalize (fun e w' => e = Ending.returned (.tuple #[.string (strP (cleanL t.data.toList).1), .int .i64 (cleanL t.data.toList).2]) ∧ Below w.heap.size w w') = PO at *
  generalize partsL t.data.toList = L0 at *
  obtain ⟨g, hg⟩ : ∃ g, g = w.heap.size := ⟨_, rfl⟩
  have HG := Lib.hid hg
  rw [← hg] at HT
  clear hg
  have HEND : Hid (∀ (O : List UInt8) (wx : World), O = cleanC [] L0 → Below w.heap.size w wx → (O = [] → PO (.returned (.tuple #[.string ⟨#[]⟩, .int .i64 140])) wx) ∧ (O ≠ [] → PO (.returned (.tuple #[.string (strP O), .int .i64 0])) wx)) := Lib.hid fun O wx hO hb => by
    refine ⟨fun e => HP.out [] 140 wx ?_ hb, fun e => HP.out O 0 wx ?_ hb⟩
    · rw [HCL.out, if_pos (by rw [← hO, e])]
    · rw [HCL.out, if_neg (by rw [← hO]; exact e), hO]
  obtain ⟨C0, hC0⟩ : ∃ C0, cleanC [] L0 = C0 := ⟨_, rfl⟩
  rw [hC0] at HEND
  have HC0 := Lib.hid hC0
  clear HP HCL hC0
  go_enter Try.func10, Try.ntmps10
  go_wp2_with fail
  go_step3
  go_wp2_with fail
  refine HT.out.mono ?_
  rintro e w1 ⟨rfl, ht1, _, hb1⟩
  have HN := Lib.hid (next_any w1 g _ ht1)
  have HB1 := Lib.hid hb1
  clear ht1 hb1
  go_wp2_with fail
  go_step3
  go_wp2_with fail
  refine HN.out.mono ?_
  rintro e w2 ⟨rfl, ht2, hs2⟩
  have HB2 : Hid (Below w.heap.size w w2) := Lib.hid (by rw [← HG.out]; exact HB1.out.trans hs2.below)
  have HI : Hid (Tell w2 g L0.tail ∧ cleanC [] L0 = C0) := Lib.hid ⟨ht2, HC0.out⟩
  clear ht2 hs2 HN HB1
  go_wp2_with fail
  go_loopw [4, 5, 7, 8] (fun so sb sp si wx => ∃ (O : List UInt8) (L : List (List UInt8)), so = .string (strP O) ∧ sb = .string (btw O) ∧ sp = .string (strP (hdL L)) ∧ si = .bool (anyL L) ∧ O.length ≤ 120 ∧ Below w.heap.size w wx ∧
    Hid (Tell wx g L.tail ∧ cleanC O L = C0)) (fun _ _ _ si wx => oneIf si + leftOf wx g)
  case atStart => exact ⟨[], L0, rfl, rfl, rfl, rfl, Nat.zero_le _, HB2.out, HI⟩
  case round =>
    obtain ⟨O, L, rfl, rfl, hp, hi, hO, hbx, hJ⟩ := hrel
    have HBX := Lib.hid hbx
    clear hbx
    rcases L with _ | ⟨p, L⟩
    · change _ = Value.string (strP []) at hp
      change _ = Value.bool false at hi
      subst hp hi
      have HE := HEND.out O wr hJ.out.2 HBX.out
      by_cases eO : O = []
      · have d0 : (strP O).toList.isEmpty = true := by rw [strP_toList, eO]; rfl
        have HF := Lib.hid (HE.1 eO)
        clear HE hJ eO
        go_wp2_with fail
        exact HF.out
      · have d0 : (strP O).toList.isEmpty = false := by
          rw [strP_toList]
          cases O with
          | nil => exact absurd rfl eO
          | cons x l => rfl
        have HF := Lib.hid (HE.2 eO)
        clear HE hJ eO
        go_wp2_with fail
        exact HF.out
    · change _ = Value.string (strP p) at hp
      change _ = Value.bool true at hi
      subst hp hi
      have ht := hJ.out.1
      have HN := Lib.hid (next_any wr g L ht)
      have HLEFT := Lib.hid (left_is (L := L) ht)
      have hcl := hJ.out.2
      have HPT := Lib.hid (strP_toList p)
      clear hJ ht
      rw [cleanC] at hcl
      by_cases e1 : p = []
      · rw [if_pos (.inl e1)] at hcl
        have HJ2 := Lib.hid hcl
        have d1 : (strP p).toList.isEmpty = true := by rw [HPT.out, e1]; rfl
        clear hcl e1
        go_wp2_with fail
        refine HN.out.mono ?_
        rintro e w3 ⟨rfl, ht3, hs3⟩
        have HB3 : Hid (Below w.heap.size w w3) := Lib.hid (HBX.out.trans (by rw [← HG.out]; exact hs3.below))
        have HL3 := Lib.hid (left_is ht3)
        have HJ3 := Lib.hid (show Tell w3 g L.tail ∧ _ from ⟨ht3, HJ2.out⟩)
        clear ht3 hs3 HN
        go_wp2_with fail
        go_roundw
        case rel => exact ⟨O, L, rfl, rfl, rfl, rfl, hO, HB3.out, HJ3⟩
        case measure =>
          have := any_left L
          rw [HLEFT.out, HL3.out]
          show _ < 1 + L.length
          omega
      have d1 : (strP p).toList.isEmpty = false := by
        rw [HPT.out]
        cases p with
        | nil => exact absurd rfl e1
        | cons x l => rfl
      by_cases e2 : p = [46]
      · rw [if_pos (.inr e2)] at hcl
        have HJ2 := Lib.hid hcl
        have d2 : ((strP p).toList == [46]) = true := by rw [HPT.out, e2]; rfl
        clear hcl e1 e2
        go_wp2_with fail
        refine HN.out.mono ?_
        rintro e w3 ⟨rfl, ht3, hs3⟩
        have HB3 : Hid (Below w.heap.size w w3) := Lib.hid (HBX.out.trans (by rw [← HG.out]; exact hs3.below))
        have HL3 := Lib.hid (left_is ht3)
        have HJ3 := Lib.hid (show Tell w3 g L.tail ∧ _ from ⟨ht3, HJ2.out⟩)
        clear ht3 hs3 HN
        go_wp2_with fail
        go_roundw
        case rel => exact ⟨O, L, rfl, rfl, rfl, rfl, hO, HB3.out, HJ3⟩
        case measure =>
          have := any_left L
          rw [HLEFT.out, HL3.out]
          show _ < 1 + L.length
          omega
      have d2 : ((strP p).toList == [46]) = false := by rw [HPT.out]; exact beq_false_of_ne e2
      rw [if_neg (fun h => h.elim e1 e2)] at hcl
      clear e2
      by_cases e3 : p = [46, 46]
      · have d3 : ((strP p).toList == [46, 46]) = true := by rw [HPT.out, e3]; rfl
        rw [if_pos (.inl e3)] at hcl
        clear e1 e3
        have HF := Lib.hid ((HEND.out [] wr hcl HBX.out).1 rfl)
        clear hcl
        go_wp2_with fail
        exact HF.out
      have d3 : ((strP p).toList == [46, 46]) = false := by rw [HPT.out]; exact beq_false_of_ne e3
      have HPS := Lib.hid (strP_size p)
      have HOS := Lib.hid (strP_size O)
      have HBS := Lib.hid (btw_size O)
      have hos : (strP O).size ≤ 120 := hO
      have hbs : (btw O).size ≤ 1 := by
        rw [HBS.out]
        split
        · exact Nat.zero_le _
        · exact Nat.le_refl _
      by_cases e4 : 120 < p.length + O.length + (if O = [] then 0 else 1)
      · have d4 : decide ((120 : Int) - ((strP O).size : Int) - ((btw O).size : Int) < ((strP p).size : Int)) = true := decide_eq_true (by
          rw [HPS.out, HOS.out, HBS.out]
          omega)
        rw [if_pos (.inr (.inl e4))] at hcl
        clear e1 e3 e4
        have HF := Lib.hid ((HEND.out [] wr hcl HBX.out).1 rfl)
        clear hcl
        go_wp2_with fail
        exact HF.out
      have d4 : decide ((120 : Int) - ((strP O).size : Int) - ((btw O).size : Int) < ((strP p).size : Int)) = false := decide_eq_false (by
        rw [HPS.out, HOS.out, HBS.out]
        omega)
      have hps : (strP p).size ≤ 120 := by
        rw [HPS.out]
        omega
      have HPL := Lib.hid (plain_any wr (strP p) (by omega))
      rw [strP_list] at HPL
      by_cases e5 : ∀ c ∈ p, okB c
      · rw [decide_eq_true e5] at HPL
        rw [if_neg (fun h => h.elim e3 fun h => h.elim e4 fun h => h e5)] at hcl
        have HJ2 := Lib.hid hcl
        have HPUT := Lib.hid (btw_put O p)
        have HE1 := Lib.hid e1
        have HE4 := Lib.hid e4
        obtain ⟨N, hN⟩ : ∃ N, N = (if O = [] then [] else O ++ [47]) ++ p := ⟨_, rfl⟩
        rw [← hN] at HJ2 HPUT
        have HNL : Hid (N.length ≤ 120) := Lib.hid (by
          rw [hN]
          split
          · next h => simp [h] at e4; simp; omega
          · next h => simp [h] at e4; simp; omega)
        have HNB : Hid (btw N = ⟨#[47]⟩) := Lib.hid (by
          unfold btw
          rw [if_neg]
          rw [hN]
          intro h
          exact e1 (List.append_eq_nil_iff.1 h).2)
        have hcs : (btw O ++ strP p).size ≤ 121 := by
          rw [ByteArray.size_append]
          omega
        clear hcl e1 e3 e4 e5 hN
        go_wp2_with fail
        refine HPL.out.mono ?_
        rintro e w2' ⟨rfl, rfl⟩
        go_wp2_with fail
        refine HN.out.mono ?_
        rintro e w3 ⟨rfl, ht3, hs3⟩
        have HB3 : Hid (Below w.heap.size w w3) := Lib.hid (HBX.out.trans (by rw [← HG.out]; exact hs3.below))
        have HL3 := Lib.hid (left_is ht3)
        have HJ3 := Lib.hid (show Tell w3 g L.tail ∧ _ from ⟨ht3, HJ2.out⟩)
        clear ht3 hs3 HN
        go_wp2_with fail
        go_roundw
        case rel => exact ⟨N, L, by rw [← HPUT.out], by rw [HNB.out], rfl, rfl, HNL.out, HB3.out, HJ3⟩
        case measure =>
          have := any_left L
          rw [HLEFT.out, HL3.out]
          show _ < 1 + L.length
          omega
      · rw [decide_eq_false e5] at HPL
        rw [if_pos (.inr (.inr e5))] at hcl
        have HF := Lib.hid ((HEND.out [] wr hcl HBX.out).1 rfl)
        clear hcl e1 e3 e4 e5
        go_wp2_with fail
        refine HPL.out.mono ?_
        rintro e w2' ⟨rfl, rfl⟩
        go_wp2_with fail
        exact HF.out

set_option maxRecDepth 100000 in
theorem ccheck_any (w : World) (t : ByteArray) (hs : t.size ≤ 140737488355328) : Calls Try.prog 12 #[.string t] w fun e w' => e = .returned (.int .i64 (checkL t.data.toList)) ∧ Below w.heap.size w w' := by
  have HC := Lib.hid (cclean_any w t hs)
  unfold checkL
  have h2 := clean_err t.data.toList
  have hst := same_text (strP (cleanL t.data.toList).1) t
  rw [strP_list] at hst
  generalize cleanL t.data.toList = K at *
  obtain ⟨X, k⟩ := K
  dsimp only at HC hst h2 ⊢
  rcases h2 with rfl | h2
  · by_cases e : X = t.data.toList
    · have d0 : ((strP X).toList == t.toList) = true := by rw [hst]; exact decide_eq_true e
      have d1 : ((strP X).toList != t.toList) = false := by rw [bne, d0]; rfl
      rw [if_neg (fun h => h.elim (fun h => h rfl) fun h => h e)]
      clear hst e
      go_enter Try.func12, Try.ntmps12
      go_wp2_with fail
      refine HC.out.mono ?_
      rintro e w1 ⟨rfl, hb⟩
      have HB := Lib.hid hb
      clear hb
      go_wp2_with fail
      go_ret
      exact ⟨rfl, HB.out⟩
    · have d0 : ((strP X).toList == t.toList) = false := by rw [hst]; exact decide_eq_false e
      have d1 : ((strP X).toList != t.toList) = true := by rw [bne, d0]; rfl
      rw [if_pos (.inr e)]
      clear hst e
      go_enter Try.func12, Try.ntmps12
      go_wp2_with fail
      refine HC.out.mono ?_
      rintro e w1 ⟨rfl, hb⟩
      have HB := Lib.hid hb
      clear hb
      go_wp2_with fail
      go_ret
      exact ⟨rfl, HB.out⟩
  · injection h2 with h3 h4
    subst h4
    rw [if_pos (.inl (by decide))]
    clear hst h3
    go_enter Try.func12, Try.ntmps12
    go_wp2_with fail
    refine HC.out.mono ?_
    rintro e w1 ⟨rfl, hb⟩
    have HB := Lib.hid hb
    clear hb
    go_wp2_with fail
    go_ret
    exact ⟨rfl, HB.out⟩
end Go.Proofs.Ytlnopdlpdnengaa
