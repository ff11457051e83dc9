/- paths.Split, Under. Conditions: texts of at most 2^47 bytes. -/
import Derived.Test.YtdjmfkodjjjhfaaGreatDoorPud
namespace Go.Proofs.YtdjmfkodjjjhfaaGreatDoor
open Go.RowKit

theorem splitF_skip (p : List UInt8) : ∀ (k i : Nat), (∀ j, i ≤ j → j < i + k → ¬ okAt p j) → splitF p k i = ([], [], false)
  | 0, _, _ => rfl
  | k + 1, i, h => by
    rw [splitF, if_neg (h i (Nat.le_refl _) (by omega))]
    exact splitF_skip p k (i + 1) fun j h1 h2 => h j (by omega) (by omega)
theorem splitF_hit (p : List UInt8) : ∀ (k i d : Nat), d < k → (∀ j, i ≤ j → j < i + d → ¬ okAt p j) → okAt p (i + d) → splitF p k i = (p.take (i + d), p.drop (i + d + 1), true)
  | 0, _, _, h, _, _ => by omega
  | k + 1, i, 0, _, _, h => by rw [splitF, if_pos (show okAt p i from h)]; rfl
  | k + 1, i, d + 1, h, h1, h2 => by
    rw [splitF, if_neg (h1 i (Nat.le_refl _) (by omega)), splitF_hit p k (i + 1) d (by omega) (fun j a b => h1 j (by omega) (by omega)) (by rw [show i + 1 + d = i + (d + 1) by omega]; exact h2)]
    rw [show i + 1 + d = i + (d + 1) by omega]
theorem slash_lit : (((⟨#[47]⟩ : ByteArray)[0]'(by decide)).toNat : Int) = 47 := rfl

set_option maxHeartbeats 3200000 in
set_option maxRecDepth 100000 in
theorem csplit_any (w : World) (p : ByteArray) (hs : p.size ≤ 140737488355328) : Calls Tryz.prog 27 #[.string p] w fun e w' => e = .returned (.tuple #[.string (strP (splitL p.data.toList).1), .string (strP (splitL p.data.toList).2.1), .bool (splitL p.data.toList).2.2]) ∧ Below w.heap.size w w' := by
  have hll : p.data.toList.length = p.size := rfl
  by_cases h : p.size ≤ 100
  · have d0 : decide ((p.size : Int) ≤ 100) = true := decide_eq_true (by omega)
    have hz : splitL p.data.toList = ([], p.data.toList, true) := by unfold splitL; rw [if_pos (by rw [hll]; exact h)]
    rw [hz, strP_self]
    clear hz hll
    go_enter Tryz.func27, Tryz.ntmps27
    go_wp2_with fail
    go_ret3
    exact ⟨rfl, Below.refl _ _⟩
  have d0 : decide ((p.size : Int) ≤ 100) = false := decide_eq_false (by omega)
  have hz : splitL p.data.toList = splitF p.data.toList p.size 0 := by unfold splitL; rw [if_neg (by rw [hll]; exact h), hll]
  rw [hz]
  obtain ⟨lo, hlo⟩ : ∃ lo, lo = max 1 (p.size - 101) := ⟨_, rfl⟩
  obtain ⟨hi, hhi⟩ : ∃ hi, hi = min 155 (p.size - 2) := ⟨_, rfl⟩
  have HOK : Hid (∀ j, okAt p.data.toList j ↔ ((p.data.toList.getD j 0).toNat = 47 ∧ lo ≤ j ∧ j ≤ hi)) := Lib.hid fun j => by
    unfold okAt
    rw [hll]
    omega
  have HLO := Lib.hid hlo
  have HHI := Lib.hid hhi
  have HP : Hid (∀ (X Y : List UInt8) (b : Bool) (w' : World), splitF p.data.toList p.size 0 = (X, Y, b) → Below w.heap.size w w' → (fun e w' => e = Ending.returned (.tuple #[.string (strP (splitF p.data.toList p.size 0).1), .string (strP (splitF p.data.toList p.size 0).2.1), .bool (splitF p.data.toList p.size 0).2.2]) ∧ Below w.heap.size w w') (.returned (.tuple #[.string (strP X), .string (strP Y), .bool b])) w') := Lib.hid fun X Y b w' h hb => ⟨by rw [h], hb⟩
  generalize (fun e w' => e = Ending.returned (.tuple #[.string (strP (splitF p.data.toList p.size 0).1), .string (strP (splitF p.data.toList p.size 0).2.1), .bool (splitF p.data.toList p.size 0).2.2]) ∧ Below w.heap.size w w') = PO at *
  clear hlo hhi hz hll
  have hlh : lo ≤ p.size := by
    have := HLO.out
    omega
  by_cases hA : (p.size : Int) - 1 - 100 ≤ 1
  · have hlo1 : lo = 1 := by have := HLO.out; omega
    go_enter Tryz.func27, Tryz.ntmps27
    go_wp2_with fail
    go_loopw [5] (fun si wx => ∃ q : Nat, si = .int .i64 q ∧ lo ≤ q ∧ q ≤ p.size ∧ Below w.heap.size w wx ∧ Hid (∀ j, j < q → ¬ okAt p.data.toList j)) (fun si _ => hi + 1 - (intOf si).toNat)
    case atStart => exact ⟨lo, by rw [hlo1]; rfl, Nat.le_refl _, hlh, Below.refl _ _, Lib.hid fun j hj h => by have := (HOK.out j).1 h; omega⟩
    case round =>
      obtain ⟨q, rfl, hq, hq2, hbx, hJ⟩ := hrel
      have HBX := Lib.hid hbx
      clear hbx
      by_cases hB : (p.size : Int) - 2 < 155
      · have hhi : hi + 2 = p.size := by have := HHI.out; omega
        by_cases e : q ≤ hi
        · have d1 : decide ((q : Int) ≤ (p.size : Int) - 2) = true := decide_eq_true (by omega)
          have hqz : (q : Int) < (p.size : Int) := by omega
          have hq0 : (0 : Int) ≤ (q : Int) := by omega
          have e' : q < p.size := by omega
          have hby := byte_at p q e'
          obtain ⟨q1, hq1⟩ : ∃ q1, q1 = q + 1 := ⟨_, rfl⟩
          have hq1z : (q : Int) + 1 = (q1 : Int) := by omega
          have hq10 : (0 : Int) ≤ (q1 : Int) := by omega
          have hq1s : (q1 : Int) ≤ (p.size : Int) := by omega
          have hqs : (q : Int) ≤ (p.size : Int) := by omega
          by_cases e2 : (p[q]).toNat = 47
          · have d2 : ((((p[q]).toNat : Nat) : Int) == ((((⟨#[47]⟩ : ByteArray)[0]'(by decide)).toNat : Nat) : Int)) = true := by rw [e2]; rfl
            have hF := HP.out (p.data.toList.take q) (p.data.toList.drop q1) true (wr.drew.drew) (by
              have := splitF_hit p.data.toList p.size 0 q (by omega) (fun j _ h2 => hJ.out j (by omega)) (by rw [Nat.zero_add, HOK.out]; exact ⟨by rw [hby]; exact e2, hq, e⟩)
              rw [Nat.zero_add] at this
              rw [hq1]
              exact this) HBX.out.drew.drew
            rw [← ext_front, ← ext_back] at hF
            have HF := Lib.hid hF
            have HQ1 := Lib.hid hq1
            clear hF hJ hby e2 hq1
            go_wp2_with fail
            go_region
            go_wp2_with fail
            go_region
            go_wp2_with fail
            go_ret3
            exact HF.out
          · have d2 : ((((p[q]).toNat : Nat) : Int) == ((((⟨#[47]⟩ : ByteArray)[0]'(by decide)).toNat : Nat) : Int)) = false := beq_false_of_ne (by rw [slash_lit]; omega)
            have HJ2 := Lib.hid (show ∀ j, j < q1 → ¬ okAt p.data.toList j from fun j hj => by
              by_cases ej : j = q
              · rw [ej, HOK.out, hby]
                exact fun h => e2 h.1
              · exact hJ.out j (by omega))
            have hq1l : lo ≤ q1 := by omega
            have hq1h : q1 ≤ p.size := by omega
            have hqm : hi + 1 - q1 < hi + 1 - q := by omega
            clear hJ hby e2 hq1
            go_wp2_with fail
            go_region
            go_wp2_with fail
            go_roundw
            case rel => exact ⟨q1, by go_num, hq1l, hq1h, HBX.out.drew, HJ2⟩
            case measure => simp [intOf]; omega
        · have d1 : decide ((q : Int) ≤ (p.size : Int) - 2) = false := decide_eq_false (by omega)
          have hF := HP.out [] [] false wr (splitF_skip _ _ _ fun j _ _ => by
            by_cases ej : j < q
            · exact hJ.out j ej
            · rw [HOK.out]
              omega) HBX.out
          have HF := Lib.hid hF
          clear hF hJ
          go_wp2_with fail
          go_ret3
          exact HF.out
      · have hhi : hi = 155 ∧ 157 ≤ p.size := by have := HHI.out; omega
        by_cases e : q ≤ hi
        · have d1 : decide ((q : Int) ≤ 155) = true := decide_eq_true (by omega)
          have hqz : (q : Int) < (p.size : Int) := by omega
          have hq0 : (0 : Int) ≤ (q : Int) := by omega
          have e' : q < p.size := by omega
          have hby := byte_at p q e'
          obtain ⟨q1, hq1⟩ : ∃ q1, q1 = q + 1 := ⟨_, rfl⟩
          have hq1z : (q : Int) + 1 = (q1 : Int) := by omega
          have hq10 : (0 : Int) ≤ (q1 : Int) := by omega
          have hq1s : (q1 : Int) ≤ (p.size : Int) := by omega
          have hqs : (q : Int) ≤ (p.size : Int) := by omega
          by_cases e2 : (p[q]).toNat = 47
          · have d2 : ((((p[q]).toNat : Nat) : Int) == ((((⟨#[47]⟩ : ByteArray)[0]'(by decide)).toNat : Nat) : Int)) = true := by rw [e2]; rfl
            have hF := HP.out (p.data.toList.take q) (p.data.toList.drop q1) true (wr.drew.drew) (by
              have := splitF_hit p.data.toList p.size 0 q (by omega) (fun j _ h2 => hJ.out j (by omega)) (by rw [Nat.zero_add, HOK.out]; exact ⟨by rw [hby]; exact e2, hq, e⟩)
              rw [Nat.zero_add] at this
              rw [hq1]
              exact this) HBX.out.drew.drew
            rw [← ext_front, ← ext_back] at hF
            have HF := Lib.hid hF
            have HQ1 := Lib.hid hq1
            clear hF hJ hby e2 hq1
            go_wp2_with fail
            go_region
            go_wp2_with fail
            go_region
            go_wp2_with fail
            go_ret3
            exact HF.out
          · have d2 : ((((p[q]).toNat : Nat) : Int) == ((((⟨#[47]⟩ : ByteArray)[0]'(by decide)).toNat : Nat) : Int)) = false := beq_false_of_ne (by rw [slash_lit]; omega)
            have HJ2 := Lib.hid (show ∀ j, j < q1 → ¬ okAt p.data.toList j from fun j hj => by
              by_cases ej : j = q
              · rw [ej, HOK.out, hby]
                exact fun h => e2 h.1
              · exact hJ.out j (by omega))
            have hq1l : lo ≤ q1 := by omega
            have hq1h : q1 ≤ p.size := by omega
            have hqm : hi + 1 - q1 < hi + 1 - q := by omega
            clear hJ hby e2 hq1
            go_wp2_with fail
            go_region
            go_wp2_with fail
            go_roundw
            case rel => exact ⟨q1, by go_num, hq1l, hq1h, HBX.out.drew, HJ2⟩
            case measure => simp [intOf]; omega
        · have d1 : decide ((q : Int) ≤ 155) = false := decide_eq_false (by omega)
          have hF := HP.out [] [] false wr (splitF_skip _ _ _ fun j _ _ => by
            by_cases ej : j < q
            · exact hJ.out j ej
            · rw [HOK.out]
              omega) HBX.out
          have HF := Lib.hid hF
          clear hF hJ
          go_wp2_with fail
          go_ret3
          exact HF.out
  · have hlo1 : (p.size : Int) - 1 - 100 = (lo : Int) := by have := HLO.out; omega
    go_enter Tryz.func27, Tryz.ntmps27
    go_wp2_with fail
    go_loopw [5] (fun si wx => ∃ q : Nat, si = .int .i64 q ∧ lo ≤ q ∧ q ≤ p.size ∧ Below w.heap.size w wx ∧ Hid (∀ j, j < q → ¬ okAt p.data.toList j)) (fun si _ => hi + 1 - (intOf si).toNat)
    case atStart => exact ⟨lo, by rw [← hlo1], Nat.le_refl _, hlh, Below.refl _ _, Lib.hid fun j hj h => by have := (HOK.out j).1 h; omega⟩
    case round =>
      obtain ⟨q, rfl, hq, hq2, hbx, hJ⟩ := hrel
      have HBX := Lib.hid hbx
      clear hbx
      by_cases hB : (p.size : Int) - 2 < 155
      · have hhi : hi + 2 = p.size := by have := HHI.out; omega
        by_cases e : q ≤ hi
        · have d1 : decide ((q : Int) ≤ (p.size : Int) - 2) = true := decide_eq_true (by omega)
          have hqz : (q : Int) < (p.size : Int) := by omega
          have hq0 : (0 : Int) ≤ (q : Int) := by omega
          have e' : q < p.size := by omega
          have hby := byte_at p q e'
          obtain ⟨q1, hq1⟩ : ∃ q1, q1 = q + 1 := ⟨_, rfl⟩
          have hq1z : (q : Int) + 1 = (q1 : Int) := by omega
          have hq10 : (0 : Int) ≤ (q1 : Int) := by omega
          have hq1s : (q1 : Int) ≤ (p.size : Int) := by omega
          have hqs : (q : Int) ≤ (p.size : Int) := by omega
          by_cases e2 : (p[q]).toNat = 47
          · have d2 : ((((p[q]).toNat : Nat) : Int) == ((((⟨#[47]⟩ : ByteArray)[0]'(by decide)).toNat : Nat) : Int)) = true := by rw [e2]; rfl
            have hF := HP.out (p.data.toList.take q) (p.data.toList.drop q1) true (wr.drew.drew) (by
              have := splitF_hit p.data.toList p.size 0 q (by omega) (fun j _ h2 => hJ.out j (by omega)) (by rw [Nat.zero_add, HOK.out]; exact ⟨by rw [hby]; exact e2, hq, e⟩)
              rw [Nat.zero_add] at this
              rw [hq1]
              exact this) HBX.out.drew.drew
            rw [← ext_front, ← ext_back] at hF
            have HF := Lib.hid hF
            have HQ1 := Lib.hid hq1
            clear hF hJ hby e2 hq1
            go_wp2_with fail
            go_region
            go_wp2_with fail
            go_region
            go_wp2_with fail
            go_ret3
            exact HF.out
          · have d2 : ((((p[q]).toNat : Nat) : Int) == ((((⟨#[47]⟩ : ByteArray)[0]'(by decide)).toNat : Nat) : Int)) = false := beq_false_of_ne (by rw [slash_lit]; omega)
            have HJ2 := Lib.hid (show ∀ j, j < q1 → ¬ okAt p.data.toList j from fun j hj => by
              by_cases ej : j = q
              · rw [ej, HOK.out, hby]
                exact fun h => e2 h.1
              · exact hJ.out j (by omega))
            have hq1l : lo ≤ q1 := by omega
            have hq1h : q1 ≤ p.size := by omega
            have hqm : hi + 1 - q1 < hi + 1 - q := by omega
            clear hJ hby e2 hq1
            go_wp2_with fail
            go_region
            go_wp2_with fail
            go_roundw
            case rel => exact ⟨q1, by go_num, hq1l, hq1h, HBX.out.drew, HJ2⟩
            case measure => simp [intOf]; omega
        · have d1 : decide ((q : Int) ≤ (p.size : Int) - 2) = false := decide_eq_false (by omega)
          have hF := HP.out [] [] false wr (splitF_skip _ _ _ fun j _ _ => by
            by_cases ej : j < q
            · exact hJ.out j ej
            · rw [HOK.out]
              omega) HBX.out
          have HF := Lib.hid hF
          clear hF hJ
          go_wp2_with fail
          go_ret3
          exact HF.out
      · have hhi : hi = 155 ∧ 157 ≤ p.size := by have := HHI.out; omega
        by_cases e : q ≤ hi
        · have d1 : decide ((q : Int) ≤ 155) = true := decide_eq_true (by omega)
          have hqz : (q : Int) < (p.size : Int) := by omega
          have hq0 : (0 : Int) ≤ (q : Int) := by omega
          have e' : q < p.size := by omega
          have hby := byte_at p q e'
          obtain ⟨q1, hq1⟩ : ∃ q1, q1 = q + 1 := ⟨_, rfl⟩
          have hq1z : (q : Int) + 1 = (q1 : Int) := by omega
          have hq10 : (0 : Int) ≤ (q1 : Int) := by omega
          have hq1s : (q1 : Int) ≤ (p.size : Int) := by omega
          have hqs : (q : Int) ≤ (p.size : Int) := by omega
          by_cases e2 : (p[q]).toNat = 47
          · have d2 : ((((p[q]).toNat : Nat) : Int) == ((((⟨#[47]⟩ : ByteArray)[0]'(by decide)).toNat : Nat) : Int)) = true := by rw [e2]; rfl
            have hF := HP.out (p.data.toList.take q) (p.data.toList.drop q1) true (wr.drew.drew) (by
              have := splitF_hit p.data.toList p.size 0 q (by omega) (fun j _ h2 => hJ.out j (by omega)) (by rw [Nat.zero_add, HOK.out]; exact ⟨by rw [hby]; exact e2, hq, e⟩)
              rw [Nat.zero_add] at this
              rw [hq1]
              exact this) HBX.out.drew.drew
            rw [← ext_front, ← ext_back] at hF
            have HF := Lib.hid hF
            have HQ1 := Lib.hid hq1
            clear hF hJ hby e2 hq1
            go_wp2_with fail
            go_region
            go_wp2_with fail
            go_region
            go_wp2_with fail
            go_ret3
            exact HF.out
          · have d2 : ((((p[q]).toNat : Nat) : Int) == ((((⟨#[47]⟩ : ByteArray)[0]'(by decide)).toNat : Nat) : Int)) = false := beq_false_of_ne (by rw [slash_lit]; omega)
            have HJ2 := Lib.hid (show ∀ j, j < q1 → ¬ okAt p.data.toList j from fun j hj => by
              by_cases ej : j = q
              · rw [ej, HOK.out, hby]
                exact fun h => e2 h.1
              · exact hJ.out j (by omega))
            have hq1l : lo ≤ q1 := by omega
            have hq1h : q1 ≤ p.size := by omega
            have hqm : hi + 1 - q1 < hi + 1 - q := by omega
            clear hJ hby e2 hq1
            go_wp2_with fail
            go_region
            go_wp2_with fail
            go_roundw
            case rel => exact ⟨q1, by go_num, hq1l, hq1h, HBX.out.drew, HJ2⟩
            case measure => simp [intOf]; omega
        · have d1 : decide ((q : Int) ≤ 155) = false := decide_eq_false (by omega)
          have hF := HP.out [] [] false wr (splitF_skip _ _ _ fun j _ _ => by
            by_cases ej : j < q
            · exact hJ.out j ej
            · rw [HOK.out]
              omega) HBX.out
          have HF := Lib.hid hF
          clear hF hJ
          go_wp2_with fail
          go_ret3
          exact HF.out

end Go.Proofs.YtdjmfkodjjjhfaaGreatDoor
