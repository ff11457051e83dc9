/- The reference of paths: Cmp, Split, Under. Conditions: for Cmp texts of at most a million bytes. Written ahead of stage 14. -/
import Derived.Test.YtiihkjloenlfmaaDoorPtc
namespace Go.Proofs.YtiihkjloenlfmaaDoor
open Go.RowKit

theorem cmpF_step (X Y : List (List UInt8)) (q : Nat) (hx : q < X.length) (hy : q < Y.length) : cmpF (X.drop q) (Y.drop q) = if X.getD q [] < Y.getD q [] then -1 else if Y.getD q [] < X.getD q [] then 1 else cmpF (X.drop (q + 1)) (Y.drop (q + 1)) := by
  rw [list_drop X q hx, list_drop Y q hy, cmpF]
theorem SLn.drewN {w : World} {A : Option Addr} {n : Nat} {L : List (List UInt8)} (h : SLn w A n L) (k : Nat) : SLn (w.drewN k) A n L := h

theorem extract_take (t : ByteArray) (k : Nat) : t.extract 0 k = strP (t.data.toList.take k) := by
  apply ByteArray.ext
  apply Array.toList_inj.1
  rw [ext_list, List.drop_zero]
  rfl
theorem extract_drop (t : ByteArray) (k : Nat) : t.extract k t.size = strP (t.data.toList.drop k) := by
  apply ByteArray.ext
  apply Array.toList_inj.1
  rw [ext_list, List.take_of_length_le (show t.data.toList.length ≤ t.size from Nat.le_refl _)]
  rfl
theorem splitF_no {p : List UInt8} {k i : Nat} (h : ¬ okAt p i) : splitF p (k + 1) i = splitF p k (i + 1) := if_neg h
theorem splitF_yes {p : List UInt8} {k i : Nat} (h : okAt p i) : splitF p (k + 1) i = (p.take i, p.drop (i + 1), true) := if_pos h
set_option maxHeartbeats 3200000 in
set_option maxRecDepth 100000 in
theorem rsplit_any (w : World) (p : ByteArray) (hp : p.size ≤ 9223372036854775807) : Calls Tryd.prog 24 #[.string p] w fun e w' => e = .returned (.tuple #[.string (strP (splitL p.data.toList).1), .string (strP (splitL p.data.toList).2.1), .bool (splitL p.data.toList).2.2]) ∧ Below w.heap.size w w' := by
  have hlp : p.data.toList.length = p.size := rfl
  have hself := strP_self p
  have hsp : splitL p.data.toList = if p.size ≤ 100 then ([], p.data.toList, true) else splitF p.data.toList p.size 0 := rfl
  have HP : Hid (∀ (x y : List UInt8) (b : Bool) (w' : World), splitL p.data.toList = (x, y, b) → Below w.heap.size w w' → (fun e w' => e = Ending.returned (.tuple #[.string (strP (splitL p.data.toList).1), .string (strP (splitL p.data.toList).2.1), .bool (splitL p.data.toList).2.2]) ∧ Below w.heap.size w w') (.returned (.tuple #[.string (strP x), .string (strP y), .bool b])) w') := Lib.hid fun x y b w' h hb => ⟨by rw [h], hb⟩
  generalize (fun e w' => e = Ending.returned (.tuple #[.string (strP (splitL p.data.toList).1), .string (strP (splitL p.data.toList).2.1), .bool (splitL p.data.toList).2.2]) ∧ Below w.heap.size w w') = PO at *
  generalize splitL p.data.toList = S at *
  by_cases e0 : p.size ≤ 100
  · have d0 : decide ((p.size : Int) ≤ 100) = true := decide_eq_true (by omega)
    rw [if_pos e0] at hsp
    have HF := Lib.hid (HP.out _ _ _ w hsp (Below.refl _ _))
    rw [hself] at HF
    clear hsp hself hlp
    go_enter Tryd.func24, Tryd.ntmps24
    go_wp2_with fail
    go_ret3
    exact HF.out
  · have d0 : decide ((p.size : Int) ≤ 100) = false := decide_eq_false (by omega)
    rw [if_neg e0] at hsp
    have HSP := Lib.hid hsp
    have HLP := Lib.hid hlp
    clear hsp hself hlp e0
    go_enter Tryd.func24, Tryd.ntmps24
    go_wp2_with fail
    go_loopw [5] (fun si wx => ∃ q : Nat, si = .int .i64 q ∧ q ≤ p.size ∧ wx = w ∧ Hid (S = splitF p.data.toList (p.size - q) q)) (fun si _ => p.size - (intOf si).toNat)
    case atStart => exact ⟨0, rfl, Nat.zero_le _, rfl, Lib.hid HSP.out⟩
    case round =>
      obtain ⟨q, rfl, hq, rfl, hJ⟩ := hrel
      by_cases e : q < p.size
      · have dq : decide ((q : Int) < (p.size : Int)) = true := decide_eq_true (by omega)
        have hqz : (q : Int) < p.size := by omega
        obtain ⟨k, hk⟩ : ∃ k, p.size - q = k + 1 := ⟨p.size - q - 1, by omega⟩
        have hj := hJ.out
        rw [hk] at hj
        have hby := byte_at p q e
        obtain ⟨b1, hb1⟩ : ∃ b1, b1 = p.size - q := ⟨_, rfl⟩
        obtain ⟨b2, hb2⟩ : ∃ b2, b2 = p.size - q - 1 := ⟨_, rfl⟩
        have hb1z : (p.size : Int) - (q : Int) = (b1 : Int) := by omega
        have hb2z : (b1 : Int) - 1 = (b2 : Int) := by omega
        have HJ := Lib.hid hj
        have HK := Lib.hid hk
        have HB2 := Lib.hid hb2
        have hok : okAt p.data.toList q ↔ (p[q]).toNat = 47 ∧ 1 ≤ q ∧ q ≤ 155 ∧ 1 ≤ b2 ∧ b2 ≤ 100 := by
          unfold okAt
          rw [hby, HLP.out]
          omega
        have HOK := Lib.hid hok
        clear hj hk hb1 hb2 hJ hok hby
        have no : ¬ okAt p.data.toList q → S = splitF p.data.toList (p.size - (q + 1)) (q + 1) := fun h => by
          rw [HJ.out, splitF_no h, show p.size - (q + 1) = k by have := HK.out; omega]
        by_cases g1 : (p[q]).toNat = 47
        · have f1 : ((((p[q]).toNat : Nat) : Int) == 47) = true := beq_iff_eq.2 (by omega)
          by_cases g2 : 1 ≤ q
          · have f2 : decide ((1 : Int) ≤ (q : Int)) = true := decide_eq_true (by omega)
            by_cases g3 : q ≤ 155
            · have f3 : decide ((q : Int) ≤ 155) = true := decide_eq_true (by omega)
              by_cases g4 : 1 ≤ b2
              · have f4 : decide ((1 : Int) ≤ (b2 : Int)) = true := decide_eq_true (by omega)
                by_cases g5 : b2 ≤ 100
                · have f5 : decide ((b2 : Int) ≤ 100) = true := decide_eq_true (by omega)
                  have hy := splitF_yes (k := k) (HOK.out.2 ⟨g1, g2, g3, g4, g5⟩)
                  have HF := Lib.hid fun w' (hb : Below wr.heap.size wr w') => HP.out _ _ _ w' (HJ.out.trans hy) hb
                  rw [← extract_take, ← extract_drop] at HF
                  obtain ⟨q1, hq1⟩ : ∃ q1, q1 = q + 1 := ⟨_, rfl⟩
                  have hq1z : (q : Int) + 1 = (q1 : Int) := by omega
                  have hq1b : (q1 : Int) ≤ (p.size : Int) := by omega
                  rw [← hq1] at HF
                  clear no hq1 hy g1
                  go_wp2_with fail
                  go_region
                  go_wp2_with fail
                  go_ret3
                  exact HF.out _ ((Below.refl _ _).drew)
                · have f5 : decide ((b2 : Int) ≤ 100) = false := decide_eq_false (by omega)
                  have HN := Lib.hid (no fun h => g5 (HOK.out.1 h).2.2.2.2)
                  clear no g1
                  go_wp2_with fail
                  go_roundw
                  case rel => exact ⟨q + 1, by go_num, by omega, by first | rfl | trivial, HN⟩
                  case measure => simp [intOf]; omega
              · have f4 : decide ((1 : Int) ≤ (b2 : Int)) = false := decide_eq_false (by omega)
                have HN := Lib.hid (no fun h => g4 (HOK.out.1 h).2.2.2.1)
                clear no g1
                go_wp2_with fail
                go_roundw
                case rel => exact ⟨q + 1, by go_num, by omega, by first | rfl | trivial, HN⟩
                case measure => simp [intOf]; omega
            · have f3 : decide ((q : Int) ≤ 155) = false := decide_eq_false (by omega)
              have HN := Lib.hid (no fun h => g3 (HOK.out.1 h).2.2.1)
              clear no g1
              go_wp2_with fail
              go_roundw
              case rel => exact ⟨q + 1, by go_num, by omega, by first | rfl | trivial, HN⟩
              case measure => simp [intOf]; omega
          · have f2 : decide ((1 : Int) ≤ (q : Int)) = false := decide_eq_false (by omega)
            have HN := Lib.hid (no fun h => g2 (HOK.out.1 h).2.1)
            clear no g1
            go_wp2_with fail
            go_roundw
            case rel => exact ⟨q + 1, by go_num, by omega, by first | rfl | trivial, HN⟩
            case measure => simp [intOf]; omega
        · have f1 : ((((p[q]).toNat : Nat) : Int) == 47) = false := beq_false_of_ne (by omega)
          have HN := Lib.hid (no fun h => g1 (HOK.out.1 h).1)
          clear no g1
          go_wp2_with fail
          go_roundw
          case rel => exact ⟨q + 1, by go_num, by omega, by first | rfl | trivial, HN⟩
          case measure => simp [intOf]; omega
      · obtain rfl : q = p.size := by omega
        have hj := hJ.out
        rw [Nat.sub_self, splitF] at hj
        have HF := Lib.hid (HP.out [] [] false wr hj (Below.refl _ _))
        clear hj hJ
        go_wp2_with fail
        go_ret3
        exact HF.out
end Go.Proofs.YtiihkjloenlfmaaDoor
