/- The code's run: the digits that stand ahead, read. Conditions: room for at most 262144; slices of whole cells. -/
import Derived.Test.YtdlndcjiccfhgaaQa
import Derived.Test.YtdlndcjiccfhgaaQb
import Derived.WalkMore
import Derived.OwnWalk
namespace Go.Proofs.Ytdlndcjiccfhgaa
open Go.RowKit

/-- Z noughts are told ahead, by q digits. -/
def RunsTo (L : List Int) (room q Z : Nat) (wo : Nat) : Prop := ∀ (n most : Nat) (o : List Nat), 1 ≤ n → o.length + room = most → decZ n most L o 1 false = decZ n most (L.drop q) (o ++ List.replicate Z 0) wo false
/-- There are more noughts than room. -/
def RunsOver (L : List Int) (room : Nat) : Prop := ∀ (n most : Nat) (o : List Nat), 1 ≤ n → o.length + room = most → decZ n most L o 1 false = ([], 3)

theorem runs_none (L : List Int) (room : Nat) : RunsTo L room 0 0 1 := by
  intro n most o _ _
  simp
theorem runs_step {L : List Int} {room q Z wo s : Nat} (h : RunsTo L room q Z wo) (hq : L.drop q = (s : Int) :: L.drop (q + 1)) (hs : s < 2) (hr : Z + (s + 1) * wo ≤ room) : RunsTo L room (q + 1) (Z + (s + 1) * wo) (wo * 2) := by
  intro n most o hn ho
  rw [h n most o hn ho, hq, dec_cons, if_neg (by omega), if_neg (by simp), if_neg (by omega), if_neg (by omega), Int.toNat_natCast, if_neg (by rw [List.length_append, List.length_replicate]; omega), List.append_assoc, List.replicate_append_replicate]
theorem runs_over {L : List Int} {room q Z wo s : Nat} (h : RunsTo L room q Z wo) (hq : L.drop q = (s : Int) :: L.drop (q + 1)) (hs : s < 2) (hr : room < Z + (s + 1) * wo) : RunsOver L room := by
  intro n most o hn ho
  rw [h n most o hn ho, hq, dec_cons, if_neg (by omega), if_neg (by simp), if_neg (by omega), if_neg (by omega), Int.toNat_natCast, if_pos (by rw [List.length_append, List.length_replicate]; omega)]

/-- What run answers. -/
def RunPost (m : Nat) (L : List Int) (room : Nat) (w : World) (e : Ending) (w' : World) : Prop := w = w' ∧
  ((∃ q Z wo, q ≤ m ∧ Z ≤ room ∧ e = .returned (.tuple #[.int .i64 (Z : Nat), .int .i64 (q : Nat), .bool true]) ∧ RunsTo L room q Z wo ∧ ∀ x l, L.drop q = x :: l → x ≠ 0 ∧ x ≠ 1) ∨
   (e = .returned (.tuple #[.int .i64 0, .int .i64 0, .bool false]) ∧ RunsOver L room))

set_option maxHeartbeats 1600000 in
set_option maxRecDepth 100000 in
theorem cread_any (w : World) (A : Option Addr) (m c : Nat) (L : List Int) (room : Nat) (hL : ZIn w A m L) (hm : m ≤ 1000000) (hr : room ≤ 262144) : Calls Try.prog 19 #[.int .i64 room, .slice A m c] w (RunPost m L room w) := by
  have HL := Lib.hid hL
  have hlm := hL.1
  have HLM := Lib.hid hlm
  have HP : Hid (∀ q Z wo, q ≤ m → Z ≤ room → RunsTo L room q Z wo → (∀ x l, L.drop q = x :: l → x ≠ 0 ∧ x ≠ 1) → RunPost m L room w (.returned (.tuple #[.int .i64 (Z : Nat), .int .i64 (q : Nat), .bool true])) w) := Lib.hid fun q Z wo h1 h2 h3 h4 => ⟨rfl, Or.inl ⟨q, Z, wo, h1, h2, rfl, h3, h4⟩⟩
  have HQ : Hid (RunsOver L room → RunPost m L room w (.returned (.tuple #[.int .i64 0, .int .i64 0, .bool false])) w) := Lib.hid fun h => ⟨rfl, Or.inr ⟨rfl, h⟩⟩
  clear hL hlm
  generalize RunPost m L room w = PO at *
  go_enter Try.func19, Try.ntmps19
  go_wp2_with fail
  go_step3
  go_wp2_with fail
  go_step3
  go_wp2_with fail
  go_loopw [4, 5, 11] (fun no di i wx => ∃ (q Z P : Nat), q ≤ m ∧ Z ≤ room ∧ P = 2 ^ q ∧ P ≤ Z + 1 ∧ no = .int .i64 Z ∧ di = .int .i64 q ∧ i = .int .i64 q ∧ Hid (RunsTo L room q Z P) ∧ wx = w) (fun _ _ i _ => m - (intOf i).toNat)
  case atStart => exact ⟨0, 0, 1, Nat.zero_le _, Nat.zero_le _, rfl, Nat.le_refl _, rfl, rfl, rfl, Lib.hid (runs_none _ _), rfl⟩
  case round =>
    obtain ⟨q, Z, P, hq, hZ, hP, hPZ, rfl, rfl, rfl, hto, rfl⟩ := hrel
    by_cases e : q < m
    · have d2 : decide ((q : Int) < (m : Int)) = true := decide_eq_true (by omega)
      obtain ⟨b, off, rfl, hc⟩ := HL.out.2 (by omega)
      have hcw := hc q e
      have hdr : L.drop q = L.getD q 0 :: L.drop (q + 1) := by
        rw [List.drop_eq_getElem_cons (by rw [HLM.out]; exact e), List.getD_eq_getElem?_getD, List.getElem?_eq_getElem (by rw [HLM.out]; exact e)]
        rfl
      obtain ⟨x, hx⟩ : ∃ x, x = L.getD q 0 := ⟨_, rfl⟩
      rw [← hx] at hcw hdr
      have HDR := Lib.hid hdr
      have hq20 : q < 20 := by
        rcases Nat.lt_or_ge q 20 with h | h
        · exact h
        · exfalso
          have h2 : 2 ^ 20 ≤ 2 ^ q := Nat.pow_le_pow_right (by decide) h
          have h3 : (2 : Nat) ^ 20 = 1048576 := by decide
          omega
      clear hc hx hdr
      have hy : ((2 : Int) ^ q) = (P : Int) := by rw [hP]; simp
      have HPP := Lib.hid hP
      have hP2 : P ≤ 262145 := by omega
      clear hP
      by_cases h01 : x = 0 ∨ x = 1
      · obtain ⟨s, rfl, hs⟩ : ∃ s : Nat, x = s ∧ s < 2 := ⟨x.toNat, by omega, by omega⟩
        obtain ⟨t, ht⟩ : ∃ t, t = (s + 1) * P := ⟨_, rfl⟩
        have ht1 : P ≤ t := by rw [ht]; exact Nat.le_mul_of_pos_left P (by omega)
        have ht2 : t ≤ 2 * P := by rw [ht]; exact Nat.mul_le_mul_right P (by omega)
        have hsh : IntKind.i64.wrap (((s : Int) + 1) * (P : Int)) = (t : Int) := by
          have : ((s : Int) + 1) * (P : Int) = (t : Int) := by rw [ht]; simp
          rw [this, IntKind.wrap_i64]
          omega
        have HT := Lib.hid ht
        have key : ((s : Int) + 1) * (P : Int) = (t : Int) := by rw [ht]; simp
        by_cases er : room < Z + t
        · have hover := runs_over hto.out HDR.out hs (by rw [← ht]; exact er)
          have HPO := Lib.hid (HQ.out hover)
          have d3 : decide ((room : Int) < (Z : Int) + (t : Int)) = true := decide_eq_true (by omega)
          clear h01 hover HP HQ hsh
          rcases Nat.lt_or_ge s 1 with h0 | h0
          · obtain rfl : s = 0 := by omega
            obtain rfl : t = P := by omega
            clear key ht
            go_wp2_with fail
            (try rw [Exit.noGoto_ret])
            go_ret3
            exact HPO.out
          · obtain rfl : s = 1 := by omega
            have k2 : (2 : Int) * (P : Int) = (t : Int) := by omega
            clear key ht er h0 hs
            go_wp2_with fail
            (try rw [Exit.noGoto_ret])
            go_ret3
            exact HPO.out
        · have hto2 := runs_step hto.out HDR.out hs (by rw [← ht]; omega)
          rw [← ht] at hto2
          have HTO := Lib.hid hto2
          have d3 : decide ((room : Int) < (Z : Int) + (t : Int)) = false := decide_eq_false (by omega)
          have hZt : Z + t ≤ room := by omega
          have hpow : P * 2 = 2 ^ (q + 1) := by rw [HPP.out, Nat.pow_succ]
          have HPW := Lib.hid hpow
          clear h01 hto2 HP HQ hsh hpow er
          rcases Nat.lt_or_ge s 1 with h0 | h0
          · obtain rfl : s = 0 := by omega
            obtain rfl : t = P := by omega
            clear key ht
            go_wp2_with fail
            go_roundw
            case rel => exact ⟨q + 1, Z + t, t * 2, by omega, hZt, HPW.out, by omega, by go_num, by go_num, by go_num, HTO, trivial⟩
            case measure => simp [intOf]; omega
          · obtain rfl : s = 1 := by omega
            have k2 : (2 : Int) * (P : Int) = (t : Int) := by omega
            clear key ht h0 hs
            go_wp2_with fail
            go_roundw
            case rel => exact ⟨q + 1, Z + t, P * 2, by omega, hZt, HPW.out, by omega, by go_num, by go_num, by go_num, HTO, trivial⟩
            case measure => simp [intOf]; omega
      · have e0 : (x == 0) = false := by
          rw [beq_eq_false_iff_ne]
          omega
        have e1 : (x == 1) = false := by
          rw [beq_eq_false_iff_ne]
          omega
        have hpost := HP.out q Z P hq hZ hto.out (by
          intro y l h
          rw [HDR.out] at h
          simp only [List.cons.injEq] at h
          rw [← h.1]
          omega)
        have HPO := Lib.hid hpost
        clear hpost
        go_wp2_with fail
        (try rw [Exit.noGoto_ret])
        go_ret3
        exact HPO.out
    · obtain rfl : q = m := by omega
      have d2 : decide ((q : Int) < (q : Int)) = false := decide_eq_false (by omega)
      have hpost := HP.out q Z P (Nat.le_refl _) hZ hto.out (by
        intro x l h
        rw [List.drop_of_length_le (Nat.le_of_eq HLM.out)] at h
        cases h)
      have HPO := Lib.hid hpost
      clear hpost
      go_wp2_with fail
      (try rw [Exit.noGoto_ret])
      go_ret3
      exact HPO.out

end Go.Proofs.Ytdlndcjiccfhgaa
