/- lengths.taken, Check, Full. Conditions: none but the machine's own. -/
import Derived.Test.YtgnlpbnodijkgaaAb
import Derived.Test.YtgnlpbnodijkgaaYe
namespace Go.Proofs.Ytgnlpbnodijkgaa
open Go.RowKit

/-- Lengths, whether they leave room or take too much. -/
def AreLens (L : List Int) : Prop := 2 ≤ L.length ∧ L.length ≤ 258 ∧ ∀ x ∈ L, 1 ≤ x ∧ x ≤ 20
instance (L : List Int) : Decidable (AreLens L) := inferInstanceAs (Decidable (_ ∧ _))
def takenAns (L : List Int) : Nat × Bool := if AreLens L then (kraftL L, true) else (0, false)

theorem shr_room (y : Nat) (h : y ≤ 20) : 1048576 / 2 ^ y = 2 ^ (20 - y) := by
  have h1 : (1048576 : Nat) = 2 ^ (20 - y) * 2 ^ y := by rw [← Nat.pow_add, show 20 - y + y = 20 by omega]
  rw [h1, Nat.mul_div_cancel _ (Nat.pow_pos (by omega))]

set_option maxHeartbeats 1600000 in
set_option maxRecDepth 100000 in
theorem taken_any (w : World) (A : Option Addr) (n c : Nat) (L : List Int) (hL : ZIn w A n L) (hn : n ≤ maxLen) :
    Calls Try.prog 40 #[.slice A n c] w fun e w' => e = .returned (.tuple #[.int .i64 (takenAns L).1, .bool (takenAns L).2]) ∧ w' = w := by
  have hln := hL.1
  have HNO : Hid (∀ i, i < n → (L.getD i 0 < 1 ∨ 20 < L.getD i 0) → takenAns L = (0, false)) := Lib.hid fun i hi h => if_neg fun hm => by
    have := hm.2.2 _ (getD_mem_int L i (by omega))
    omega
  have HSM : Hid (¬ (2 ≤ n ∧ n ≤ 258) → takenAns L = (0, false)) := Lib.hid fun h => if_neg fun hm => h ⟨by have := hm.1; omega, by have := hm.2.1; omega⟩
  have HYES : Hid (2 ≤ n → n ≤ 258 → (∀ i, i < n → 1 ≤ L.getD i 0 ∧ L.getD i 0 ≤ 20) → takenAns L = (kraftL L, true)) := Lib.hid fun h1 h2 h => if_pos ⟨by omega, by omega, fun x hx => by
    obtain ⟨i, hi, rfl⟩ := List.getElem_of_mem hx
    have := h i (by omega)
    rwa [List.getD_eq_getElem?_getD, List.getElem?_eq_getElem hi] at this⟩
  have HE := Lib.hid (enough_any w n hn)
  generalize takenAns L = ans at *
  by_cases hN : 2 ≤ n ∧ n ≤ 258
  · have HMI := Lib.hid (min_any w A n c L hL (by omega) hn)
    have HMA := Lib.hid (max_any w A n c L hL (by omega) hn)
    rw [decide_eq_true hN.1, decide_eq_true hN.2] at HE
    have HL := Lib.hid hL
    have HLN := Lib.hid hln
    clear hL hln HSM
    unfold maxLen at hn
    go_enter Try.func40, Try.ntmps40
    go_wp2_with fail
    refine HE.out.mono ?_
    rintro e w' ⟨rfl, rfl⟩
    go_wp2_with fail
    refine HMI.out.mono ?_
    rintro e w2 ⟨m, rfl, hm, rfl⟩
    have HM1 := Lib.hid hm
    clear hm
    by_cases h0 : m < 1
    · have d0 : decide (m < 1) = true := decide_eq_true h0
      obtain ⟨i, hi, him⟩ := HM1.out.2
      have hans := HNO.out i hi (.inl (by omega))
      subst hans
      clear him
      go_wp2_with fail
      go_ret2
      exact ⟨rfl, rfl⟩
    · have d0 : decide (m < 1) = false := decide_eq_false h0
      go_wp2_with fail
      refine HMA.out.mono ?_
      rintro e w3 ⟨M, rfl, hM, rfl⟩
      have HM2 := Lib.hid hM
      clear hM
      by_cases h2 : 20 < M
      · have d2 : decide (20 < M) = true := decide_eq_true h2
        obtain ⟨i, hi, hiM⟩ := HM2.out.2
        have hans := HNO.out i hi (.inr (by omega))
        subst hans
        clear hiM
        go_wp2_with fail
        go_ret2
        exact ⟨rfl, rfl⟩
      · have d2 : decide (20 < M) = false := decide_eq_false h2
        have hall : ∀ i, i < n → 1 ≤ L.getD i 0 ∧ L.getD i 0 ≤ 20 := fun i hi => by
          have h3 := HM1.out.1 i hi
          have h4 := HM2.out.1 i hi
          omega
        have HALL := Lib.hid hall
        have hans := HYES.out hN.1 hN.2 hall
        subst hans
        clear hall HNO HYES HM1 HM2 HMI HMA HE h0
        go_wp2_with fail
        go_loopw [4, 6, 23] (fun s v i wx => ∃ (q z : Nat), q ≤ n ∧ i = .int .i64 q ∧ s = .int .i64 z ∧ Hid (z = kraftL (L.take q)) ∧ z ≤ q * 524288 ∧ wx = w3) (fun _ _ i _ => n - (intOf i).toNat)
        case atStart => exact ⟨0, 0, Nat.zero_le _, rfl, rfl, rfl, Nat.zero_le _, rfl⟩
        case round =>
          obtain ⟨q, z, hq, rfl, rfl, hz, hzb, rfl⟩ := hrel
          by_cases e : q < n
          · have dq : decide ((q : Int) < (n : Int)) = true := decide_eq_true (by omega)
            obtain ⟨b, off, rfl, hc⟩ := HL.out.2 (by omega)
            have hcw := hc q e
            have htk := take_snoc_int L q (by rw [HLN.out]; exact e)
            have hxb := HALL.out q e
            obtain ⟨x, hx⟩ : ∃ x, x = L.getD q 0 := ⟨_, rfl⟩
            rw [← hx] at hcw htk hxb
            obtain ⟨y, rfl⟩ : ∃ y : Nat, x = y := ⟨x.toNat, by omega⟩
            obtain ⟨t, ht⟩ : ∃ t : Nat, t = 2 ^ (20 - y) := ⟨_, rfl⟩
            have hty : (1048576 : Int) / (2 : Int) ^ y = (t : Int) := by
              have h1 : ((1048576 / 2 ^ y : Nat) : Int) = (t : Int) := by rw [shr_room y (by omega), ht]
              rw [← h1]
              simp
            have htb : t ≤ 524288 := by
              rw [ht]
              have : 2 ^ (20 - y) ≤ 2 ^ 19 := Nat.pow_le_pow_right (by decide) (by omega)
              exact this
            obtain ⟨z2, hz2⟩ : ∃ z2 : Nat, z2 = z + t := ⟨_, rfl⟩
            have hzz : (z : Int) + (t : Int) = (z2 : Int) := by omega
            have HZ2 : Hid (z2 = kraftL (L.take (q + 1))) := Lib.hid (by rw [htk, kraft_snoc, hz2, ← hz.out, ht, Int.toNat_natCast])
            have hz2b : z2 ≤ (q + 1) * 524288 := by rw [Nat.add_mul]; omega
            have hqb : q * 524288 ≤ 258 * 524288 := Nat.mul_le_mul_right _ (by omega)
            have hz2c : z2 ≤ 258 * 524288 + 524288 := by omega
            have w2 : IntKind.i64.wrap (z2 : Int) = (z2 : Int) := by rw [IntKind.wrap_i64]; omega
            have HTY := Lib.hid hty
            have HB2 := Lib.hid hz2b
            have hy0 : (0 : Int) ≤ (y : Int) := by omega
            clear hc hx ht htk hz hz2 hzb hqb HALL hz2b
            go_wp2_with fail
            go_roundw
            case rel => exact ⟨q + 1, z2, by omega, by go_num, by go_num, HZ2, HB2.out, trivial⟩
            case measure => simp [intOf]; omega
          · obtain rfl : q = n := by omega
            have dq : decide ((q : Int) < (q : Int)) = false := decide_eq_false (by omega)
            have hz2 := hz.out
            rw [List.take_of_length_le (Nat.le_of_eq HLN.out)] at hz2
            subst hz2
            clear hz hzb HALL HL
            go_wp2_with fail
            go_ret2
            exact ⟨rfl, rfl⟩
  · have hans := HSM.out hN
    subst hans
    rw [show (decide (2 ≤ n) && decide (n ≤ 258)) = false by rw [← Bool.decide_and]; exact decide_eq_false hN] at HE
    clear hL hln
    unfold maxLen at hn
    go_enter Try.func40, Try.ntmps40
    go_wp2_with fail
    refine HE.out.mono ?_
    rintro e w' ⟨rfl, rfl⟩
    go_wp2_with fail
    go_ret2
    exact ⟨rfl, rfl⟩

theorem lenOk_lens {L : List Int} : LenOk L ↔ AreLens L ∧ kraftL L ≤ 1048576 := by
  unfold LenOk AreLens
  constructor
  · rintro ⟨h1, h2, h3, h4⟩
    exact ⟨⟨h1, h2, h3⟩, h4⟩
  · rintro ⟨⟨h1, h2, h3⟩, h4⟩
    exact ⟨h1, h2, h3, h4⟩

set_option maxHeartbeats 1600000 in
set_option maxRecDepth 100000 in
theorem ccheck_any (w : World) (A : Option Addr) (n c : Nat) (L : List Int) (hL : ZIn w A n L) (hn : n ≤ maxLen) :
    Calls Try.prog 21 #[.slice A n c] w fun e w' => e = .returned (.int .i64 (if LenOk L then 0 else 80)) ∧ w' = w := by
  have HT := Lib.hid (taken_any w A n c L hL hn)
  by_cases h1 : AreLens L
  · have ht : takenAns L = (kraftL L, true) := if_pos h1
    rw [ht] at HT
    have hans : (if LenOk L then (0 : Int) else 80) = if kraftL L ≤ 1048576 then 0 else 80 := by
      by_cases e : kraftL L ≤ 1048576
      · rw [if_pos e, if_pos (lenOk_lens.2 ⟨h1, e⟩)]
      · rw [if_neg e, if_neg fun h => e (lenOk_lens.1 h).2]
    rw [hans]
    generalize kraftL L = z at *
    clear hL ht hans h1
    by_cases e : z ≤ 1048576
    · have d1 : decide ((1048576 : Int) < (z : Int)) = false := decide_eq_false (by omega)
      rw [if_pos e]
      go_enter Try.func21, Try.ntmps21
      go_wp2_with fail
      refine HT.out.mono ?_
      rintro e w' ⟨rfl, rfl⟩
      go_wp2_with fail
      go_ret
      exact ⟨rfl, rfl⟩
    · have d1 : decide ((1048576 : Int) < (z : Int)) = true := decide_eq_true (by omega)
      rw [if_neg e]
      go_enter Try.func21, Try.ntmps21
      go_wp2_with fail
      refine HT.out.mono ?_
      rintro e w' ⟨rfl, rfl⟩
      go_wp2_with fail
      go_ret
      exact ⟨rfl, rfl⟩
  · have ht : takenAns L = (0, false) := if_neg h1
    rw [ht] at HT
    rw [if_neg fun h => h1 (lenOk_lens.1 h).1]
    clear hL ht h1
    go_enter Try.func21, Try.ntmps21
    go_wp2_with fail
    refine HT.out.mono ?_
    rintro e w' ⟨rfl, rfl⟩
    go_wp2_with fail
    go_ret
    exact ⟨rfl, rfl⟩

end Go.Proofs.Ytgnlpbnodijkgaa
