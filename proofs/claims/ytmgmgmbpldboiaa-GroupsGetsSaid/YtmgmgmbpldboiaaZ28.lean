/- Dla: texts laid together, what is not used left out. -/
import Derived.Test.YtmgmgmbpldboiaaZ08
import Derived.Test.YtmgmgmbpldboiaaZ24
import Derived.Test.YtmgmgmbpldboiaaZ25
namespace Go.Proofs.Ytmgmgmbpldboiaa.S10
open Go.RowKit

set_option maxRecDepth 100000 in
theorem enough_any (w : World) (n : Int) : Calls Try.prog 46 #[.int .i64 n] w fun e w' => e = .returned (.bool (decide (2 ≤ n ∧ n ≤ 258))) ∧ w = w' := by
  by_cases h1 : 2 ≤ n
  · by_cases h2 : n ≤ 258
    · have d0 : decide ((2 : Int) ≤ n) = true := decide_eq_true h1
      have d1 : decide (n ≤ (258 : Int)) = true := decide_eq_true h2
      have hd : decide (2 ≤ n ∧ n ≤ 258) = true := decide_eq_true ⟨h1, h2⟩
      go_enter Try.func46, Try.ntmps46
      go_wp2_with fail
      go_ret
      first | exact ⟨rfl, rfl⟩ | (rw [hd]; exact ⟨rfl, rfl⟩)
    · have d0 : decide ((2 : Int) ≤ n) = true := decide_eq_true h1
      have d1 : decide (n ≤ (258 : Int)) = false := decide_eq_false h2
      have hd : decide (2 ≤ n ∧ n ≤ 258) = false := decide_eq_false (by omega)
      go_enter Try.func46, Try.ntmps46
      go_wp2_with fail
      go_ret
      first | exact ⟨rfl, rfl⟩ | (rw [hd]; exact ⟨rfl, rfl⟩)
  · have d0 : decide ((2 : Int) ≤ n) = false := decide_eq_false h1
    have hd : decide (2 ≤ n ∧ n ≤ 258) = false := decide_eq_false (by omega)
    go_enter Try.func46, Try.ntmps46
    go_wp2_with fail
    go_ret
    first | exact ⟨rfl, rfl⟩ | (rw [hd]; exact ⟨rfl, rfl⟩)

set_option maxRecDepth 100000 in
theorem wrong_any (w : World) (n : Int) : Calls Try.prog 48 #[.int .i64 n] w fun e w' => e = .returned (.bool (decide (n < 1 ∨ 20 < n))) ∧ w = w' := by
  by_cases h1 : n < 1
  · have d0 : decide (n < 1) = true := decide_eq_true h1
    have hd : decide (n < 1 ∨ 20 < n) = true := decide_eq_true (.inl h1)
    go_enter Try.func48, Try.ntmps48
    go_wp2_with fail
    go_ret
    first | exact ⟨rfl, rfl⟩ | (rw [hd]; exact ⟨rfl, rfl⟩)
  · by_cases h2 : 20 < n
    · have d0 : decide (n < 1) = false := decide_eq_false h1
      have d1 : decide ((20 : Int) < n) = true := decide_eq_true h2
      have hd : decide (n < 1 ∨ 20 < n) = true := decide_eq_true (.inr h2)
      go_enter Try.func48, Try.ntmps48
      go_wp2_with fail
      go_ret
      first | exact ⟨rfl, rfl⟩ | (rw [hd]; exact ⟨rfl, rfl⟩)
    · have d0 : decide (n < 1) = false := decide_eq_false h1
      have d1 : decide ((20 : Int) < n) = false := decide_eq_false h2
      have hd : decide (n < 1 ∨ 20 < n) = false := decide_eq_false (by omega)
      go_enter Try.func48, Try.ntmps48
      go_wp2_with fail
      go_ret
      first | exact ⟨rfl, rfl⟩ | (rw [hd]; exact ⟨rfl, rfl⟩)

/-- The function value that ContainsFunc is handed. -/
abbrev wrongV : Value := .func (.func 48) #[] #[]
def BadIn (L : List Int) : Prop := ∃ x ∈ L, x < 1 ∨ 20 < x
instance (L : List Int) : Decidable (BadIn L) := inferInstanceAs (Decidable (∃ x ∈ L, _))

set_option maxHeartbeats 1600000 in
set_option maxRecDepth 100000 in
theorem index_any (w : World) (A : Option Addr) (n c : Nat) (L : List Int) (hz : ZIn w A n L) (hn : n ≤ 1000000) : Calls Try.prog 71 #[.slice A n c, wrongV] w fun e w' => ∃ k : Int, e = .returned (.int .i64 k) ∧ (0 ≤ k ↔ BadIn L) ∧ Below w.heap.size w w' := by
  have HL := Lib.hid hz
  have HLM := Lib.hid hz.1
  have HW := Lib.hid wrong_any
  clear hz
  go_enter Try.func71, Try.ntmps71
  go_wp2_with fail
  go_loopw [5, 8] (fun s5 x wx => ∃ i : Nat, i ≤ n ∧ x = .int .i64 i ∧ Hid (¬ BadIn (L.take i)) ∧ wx = w) (fun _ x _ => n - (intOf x).toNat)
  case atStart =>
    refine ⟨0, Nat.zero_le _, rfl, Lib.hid ?_, rfl⟩
    rintro ⟨x, hx, _⟩
    cases hx
  case round =>
    obtain ⟨i, hi, rfl, hno, rfl⟩ := hrel
    by_cases e : i < n
    · have d0 : decide ((i : Int) < (n : Int)) = true := decide_eq_true (by omega)
      obtain ⟨b, off, rfl, hc⟩ := HL.out.2 (by omega)
      have hcw := hc i e
      have htk := take_next_int L i (by rw [HLM.out]; exact e)
      obtain ⟨x, hx⟩ : ∃ x, x = L.getD i 0 := ⟨_, rfl⟩
      rw [← hx] at hcw htk
      have HTK := Lib.hid htk
      have HX := Lib.hid hx
      clear hc hx htk
      go_wp2_with fail
      refine (HW.out _ x).mono ?_
      rintro e w1 ⟨rfl, rfl⟩
      by_cases hb : x < 1 ∨ 20 < x
      · rw [decide_eq_true hb]
        have HBB := Lib.hid hb
        clear hb
        go_wp2_with fail
        go_ret
        refine ⟨i, rfl, ⟨fun _ => ⟨x, ?_, HBB.out⟩, fun _ => by omega⟩, Below.refl _ _⟩
        rw [HX.out]
        exact int_mem (by rw [HLM.out]; exact e)
      · rw [decide_eq_false hb]
        have HBB := Lib.hid hb
        clear hb
        go_wp2_with fail
        go_roundw
        case rel =>
          refine ⟨i + 1, by omega, by go_num, Lib.hid ?_, trivial⟩
          rw [HTK.out]
          rintro ⟨y, hy, hyb⟩
          rcases List.mem_append.1 hy with hy | hy
          · exact hno.out ⟨y, hy, hyb⟩
          · rw [List.mem_singleton.1 hy] at hyb
            exact HBB.out hyb
        case measure => simp [intOf]; omega
    · obtain rfl : i = n := by omega
      have d0 : decide ((i : Int) < (i : Int)) = false := decide_eq_false (by omega)
      have hall : ¬ BadIn L := by
        have h := hno.out
        rw [List.take_of_length_le (Nat.le_of_eq HLM.out)] at h
        exact h
      have HALL := Lib.hid hall
      clear hall
      go_wp2_with fail
      go_ret
      exact ⟨-1, rfl, ⟨fun h => absurd h (by omega), fun h => absurd h HALL.out⟩, Below.refl _ _⟩

set_option maxHeartbeats 1600000 in
set_option maxRecDepth 100000 in
theorem contains_any (w : World) (A : Option Addr) (n c : Nat) (L : List Int) (hz : ZIn w A n L) (hn : n ≤ 1000000) : Calls Try.prog 47 #[.slice A n c, wrongV] w fun e w' => e = .returned (.bool (decide (BadIn L))) ∧ Below w.heap.size w w' := by
  have HI := Lib.hid (index_any w A n c L hz hn)
  clear hz
  go_enter Try.func47, Try.ntmps47
  go_wp2_with fail
  refine HI.out.mono ?_
  rintro e w1 ⟨k, rfl, hk, hb⟩
  have HB := Lib.hid hb
  by_cases h : BadIn L
  · have d0 : decide ((0 : Int) ≤ k) = true := decide_eq_true (hk.2 h)
    have HD := Lib.hid (decide_eq_true h)
    clear hb hk h
    go_wp2_with fail
    go_ret
    rw [HD.out]
    exact ⟨rfl, HB.out⟩
  · have d0 : decide ((0 : Int) ≤ k) = false := decide_eq_false fun h1 => h (hk.1 h1)
    have HD := Lib.hid (decide_eq_false h)
    clear hb hk h
    go_wp2_with fail
    go_ret
    rw [HD.out]
    exact ⟨rfl, HB.out⟩

theorem two_put (B : Nat) (w : World) (p : Nat) (v : Value) (L : List Nat) (q : Nat) (h : IsW B w p v L) (hL : L.length ≤ 1000000000000) (hq : q < 4) : Calls Try.prog 41 #[.pointer (some ⟨p, 0, none⟩), .int .u64 q, .int .i64 2] w fun e w' => e = .returned (.int .i64 0) ∧ ∃ v', IsW B w' p v' (L ++ bitsN q 2) ∧ Below B w w' :=
  (put_ok B w p v L q 2 h hL (by omega) hq).mono fun _ _ ⟨he, v', hW, hs⟩ => ⟨he, v', hW, hs.below⟩
theorem end_put (B : Nat) (w : World) (p : Nat) (v : Value) (L : List Nat) (h : IsW B w p v L) (hL : L.length ≤ 1000000000000) : Calls Try.prog 41 #[.pointer (some ⟨p, 0, none⟩), .int .u64 0, .int .i64 1] w fun e w' => e = .returned (.int .i64 0) ∧ ∃ v', IsW B w' p v' (L ++ [0]) ∧ Below B w w' :=
  (put_ok B w p v L 0 1 h hL (by omega) (by decide)).mono fun _ _ ⟨he, v', hW, hs⟩ => ⟨he, v', hW, hs.below⟩

set_option maxHeartbeats 1600000 in
set_option maxRecDepth 100000 in
/-- delta.tell: the steps of one length, behind what the writer holds. -/
theorem tell_any (B : Nat) (w : World) (p : Nat) (v : Value) (L : List Nat) (a x : Nat) (hW : IsW B w p v L) (hL : L.length ≤ 1000000) (ha : a ≤ 20) (hx : x ≤ 20) : Calls Try.prog 49 #[.pointer (some ⟨p, 0, none⟩), .int .i64 a, .int .i64 x] w fun e w' => e = .returned (.tuple #[]) ∧ ∃ v', IsW B w' p v' (L ++ stepB a x) ∧ Below B w w' := by
  have HW := Lib.hid hW
  have HUP := Lib.hid fun (w1 : World) (v1 : Value) (j : Nat) (h : IsW B w1 p v1 (L ++ ups j)) (hj : j ≤ 20) => two_put B w1 p v1 _ 2 h (by rw [List.length_append, ups_length]; omega) (by omega)
  have HDN := Lib.hid fun (w1 : World) (v1 : Value) (j : Nat) (h : IsW B w1 p v1 (L ++ ups (x - a) ++ downs j)) (hj : j ≤ 20) => two_put B w1 p v1 _ 3 h (by rw [List.length_append, List.length_append, ups_length, downs_length]; omega) (by omega)
  have HEN := Lib.hid fun (w1 : World) (v1 : Value) (h : IsW B w1 p v1 (L ++ ups (x - a) ++ downs (a - x))) => end_put B w1 p v1 _ h (by rw [List.length_append, List.length_append, ups_length, downs_length]; omega)
  clear hW
  go_enter Try.func49, Try.ntmps49
  go_wp2_with fail
  go_loopw [1] (fun f wx => ∃ (j : Nat) (v' : Value), j ≤ x - a ∧ f = .int .i64 (a + j : Nat) ∧ IsW B wx p v' (L ++ ups j) ∧ Below B w wx) (fun f _ => x - (intOf f).toNat)
  case atStart => exact ⟨0, v, Nat.zero_le _, rfl, by rw [show L ++ ups 0 = L from List.append_nil L]; exact HW.out, Below.refl _ _⟩
  case round =>
    obtain ⟨j, v1, hj, rfl, hW1, hb1⟩ := hrel
    by_cases e : a + j < x
    · have d0 : decide (((a + j : Nat) : Int) < (x : Int)) = true := decide_eq_true (by omega)
      have HC := Lib.hid (HUP.out wr v1 j hW1 (by omega))
      have HB := Lib.hid hb1
      clear hW1 hb1
      obtain ⟨m, hm⟩ : ∃ m, m = a + j := ⟨_, rfl⟩
      rw [← hm] at d0 e ⊢
      have HM := Lib.hid hm
      clear hm
      go_wp2_with fail
      refine HC.out.mono ?_
      rintro e w2 ⟨rfl, v2, hW2, hb2⟩
      have HW2 := Lib.hid hW2
      have HB2 := Lib.hid (HB.out.trans hb2)
      clear hW2 hb2
      go_wp2_with fail
      go_roundw
      case rel =>
        have := HM.out
        refine ⟨j + 1, v2, by omega, by rw [this]; go_num, ?_, HB2.out⟩
        rw [ups_snoc, ← List.append_assoc]
        exact HW2.out
      case measure => simp [intOf]; omega
    · have d0 : decide (((a + j : Nat) : Int) < (x : Int)) = false := decide_eq_false (by omega)
      obtain rfl : j = x - a := by omega
      obtain ⟨m, hm⟩ : ∃ m, m = a + (x - a) := ⟨_, rfl⟩
      have hmx : m = max a x := by omega
      rw [← hm] at d0 ⊢
      have HMX := Lib.hid hmx
      have HW1 := Lib.hid hW1
      have HB1 := Lib.hid hb1
      have e1 : ¬ m < x := by omega
      clear hm hmx hW1 hb1 hj e
      go_wp2_with fail
      go_loopw [1] (fun f wx => ∃ (j m' : Nat) (v' : Value), j ≤ a - x ∧ m' + j = m ∧ f = .int .i64 (m' : Nat) ∧ IsW B wx p v' (L ++ ups (x - a) ++ downs j) ∧ Below B w wx) (fun f _ => (intOf f).toNat)
      case atStart => exact ⟨0, m, v1, Nat.zero_le _, rfl, rfl, by rw [show L ++ ups (x - a) ++ downs 0 = L ++ ups (x - a) from List.append_nil _]; exact HW1.out, HB1.out⟩
      case round =>
        obtain ⟨j, k, v3, hj, hk, rfl, hW3, hb3⟩ := hrel
        have hmx := HMX.out
        by_cases e2 : x < k
        · have d1 : decide ((x : Int) < (k : Int)) = true := decide_eq_true (by omega)
          have HC := Lib.hid (HDN.out wr v3 j hW3 (by omega))
          have HB := Lib.hid hb3
          have HK := Lib.hid hk
          obtain ⟨q, hq⟩ : ∃ q, q + 1 = k := ⟨k - 1, by omega⟩
          have hq1 : (k : Int) - 1 = (q : Int) := by omega
          have hqb : q ≤ 40 := by omega
          have HQ := Lib.hid hq
          clear hW3 hb3 hk hmx hq
          go_wp2_with fail
          refine HC.out.mono ?_
          rintro e w2 ⟨rfl, v2, hW2, hb2⟩
          have HW2 := Lib.hid hW2
          have HB2 := Lib.hid (HB.out.trans hb2)
          clear hW2 hb2
          go_wp2_with fail
          go_roundw
          case rel =>
            have h1 := HK.out
            have h2 := HMX.out
            have h3 := HQ.out
            refine ⟨j + 1, q, v2, by omega, by omega, by go_num, ?_, HB2.out⟩
            rw [downs_snoc, ← List.append_assoc]
            exact HW2.out
          case measure =>
            have h3 := HQ.out
            simp [intOf]
            omega
        · have d1 : decide ((x : Int) < (k : Int)) = false := decide_eq_false (by omega)
          obtain rfl : j = a - x := by omega
          have HC := Lib.hid (HEN.out wr v3 hW3)
          have HB := Lib.hid hb3
          clear hW3 hb3 hk hmx hj
          go_wp2_with fail
          refine HC.out.mono ?_
          rintro e w2 ⟨rfl, v2, hW2, hb2⟩
          have HW2 := Lib.hid hW2
          have HB2 := Lib.hid (HB.out.trans hb2)
          clear hW2 hb2
          go_wp2_with fail
          try simp only [Exit.inBlock, Exit.then]
          go_end0
          refine ⟨rfl, v2, ?_, HB2.out⟩
          rw [show stepB a x = ups (x - a) ++ downs (a - x) ++ [0] from rfl, ← List.append_assoc, ← List.append_assoc]
          exact HW2.out

end Go.Proofs.Ytmgmgmbpldboiaa.S10
