/- The small functions of zrun's code: mayBe, endOf, symbol, behind. Conditions: numbers of 64 bits; slices of whole cells. -/
import Derived.Test.YtdlndcjiccfhgaaZe
namespace Go.Proofs.Ytdlndcjiccfhgaa
open Go.RowKit

theorem cmay_yes (w : World) (n : Int) (h1 : 1 ≤ n) (h2 : n ≤ 256) : Calls Try.prog 17 #[.int .i64 n] w fun e w' => e = .returned (.bool true) ∧ w = w' := by
  have d0 : decide ((1 : Int) ≤ n) = true := decide_eq_true h1
  have d1 : decide (n ≤ (256 : Int)) = true := decide_eq_true h2
  go_enter Try.func17, Try.ntmps17
  go_wp2_with fail
  go_ret
  exact ⟨rfl, rfl⟩
theorem cmay_no (w : World) (n : Int) (h : n < 1 ∨ 256 < n) : Calls Try.prog 17 #[.int .i64 n] w fun e w' => e = .returned (.bool false) ∧ w = w' := by
  by_cases h1 : 1 ≤ n
  · have d0 : decide ((1 : Int) ≤ n) = true := decide_eq_true h1
    have d1 : decide (n ≤ (256 : Int)) = false := decide_eq_false (by omega)
    clear h
    go_enter Try.func17, Try.ntmps17
    go_wp2_with fail
    go_ret
    exact ⟨rfl, rfl⟩
  · have d0 : decide ((1 : Int) ≤ n) = false := decide_eq_false h1
    clear h
    go_enter Try.func17, Try.ntmps17
    go_wp2_with fail
    go_ret
    exact ⟨rfl, rfl⟩

theorem cend_any (w : World) (n : Nat) (hn : n ≤ 256) : Calls Try.prog 18 #[.int .i64 n] w fun e w' => e = .returned (.int .i64 ((n : Int) + 1)) ∧ w = w' := by
  obtain ⟨n1, hn1⟩ : ∃ n1, n1 = n + 1 := ⟨_, rfl⟩
  have hnw : ((n : Int) + 1) = (n1 : Int) := by omega
  rw [hnw]
  have hb : n1 ≤ 257 := by omega
  clear hn1
  go_enter Try.func18, Try.ntmps18
  go_wp2_with fail
  go_ret
  exact ⟨rfl, rfl⟩

/-- A symbol that there is. -/
def SymOk (n : Nat) (s : Int) : Prop := 0 ≤ s ∧ s ≤ (n : Int) + 1
instance (n : Nat) (s : Int) : Decidable (SymOk n s) := inferInstanceAs (Decidable (_ ∧ _))

theorem csym_any (w : World) (n : Nat) (s : Int) (hn : n ≤ 256) : Calls Try.prog 20 #[.int .i64 n, .int .i64 s] w fun e w' => e = .returned (.bool (decide (SymOk n s))) ∧ w = w' := by
  have HE := Lib.hid (cend_any w n hn)
  by_cases h0 : 0 ≤ s
  · have d0 : decide ((0 : Int) ≤ s) = true := decide_eq_true h0
    have hd : decide (SymOk n s) = decide (s ≤ (n : Int) + 1) := by
      by_cases h : s ≤ (n : Int) + 1
      · have h2 : SymOk n s := ⟨h0, h⟩
        rw [decide_eq_true h, decide_eq_true h2]
      · rw [decide_eq_false h, decide_eq_false (fun h2 : SymOk n s => h h2.2)]
    rw [hd]
    generalize (n : Int) + 1 = t at *
    go_enter Try.func20, Try.ntmps20
    go_wp2_with fail
    refine HE.out.mono ?_
    rintro e w1 ⟨rfl, rfl⟩
    go_wp2_with fail
    go_ret
    exact ⟨rfl, rfl⟩
  · have d0 : decide ((0 : Int) ≤ s) = false := decide_eq_false h0
    have hd : decide (SymOk n s) = false := decide_eq_false (fun h2 => h0 h2.1)
    rw [hd]
    go_enter Try.func20, Try.ntmps20
    go_wp2_with fail
    go_ret
    exact ⟨rfl, rfl⟩

/-- What is wrong with the symbols behind the end. -/
def behF (n : Nat) : List Int → Nat
  | [] => 0
  | s :: _ => if SymOk n s then 70 else 60

theorem cbeh_any (w : World) (A : Option Addr) (m c : Nat) (L : List Int) (n : Nat) (hL : ZIn w A m L) (hn : n ≤ 256) : Calls Try.prog 21 #[.int .i64 n, .slice A m c] w fun e w' => e = .returned (.int .i64 (behF n L)) ∧ w = w' := by
  have hlm := hL.1
  by_cases h0 : m = 0
  · subst h0
    have : L = [] := List.eq_nil_of_length_eq_zero hlm
    subst this
    clear hL hlm
    go_enter Try.func21, Try.ntmps21
    go_wp2_with fail
    go_ret
    exact ⟨rfl, rfl⟩
  · obtain ⟨b, off, rfl, hc⟩ := hL.2 (by omega)
    have hc0 := hc 0 (by omega)
    rw [Nat.add_zero] at hc0
    obtain ⟨s, L2, rfl⟩ : ∃ s L2, L = s :: L2 := by
      cases L with
      | nil => exact absurd hlm.symm h0
      | cons s L2 => exact ⟨s, L2, rfl⟩
    have hc1 : w.cell? ⟨b, off, none⟩ = some (.int .i64 s) := hc0
    have HS := Lib.hid (csym_any w n s hn)
    have d0 : ((m : Int) == 0) = false := by
      rw [beq_eq_false_iff_ne]
      omega
    have hm0 : 0 < m := by omega
    have hbe : behF n (s :: L2) = if SymOk n s then 70 else 60 := rfl
    clear hL hlm hc hc0
    by_cases hs : SymOk n s
    · rw [if_pos hs] at hbe
      rw [decide_eq_true hs] at HS
      rw [hbe]
      go_enter Try.func21, Try.ntmps21
      go_wp2_with fail
      refine HS.out.mono ?_
      rintro e w1 ⟨rfl, rfl⟩
      go_wp2_with fail
      go_ret
      exact ⟨rfl, rfl⟩
    · rw [if_neg hs] at hbe
      rw [decide_eq_false hs] at HS
      rw [hbe]
      go_enter Try.func21, Try.ntmps21
      go_wp2_with fail
      refine HS.out.mono ?_
      rintro e w1 ⟨rfl, rfl⟩
      go_wp2_with fail
      go_ret
      exact ⟨rfl, rfl⟩

end Go.Proofs.Ytdlndcjiccfhgaa
