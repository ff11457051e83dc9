/- lengths.enough, slices.Min and slices.Max over ints, lengths.mayBe. Conditions: as each says. -/
import Derived.Test.YtgnlpbnodijkgaaYd
namespace Go.Proofs.Ytgnlpbnodijkgaa
open Go.RowKit

set_option maxRecDepth 100000 in
theorem enough_any (w : World) (n : Nat) (hn : n ≤ maxLen) : Calls Try.prog 55 #[.int .i64 n] w fun e w' => e = .returned (.bool (decide (2 ≤ n) && decide (n ≤ 258))) ∧ w' = w := by
  unfold maxLen at hn
  by_cases h1 : 2 ≤ n
  · have d1 : decide ((2 : Int) ≤ (n : Int)) = true := decide_eq_true (by omega)
    by_cases h2 : n ≤ 258
    · have d2 : decide ((n : Int) ≤ 258) = true := decide_eq_true (by omega)
      rw [decide_eq_true h1, decide_eq_true h2]
      go_enter Try.func55, Try.ntmps55
      go_wp2_with fail
      go_ret
      exact ⟨rfl, rfl⟩
    · have d2 : decide ((n : Int) ≤ 258) = false := decide_eq_false (by omega)
      rw [decide_eq_true h1, decide_eq_false h2]
      go_enter Try.func55, Try.ntmps55
      go_wp2_with fail
      go_ret
      exact ⟨rfl, rfl⟩
  · have d1 : decide ((2 : Int) ≤ (n : Int)) = false := decide_eq_false (by omega)
    rw [decide_eq_false h1]
    go_enter Try.func55, Try.ntmps55
    go_wp2_with fail
    go_ret
    exact ⟨rfl, rfl⟩

set_option maxHeartbeats 1600000 in
set_option maxRecDepth 100000 in
theorem min_any (w : World) (A : Option Addr) (n c : Nat) (L : List Int) (hL : ZIn w A n L) (h1 : 1 ≤ n) (hn : n ≤ maxLen) :
    Calls Try.prog 56 #[.slice A n c] w fun e w' => ∃ m : Int, e = .returned (.int .i64 m) ∧ ((∀ i, i < n → m ≤ L.getD i 0) ∧ ∃ i, i < n ∧ L.getD i 0 = m) ∧ w' = w := by
  unfold maxLen at hn
  obtain ⟨b, off, rfl, hc⟩ := hL.2 (by omega)
  obtain ⟨f, hf⟩ : ∃ f : Nat → Int, f = fun i => L.getD i 0 := ⟨_, rfl⟩
  have hc' : ∀ i, i < n → w.cell? ⟨b, off + i, none⟩ = some (.int .i64 (f i)) := by rw [hf]; exact hc
  have hP : Hid (∀ m : Int, ((∀ i, i < n → m ≤ f i) ∧ ∃ i, i < n ∧ f i = m) → (fun e w' => ∃ m : Int, e = Ending.returned (.int .i64 m) ∧ ((∀ i, i < n → m ≤ L.getD i 0) ∧ ∃ i, i < n ∧ L.getD i 0 = m) ∧ w' = w) (.returned (.int .i64 m)) w) :=
    Lib.hid fun m h => ⟨m, rfl, by rw [hf] at h; exact h, rfl⟩
  generalize (fun e w' => ∃ m : Int, e = Ending.returned (.int .i64 m) ∧ ((∀ i, i < n → m ≤ L.getD i 0) ∧ ∃ i, i < n ∧ L.getD i 0 = m) ∧ w' = w) = PO at *
  have HC := Lib.hid hc'
  have c0 := hc' 0 (by omega)
  rw [Nat.add_zero] at c0
  obtain ⟨y, hy⟩ : ∃ y, y = f 0 := ⟨_, rfl⟩
  rw [← hy] at c0
  have HY := Lib.hid hy
  have hnI : (0 : Int) < (n : Int) := by omega
  have d0 : decide ((n : Int) < 1) = false := decide_eq_false (by omega)
  clear hL hc hf hc' hy
  go_enter Try.func56, Try.ntmps56
  go_wp2_with fail
  go_loopw [3, 4] (fun v i wx => ∃ (q : Nat) (g : Int), 1 ≤ q ∧ q ≤ n ∧ i = .int .i64 q ∧ v = .int .i64 g ∧ Hid ((∀ i, i < q → g ≤ f i) ∧ ∃ i, i < n ∧ f i = g) ∧ wx = w) (fun _ i _ => n - (intOf i).toNat)
  case atStart => exact ⟨1, y, Nat.le_refl _, h1, rfl, rfl, ⟨fun i hi => by rw [show i = 0 by omega, ← HY.out]; exact Int.le_refl _, 0, by omega, HY.out.symm⟩, rfl⟩
  case round =>
    obtain ⟨q, g, hq1, hq, rfl, rfl, hm, rfl⟩ := hrel
    by_cases e : q < n
    · have dq : decide ((q : Int) < (n : Int)) = true := decide_eq_true (by omega)
      have cq := HC.out q e
      obtain ⟨x, hx⟩ : ∃ x, x = f q := ⟨_, rfl⟩
      rw [← hx] at cq
      have HX := Lib.hid hx
      clear hx
      by_cases e2 : x < g
      · have d2 : decide (x < g) = true := decide_eq_true e2
        have HM : Hid ((∀ i, i < q + 1 → x ≤ f i) ∧ ∃ i, i < n ∧ f i = x) := Lib.hid ⟨fun i hi => by
          by_cases ei : i = q
          · rw [ei, ← HX.out]
            exact Int.le_refl _
          · have := hm.out.1 i (by omega)
            omega, q, e, HX.out.symm⟩
        clear hm
        go_wp2_with fail
        go_roundw
        case rel => exact ⟨q + 1, x, by omega, by omega, by go_num, by go_num, HM, trivial⟩
        case measure => simp [intOf]; omega
      · have d2 : decide (x < g) = false := decide_eq_false e2
        have HM : Hid ((∀ i, i < q + 1 → g ≤ f i) ∧ ∃ i, i < n ∧ f i = g) := Lib.hid ⟨fun i hi => by
          by_cases ei : i = q
          · rw [ei, ← HX.out]
            omega
          · exact hm.out.1 i (by omega), hm.out.2⟩
        clear hm
        go_wp2_with fail
        go_roundw
        case rel => exact ⟨q + 1, g, by omega, by omega, by go_num, by go_num, HM, trivial⟩
        case measure => simp [intOf]; omega
    · obtain rfl : q = n := by omega
      have dq : decide ((q : Int) < (q : Int)) = false := decide_eq_false (by omega)
      have HM := Lib.hid hm.out
      clear hm
      go_wp2_with fail
      exact hP.out g HM.out

set_option maxHeartbeats 1600000 in
set_option maxRecDepth 100000 in
theorem max_any (w : World) (A : Option Addr) (n c : Nat) (L : List Int) (hL : ZIn w A n L) (h1 : 1 ≤ n) (hn : n ≤ maxLen) :
    Calls Try.prog 44 #[.slice A n c] w fun e w' => ∃ m : Int, e = .returned (.int .i64 m) ∧ ((∀ i, i < n → L.getD i 0 ≤ m) ∧ ∃ i, i < n ∧ L.getD i 0 = m) ∧ w' = w := by
  unfold maxLen at hn
  obtain ⟨b, off, rfl, hc⟩ := hL.2 (by omega)
  obtain ⟨f, hf⟩ : ∃ f : Nat → Int, f = fun i => L.getD i 0 := ⟨_, rfl⟩
  have hc' : ∀ i, i < n → w.cell? ⟨b, off + i, none⟩ = some (.int .i64 (f i)) := by rw [hf]; exact hc
  have hP : Hid (∀ m : Int, ((∀ i, i < n → f i ≤ m) ∧ ∃ i, i < n ∧ f i = m) → (fun e w' => ∃ m : Int, e = Ending.returned (.int .i64 m) ∧ ((∀ i, i < n → L.getD i 0 ≤ m) ∧ ∃ i, i < n ∧ L.getD i 0 = m) ∧ w' = w) (.returned (.int .i64 m)) w) :=
    Lib.hid fun m h => ⟨m, rfl, by rw [hf] at h; exact h, rfl⟩
  generalize (fun e w' => ∃ m : Int, e = Ending.returned (.int .i64 m) ∧ ((∀ i, i < n → L.getD i 0 ≤ m) ∧ ∃ i, i < n ∧ L.getD i 0 = m) ∧ w' = w) = PO at *
  have HC := Lib.hid hc'
  have c0 := hc' 0 (by omega)
  rw [Nat.add_zero] at c0
  obtain ⟨y, hy⟩ : ∃ y, y = f 0 := ⟨_, rfl⟩
  rw [← hy] at c0
  have HY := Lib.hid hy
  have hnI : (0 : Int) < (n : Int) := by omega
  have d0 : decide ((n : Int) < 1) = false := decide_eq_false (by omega)
  clear hL hc hf hc' hy
  go_enter Try.func44, Try.ntmps44
  go_wp2_with fail
  go_loopw [3, 4] (fun v i wx => ∃ (q : Nat) (g : Int), 1 ≤ q ∧ q ≤ n ∧ i = .int .i64 q ∧ v = .int .i64 g ∧ Hid ((∀ i, i < q → f i ≤ g) ∧ ∃ i, i < n ∧ f i = g) ∧ wx = w) (fun _ i _ => n - (intOf i).toNat)
  case atStart => exact ⟨1, y, Nat.le_refl _, h1, rfl, rfl, ⟨fun i hi => by rw [show i = 0 by omega, ← HY.out]; exact Int.le_refl _, 0, by omega, HY.out.symm⟩, rfl⟩
  case round =>
    obtain ⟨q, g, hq1, hq, rfl, rfl, hm, rfl⟩ := hrel
    by_cases e : q < n
    · have dq : decide ((q : Int) < (n : Int)) = true := decide_eq_true (by omega)
      have cq := HC.out q e
      obtain ⟨x, hx⟩ : ∃ x, x = f q := ⟨_, rfl⟩
      rw [← hx] at cq
      have HX := Lib.hid hx
      clear hx
      by_cases e2 : g < x
      · have d2 : decide (g < x) = true := decide_eq_true e2
        have HM : Hid ((∀ i, i < q + 1 → f i ≤ x) ∧ ∃ i, i < n ∧ f i = x) := Lib.hid ⟨fun i hi => by
          by_cases ei : i = q
          · rw [ei, ← HX.out]
            exact Int.le_refl _
          · have := hm.out.1 i (by omega)
            omega, q, e, HX.out.symm⟩
        clear hm
        go_wp2_with fail
        go_roundw
        case rel => exact ⟨q + 1, x, by omega, by omega, by go_num, by go_num, HM, trivial⟩
        case measure => simp [intOf]; omega
      · have d2 : decide (g < x) = false := decide_eq_false e2
        have HM : Hid ((∀ i, i < q + 1 → f i ≤ g) ∧ ∃ i, i < n ∧ f i = g) := Lib.hid ⟨fun i hi => by
          by_cases ei : i = q
          · rw [ei, ← HX.out]
            omega
          · exact hm.out.1 i (by omega), hm.out.2⟩
        clear hm
        go_wp2_with fail
        go_roundw
        case rel => exact ⟨q + 1, g, by omega, by omega, by go_num, by go_num, HM, trivial⟩
        case measure => simp [intOf]; omega
    · obtain rfl : q = n := by omega
      have dq : decide ((q : Int) < (q : Int)) = false := decide_eq_false (by omega)
      have HM := Lib.hid hm.out
      clear hm
      go_wp2_with fail
      exact hP.out g HM.out

set_option maxHeartbeats 1600000 in
set_option maxRecDepth 100000 in
/-- lengths.mayBe. -/
theorem mayBe_any (w : World) (A : Option Addr) (n c : Nat) (L : List Int) (hL : ZIn w A n L) (hn : n ≤ maxLen) :
    Calls Try.prog 41 #[.slice A n c] w fun e w' => e = .returned (.bool (decide (MayW L))) ∧ w' = w := by
  have hln := hL.1
  have HNO : Hid (∀ i, i < n → (L.getD i 0 < 0 ∨ 1073741824 < L.getD i 0) → decide (MayW L) = false) := Lib.hid fun i hi h => decide_eq_false fun hm => by
    have := hm.2.2 _ (getD_mem_int L i (by omega))
    omega
  have HSM : Hid (¬ (2 ≤ n ∧ n ≤ 258) → decide (MayW L) = false) := Lib.hid fun h => decide_eq_false fun hm => h ⟨by have := hm.1; omega, by have := hm.2.1; omega⟩
  have HYES : Hid (2 ≤ n → n ≤ 258 → (∀ i, i < n → 0 ≤ L.getD i 0 ∧ L.getD i 0 ≤ 1073741824) → decide (MayW L) = true) := Lib.hid fun h1 h2 h => decide_eq_true ⟨by omega, by omega, fun x hx => by
    obtain ⟨i, hi, rfl⟩ := List.getElem_of_mem hx
    have := h i (by omega)
    rwa [List.getD_eq_getElem?_getD, List.getElem?_eq_getElem hi] at this⟩
  have HE := Lib.hid (enough_any w n hn)
  generalize decide (MayW L) = ans at *
  by_cases hN : 2 ≤ n ∧ n ≤ 258
  · have HMI := Lib.hid (min_any w A n c L hL (by omega) hn)
    have HMA := Lib.hid (max_any w A n c L hL (by omega) hn)
    rw [decide_eq_true hN.1, decide_eq_true hN.2] at HE
    clear hL hln HSM
    unfold maxLen at hn
    go_enter Try.func41, Try.ntmps41
    go_wp2_with fail
    refine HE.out.mono ?_
    rintro e w' ⟨rfl, rfl⟩
    go_wp2_with fail
    refine HMI.out.mono ?_
    rintro e w2 ⟨m, rfl, hm, rfl⟩
    have HM1 := Lib.hid hm
    clear hm
    by_cases h0 : 0 ≤ m
    · have d0 : decide (0 ≤ m) = true := decide_eq_true h0
      go_wp2_with fail
      refine HMA.out.mono ?_
      rintro e w3 ⟨M, rfl, hM, rfl⟩
      have HM2 := Lib.hid hM
      clear hM
      by_cases h2 : M ≤ 1073741824
      · have d2 : decide (M ≤ 1073741824) = true := decide_eq_true h2
        have hans := HYES.out hN.1 hN.2 fun i hi => by
          have h3 := HM1.out.1 i hi
          have h4 := HM2.out.1 i hi
          omega
        subst hans
        go_wp2_with fail
        go_ret
        exact ⟨rfl, rfl⟩
      · have d2 : decide (M ≤ 1073741824) = false := decide_eq_false h2
        obtain ⟨i, hi, hiM⟩ := HM2.out.2
        have hans := HNO.out i hi (.inr (by omega))
        subst hans
        clear hiM
        go_wp2_with fail
        go_ret
        exact ⟨rfl, rfl⟩
    · have d0 : decide (0 ≤ m) = false := decide_eq_false h0
      obtain ⟨i, hi, him⟩ := HM1.out.2
      have hans := HNO.out i hi (.inl (by omega))
      subst hans
      clear him
      go_wp2_with fail
      go_ret
      exact ⟨rfl, rfl⟩
  · have hans := HSM.out hN
    subst hans
    rw [show (decide (2 ≤ n) && decide (n ≤ 258)) = false by rw [← Bool.decide_and]; exact decide_eq_false hN] at HE
    clear hL hln
    unfold maxLen at hn
    go_enter Try.func41, Try.ntmps41
    go_wp2_with fail
    refine HE.out.mono ?_
    rintro e w' ⟨rfl, rfl⟩
    go_wp2_with fail
    go_ret
    exact ⟨rfl, rfl⟩

end Go.Proofs.Ytgnlpbnodijkgaa
