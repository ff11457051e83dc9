/- Ab Gra: texts laid together, what is not used left out. -/
import Derived.Test.YtmgmgmbpldboiaaZ03
import Derived.Test.YtmgmgmbpldboiaaZ02
import Derived.Test.YtmgmgmbpldboiaaZ04
namespace Go.Proofs.Ytmgmgmbpldboiaa
open Go.RowKit

set_option maxRecDepth 100000 in
theorem enough_any (w : World) (n : Nat) (hn : n ≤ maxLen) : Calls Try.prog 78 #[.int .i64 n] w fun e w' => e = .returned (.bool (decide (2 ≤ n) && decide (n ≤ 258))) ∧ w' = w := by
  unfold maxLen at hn
  by_cases h1 : 2 ≤ n
  · have d1 : decide ((2 : Int) ≤ (n : Int)) = true := decide_eq_true (by omega)
    by_cases h2 : n ≤ 258
    · have d2 : decide ((n : Int) ≤ 258) = true := decide_eq_true (by omega)
      rw [decide_eq_true h1, decide_eq_true h2]
      go_enter Try.func78, Try.ntmps78
      go_wp2_with fail
      go_ret
      exact ⟨rfl, rfl⟩
    · have d2 : decide ((n : Int) ≤ 258) = false := decide_eq_false (by omega)
      rw [decide_eq_true h1, decide_eq_false h2]
      go_enter Try.func78, Try.ntmps78
      go_wp2_with fail
      go_ret
      exact ⟨rfl, rfl⟩
  · have d1 : decide ((2 : Int) ≤ (n : Int)) = false := decide_eq_false (by omega)
    rw [decide_eq_false h1]
    go_enter Try.func78, Try.ntmps78
    go_wp2_with fail
    go_ret
    exact ⟨rfl, rfl⟩

set_option maxHeartbeats 1600000 in
set_option maxRecDepth 100000 in
theorem min_any (w : World) (A : Option Addr) (n c : Nat) (L : List Int) (hL : ZIn w A n L) (h1 : 1 ≤ n) (hn : n ≤ maxLen) :
    Calls Try.prog 39 #[.slice A n c] w fun e w' => ∃ m : Int, e = .returned (.int .i64 m) ∧ ((∀ i, i < n → m ≤ L.getD i 0) ∧ ∃ i, i < n ∧ L.getD i 0 = m) ∧ w' = w := by
  unfold maxLen at hn
  obtain ⟨b, off, rfl, hc⟩ := hL.2 (by omega)
  obtain ⟨f, hf⟩ : ∃ f : Nat → Int, f = fun i => L.getD i 0 := ⟨_, rfl⟩
  have hc' : ∀ i, i < n → w.cell? ⟨b, off + i, none⟩ = some (.int .i64 (f i)) := by rw [hf]; exact hc
  have hP : Hid (∀ m : Int, ((∀ i, i < n → m ≤ f i) ∧ ∃ i, i < n ∧ f i = m) → (fun e w' => ∃ m : Int, e = Ending.returned (.int .i64 m) ∧ ((∀ i, i < n → m ≤ L.getD i 0) ∧ ∃ i, i < n ∧ L.getD i 0 = m) ∧ w' = w) (.returned (.int .i64 m)) w) :=
    Lib.hid fun m h => ⟨m, rfl, by rw [hf] at h; exact h, rfl⟩
  generalize (fun e w' => ∃ m : Int, e = Ending.returned (.int .i64 m) ∧ ((∀ i, i < n → m ≤ L.getD i 0) ∧ ∃ i, i < n ∧ L.getD i 0 = m) ∧ w' = w) = PO at *
  have HC := Lib.hid hc'
  have c0 := hc' 0 (by omega)
  rw [Nat.add_zero] at c0
  obtain ⟨y, hy⟩ : ∃ y, y = f 0 := ⟨_, rfl⟩
  rw [← hy] at c0
  have HY := Lib.hid hy
  have hnI : (0 : Int) < (n : Int) := by omega
  have d0 : decide ((n : Int) < 1) = false := decide_eq_false (by omega)
  clear hL hc hf hc' hy
  go_enter Try.func39, Try.ntmps39
  go_wp2_with fail
  go_loopw [3, 4] (fun v i wx => ∃ (q : Nat) (g : Int), 1 ≤ q ∧ q ≤ n ∧ i = .int .i64 q ∧ v = .int .i64 g ∧ Hid ((∀ i, i < q → g ≤ f i) ∧ ∃ i, i < n ∧ f i = g) ∧ wx = w) (fun _ i _ => n - (intOf i).toNat)
  case atStart => exact ⟨1, y, Nat.le_refl _, h1, rfl, rfl, ⟨fun i hi => by rw [show i = 0 by omega, ← HY.out]; exact Int.le_refl _, 0, by omega, HY.out.symm⟩, rfl⟩
  case round =>
    obtain ⟨q, g, hq1, hq, rfl, rfl, hm, rfl⟩ := hrel
    by_cases e : q < n
    · have dq : decide ((q : Int) < (n : Int)) = true := decide_eq_true (by omega)
      have cq := HC.out q e
      obtain ⟨x, hx⟩ : ∃ x, x = f q := ⟨_, rfl⟩
      rw [← hx] at cq
      have HX := Lib.hid hx
      clear hx
      by_cases e2 : x < g
      · have d2 : decide (x < g) = true := decide_eq_true e2
        have HM : Hid ((∀ i, i < q + 1 → x ≤ f i) ∧ ∃ i, i < n ∧ f i = x) := Lib.hid ⟨fun i hi => by
          by_cases ei : i = q
          · rw [ei, ← HX.out]
            exact Int.le_refl _
          · have := hm.out.1 i (by omega)
            omega, q, e, HX.out.symm⟩
        clear hm
        go_wp2_with fail
        go_roundw
        case rel => exact ⟨q + 1, x, by omega, by omega, by go_num, by go_num, HM, trivial⟩
        case measure => simp [intOf]; omega
      · have d2 : decide (x < g) = false := decide_eq_false e2
        have HM : Hid ((∀ i, i < q + 1 → g ≤ f i) ∧ ∃ i, i < n ∧ f i = g) := Lib.hid ⟨fun i hi => by
          by_cases ei : i = q
          · rw [ei, ← HX.out]
            omega
          · exact hm.out.1 i (by omega), hm.out.2⟩
        clear hm
        go_wp2_with fail
        go_roundw
        case rel => exact ⟨q + 1, g, by omega, by omega, by go_num, by go_num, HM, trivial⟩
        case measure => simp [intOf]; omega
    · obtain rfl : q = n := by omega
      have dq : decide ((q : Int) < (q : Int)) = false := decide_eq_false (by omega)
      have HM := Lib.hid hm.out
      clear hm
      go_wp2_with fail
      exact hP.out g HM.out

set_option maxHeartbeats 1600000 in
set_option maxRecDepth 100000 in
theorem max_any (w : World) (A : Option Addr) (n c : Nat) (L : List Int) (hL : ZIn w A n L) (h1 : 1 ≤ n) (hn : n ≤ maxLen) :
    Calls Try.prog 40 #[.slice A n c] w fun e w' => ∃ m : Int, e = .returned (.int .i64 m) ∧ ((∀ i, i < n → L.getD i 0 ≤ m) ∧ ∃ i, i < n ∧ L.getD i 0 = m) ∧ w' = w := by
  unfold maxLen at hn
  obtain ⟨b, off, rfl, hc⟩ := hL.2 (by omega)
  obtain ⟨f, hf⟩ : ∃ f : Nat → Int, f = fun i => L.getD i 0 := ⟨_, rfl⟩
  have hc' : ∀ i, i < n → w.cell? ⟨b, off + i, none⟩ = some (.int .i64 (f i)) := by rw [hf]; exact hc
  have hP : Hid (∀ m : Int, ((∀ i, i < n → f i ≤ m) ∧ ∃ i, i < n ∧ f i = m) → (fun e w' => ∃ m : Int, e = Ending.returned (.int .i64 m) ∧ ((∀ i, i < n → L.getD i 0 ≤ m) ∧ ∃ i, i < n ∧ L.getD i 0 = m) ∧ w' = w) (.returned (.int .i64 m)) w) :=
    Lib.hid fun m h => ⟨m, rfl, by rw [hf] at h; exact h, rfl⟩
  generalize (fun e w' => ∃ m : Int, e = Ending.returned (.int .i64 m) ∧ ((∀ i, i < n → L.getD i 0 ≤ m) ∧ ∃ i, i < n ∧ L.getD i 0 = m) ∧ w' = w) = PO at *
  have HC := Lib.hid hc'
  have c0 := hc' 0 (by omega)
  rw [Nat.add_zero] at c0
  obtain ⟨y, hy⟩ : ∃ y, y = f 0 := ⟨_, rfl⟩
  rw [← hy] at c0
  have HY := Lib.hid hy
  have hnI : (0 : Int) < (n : Int) := by omega
  have d0 : decide ((n : Int) < 1) = false := decide_eq_false (by omega)
  clear hL hc hf hc' hy
  go_enter Try.func40, Try.ntmps40
  go_wp2_with fail
  go_loopw [3, 4] (fun v i wx => ∃ (q : Nat) (g : Int), 1 ≤ q ∧ q ≤ n ∧ i = .int .i64 q ∧ v = .int .i64 g ∧ Hid ((∀ i, i < q → f i ≤ g) ∧ ∃ i, i < n ∧ f i = g) ∧ wx = w) (fun _ i _ => n - (intOf i).toNat)
  case atStart => exact ⟨1, y, Nat.le_refl _, h1, rfl, rfl, ⟨fun i hi => by rw [show i = 0 by omega, ← HY.out]; exact Int.le_refl _, 0, by omega, HY.out.symm⟩, rfl⟩
  case round =>
    obtain ⟨q, g, hq1, hq, rfl, rfl, hm, rfl⟩ := hrel
    by_cases e : q < n
    · have dq : decide ((q : Int) < (n : Int)) = true := decide_eq_true (by omega)
      have cq := HC.out q e
      obtain ⟨x, hx⟩ : ∃ x, x = f q := ⟨_, rfl⟩
      rw [← hx] at cq
      have HX := Lib.hid hx
      clear hx
      by_cases e2 : g < x
      · have d2 : decide (g < x) = true := decide_eq_true e2
        have HM : Hid ((∀ i, i < q + 1 → f i ≤ x) ∧ ∃ i, i < n ∧ f i = x) := Lib.hid ⟨fun i hi => by
          by_cases ei : i = q
          · rw [ei, ← HX.out]
            exact Int.le_refl _
          · have := hm.out.1 i (by omega)
            omega, q, e, HX.out.symm⟩
        clear hm
        go_wp2_with fail
        go_roundw
        case rel => exact ⟨q + 1, x, by omega, by omega, by go_num, by go_num, HM, trivial⟩
        case measure => simp [intOf]; omega
      · have d2 : decide (g < x) = false := decide_eq_false e2
        have HM : Hid ((∀ i, i < q + 1 → f i ≤ g) ∧ ∃ i, i < n ∧ f i = g) := Lib.hid ⟨fun i hi => by
          by_cases ei : i = q
          · rw [ei, ← HX.out]
            omega
          · exact hm.out.1 i (by omega), hm.out.2⟩
        clear hm
        go_wp2_with fail
        go_roundw
        case rel => exact ⟨q + 1, g, by omega, by omega, by go_num, by go_num, HM, trivial⟩
        case measure => simp [intOf]; omega
    · obtain rfl : q = n := by omega
      have dq : decide ((q : Int) < (q : Int)) = false := decide_eq_false (by omega)
      have HM := Lib.hid hm.out
      clear hm
      go_wp2_with fail
      exact hP.out g HM.out

set_option maxHeartbeats 1600000 in
set_option maxRecDepth 100000 in
/-- lengths.mayBe. -/
theorem mayBe_any (w : World) (A : Option Addr) (n c : Nat) (L : List Int) (hL : ZIn w A n L) (hn : n ≤ maxLen) :
    Calls Try.prog 62 #[.slice A n c] w fun e w' => e = .returned (.bool (decide (MayW L))) ∧ w' = w := by
  have hln := hL.1
  have HNO : Hid (∀ i, i < n → (L.getD i 0 < 0 ∨ 1073741824 < L.getD i 0) → decide (MayW L) = false) := Lib.hid fun i hi h => decide_eq_false fun hm => by
    have := hm.2.2 _ (getD_mem_int L i (by omega))
    omega
  have HSM : Hid (¬ (2 ≤ n ∧ n ≤ 258) → decide (MayW L) = false) := Lib.hid fun h => decide_eq_false fun hm => h ⟨by have := hm.1; omega, by have := hm.2.1; omega⟩
  have HYES : Hid (2 ≤ n → n ≤ 258 → (∀ i, i < n → 0 ≤ L.getD i 0 ∧ L.getD i 0 ≤ 1073741824) → decide (MayW L) = true) := Lib.hid fun h1 h2 h => decide_eq_true ⟨by omega, by omega, fun x hx => by
    obtain ⟨i, hi, rfl⟩ := List.getElem_of_mem hx
    have := h i (by omega)
    rwa [List.getD_eq_getElem?_getD, List.getElem?_eq_getElem hi] at this⟩
  have HE := Lib.hid (enough_any w n hn)
  generalize decide (MayW L) = ans at *
  by_cases hN : 2 ≤ n ∧ n ≤ 258
  · have HMI := Lib.hid (min_any w A n c L hL (by omega) hn)
    have HMA := Lib.hid (max_any w A n c L hL (by omega) hn)
    rw [decide_eq_true hN.1, decide_eq_true hN.2] at HE
    clear hL hln HSM
    unfold maxLen at hn
    go_enter Try.func62, Try.ntmps62
    go_wp2_with fail
    refine HE.out.mono ?_
    rintro e w' ⟨rfl, rfl⟩
    go_wp2_with fail
    refine HMI.out.mono ?_
    rintro e w2 ⟨m, rfl, hm, rfl⟩
    have HM1 := Lib.hid hm
    clear hm
    by_cases h0 : 0 ≤ m
    · have d0 : decide (0 ≤ m) = true := decide_eq_true h0
      go_wp2_with fail
      refine HMA.out.mono ?_
      rintro e w3 ⟨M, rfl, hM, rfl⟩
      have HM2 := Lib.hid hM
      clear hM
      by_cases h2 : M ≤ 1073741824
      · have d2 : decide (M ≤ 1073741824) = true := decide_eq_true h2
        have hans := HYES.out hN.1 hN.2 fun i hi => by
          have h3 := HM1.out.1 i hi
          have h4 := HM2.out.1 i hi
          omega
        subst hans
        go_wp2_with fail
        go_ret
        exact ⟨rfl, rfl⟩
      · have d2 : decide (M ≤ 1073741824) = false := decide_eq_false h2
        obtain ⟨i, hi, hiM⟩ := HM2.out.2
        have hans := HNO.out i hi (.inr (by omega))
        subst hans
        clear hiM
        go_wp2_with fail
        go_ret
        exact ⟨rfl, rfl⟩
    · have d0 : decide (0 ≤ m) = false := decide_eq_false h0
      obtain ⟨i, hi, him⟩ := HM1.out.2
      have hans := HNO.out i hi (.inl (by omega))
      subst hans
      clear him
      go_wp2_with fail
      go_ret
      exact ⟨rfl, rfl⟩
  · have hans := HSM.out hN
    subst hans
    rw [show (decide (2 ≤ n) && decide (n ≤ 258)) = false by rw [← Bool.decide_and]; exact decide_eq_false hN] at HE
    clear hL hln
    unfold maxLen at hn
    go_enter Try.func62, Try.ntmps62
    go_wp2_with fail
    refine HE.out.mono ?_
    rintro e w' ⟨rfl, rfl⟩
    go_wp2_with fail
    go_ret
    exact ⟨rfl, rfl⟩

end Go.Proofs.Ytmgmgmbpldboiaa
namespace Go.Proofs.Ytmgmgmbpldboiaa
open Go.RowKit

set_option maxRecDepth 100000 in
theorem genough_any (w : World) (n : Int) : Calls Try.prog 61 #[.int .i64 n] w fun e w' => e = .returned (.bool (decide (3 ≤ n ∧ n ≤ 258))) ∧ w = w' := by
  by_cases h1 : 3 ≤ n
  · by_cases h2 : n ≤ 258
    · have d0 : decide ((3 : Int) ≤ n) = true := decide_eq_true h1
      have d1 : decide (n ≤ (258 : Int)) = true := decide_eq_true h2
      have hd : decide (3 ≤ n ∧ n ≤ 258) = true := decide_eq_true ⟨h1, h2⟩
      go_enter Try.func61, Try.ntmps61
      go_wp2_with fail
      go_ret
      first | exact ⟨rfl, rfl⟩ | (rw [hd]; exact ⟨rfl, rfl⟩)
    · have d0 : decide ((3 : Int) ≤ n) = true := decide_eq_true h1
      have d1 : decide (n ≤ (258 : Int)) = false := decide_eq_false h2
      have hd : decide (3 ≤ n ∧ n ≤ 258) = false := decide_eq_false (by omega)
      go_enter Try.func61, Try.ntmps61
      go_wp2_with fail
      go_ret
      first | exact ⟨rfl, rfl⟩ | (rw [hd]; exact ⟨rfl, rfl⟩)
  · have d0 : decide ((3 : Int) ≤ n) = false := decide_eq_false h1
    have hd : decide (3 ≤ n ∧ n ≤ 258) = false := decide_eq_false (by omega)
    go_enter Try.func61, Try.ntmps61
    go_wp2_with fail
    go_ret
    first | exact ⟨rfl, rfl⟩ | (rw [hd]; exact ⟨rfl, rfl⟩)

set_option maxRecDepth 100000 in
theorem cgroups_any (w : World) (m : Nat) (hm : m ≤ 4000000000000000000) : Calls Try.prog 36 #[.int .i64 m] w fun e w' => e = .returned (.int .i64 (groupsN m : Nat)) ∧ w = w' := by
  obtain ⟨q, hq⟩ : ∃ q, q = groupsN m := ⟨_, rfl⟩
  rw [← hq]
  unfold groupsN at hq
  obtain ⟨m1, hm1⟩ : ∃ m1, m1 = m + 50 := ⟨_, rfl⟩
  obtain ⟨m2, hm2⟩ : ∃ m2, m2 = m + 49 := ⟨_, rfl⟩
  have z1 : (m : Int) + 50 = (m1 : Int) := by omega
  have z2 : (m1 : Int) - 1 = (m2 : Int) := by omega
  have z3 : (m2 : Int) / 50 = (q : Int) := by rw [hq, hm2]; omega
  have b1 : m1 ≤ 5000000000000000000 := by omega
  have b2 : m2 ≤ 5000000000000000000 := by omega
  have b3 : q ≤ 5000000000000000000 := by omega
  clear hq hm1 hm2
  go_enter Try.func36, Try.ntmps36
  go_wp2_with fail
  go_ret
  exact ⟨rfl, rfl⟩

set_option maxRecDepth 100000 in
theorem all_between {L : List Int} {n : Nat} {a b m : Int} (hl : L.length = n) (ha : (∀ i, i < n → a ≤ L.getD i 0) ∧ ∃ i, i < n ∧ L.getD i 0 = a) (hb : (∀ i, i < n → L.getD i 0 ≤ b) ∧ ∃ i, i < n ∧ L.getD i 0 = b) :
    (∀ x ∈ L, 0 ≤ x ∧ x < m) ↔ 0 ≤ a ∧ b < m := by
  have hg : ∀ i, i < n → L.getD i 0 ∈ L := fun i hi => by
    rw [List.getD_eq_getElem?_getD, List.getElem?_eq_getElem (by omega)]
    exact List.getElem_mem _
  refine ⟨fun h => ?_, fun h x hx => ?_⟩
  · obtain ⟨i, hi, hai⟩ := ha.2
    obtain ⟨j, hj, hbj⟩ := hb.2
    have h1 := h _ (hg i hi)
    have h2 := h _ (hg j hj)
    omega
  · obtain ⟨i, hi, rfl⟩ := List.getElem_of_mem hx
    have h1 := ha.1 i (by omega)
    have h2 := hb.1 i (by omega)
    rw [List.getD_eq_getElem?_getD, List.getElem?_eq_getElem hi] at h1 h2
    simp only [Option.getD_some] at h1 h2
    omega

set_option maxHeartbeats 1600000 in
set_option maxRecDepth 100000 in
theorem clist_any (w : World) (A : Option Addr) (n c : Nat) (L : List Int) (m : Int) (hL : ZIn w A n L) (hn : n ≤ maxLen) :
    Calls Try.prog 32 #[.slice A n c, .int .i64 m] w fun e w' => e = .returned (.bool (decide (MayG L m))) ∧ w' = w := by
  have hl := hL.1
  have HE := Lib.hid (genough_any w m)
  unfold maxLen at hn
  by_cases h1 : 3 ≤ m ∧ m ≤ 258
  · rw [decide_eq_true h1] at HE
    by_cases h2 : n < 1
    · have d2 : decide ((n : Int) < 1) = true := decide_eq_true (by omega)
      have hd : decide (MayG L m) = false := decide_eq_false fun h => by have := h.2.2.1; omega
      rw [hd]
      clear hd hL hl h1
      go_enter Try.func32, Try.ntmps32
      go_wp2_with fail
      refine HE.out.mono ?_
      rintro e w1 ⟨rfl, rfl⟩
      go_wp2_with fail
      go_ret
      exact ⟨rfl, rfl⟩
    · have d2 : decide ((n : Int) < 1) = false := decide_eq_false (by omega)
      by_cases h3 : 1638350 < n
      · have d3 : decide ((1638350 : Int) < (n : Int)) = true := decide_eq_true (by omega)
        have hd : decide (MayG L m) = false := decide_eq_false fun h => by have := h.2.2.2.1; omega
        rw [hd]
        clear hd hL hl h1 h3 h2
        go_enter Try.func32, Try.ntmps32
        go_wp2_with fail
        refine HE.out.mono ?_
        rintro e w1 ⟨rfl, rfl⟩
        go_wp2_with fail
        go_ret
        exact ⟨rfl, rfl⟩
      · have d3 : decide ((1638350 : Int) < (n : Int)) = false := decide_eq_false (by omega)
        obtain ⟨ans, hans⟩ : ∃ ans, ans = decide (MayG L m) := ⟨_, rfl⟩
        rw [← hans]
        have HMN := Lib.hid (min_any w A n c L hL (by omega) (by unfold maxLen; omega))
        have HMX := Lib.hid (max_any w A n c L hL (by omega) (by unfold maxLen; omega))
        have HD : Hid (∀ a b : Int, ((∀ i, i < n → a ≤ L.getD i 0) ∧ ∃ i, i < n ∧ L.getD i 0 = a) → ((∀ i, i < n → L.getD i 0 ≤ b) ∧ ∃ i, i < n ∧ L.getD i 0 = b) → ans = decide (0 ≤ a ∧ b < m)) := Lib.hid fun a b ha hb => by
          have := all_between (m := m) hl ha hb
          rw [hans]
          congr 1
          apply propext
          constructor
          · exact fun h => this.1 h.2.2.2.2
          · exact fun h => ⟨h1.1, h1.2, by omega, by omega, this.2 h⟩
        have HS : Hid (∃ b : Int, (∀ i, i < n → L.getD i 0 ≤ b) ∧ ∃ i, i < n ∧ L.getD i 0 = b) := Lib.hid (by
          have hex : ∀ k, 1 ≤ k → k ≤ n → ∃ b : Int, (∀ i, i < k → L.getD i 0 ≤ b) ∧ ∃ i, i < k ∧ L.getD i 0 = b := by
            intro k
            induction k with
            | zero => intro h; omega
            | succ k ih =>
              intro _ hk
              by_cases e : k = 0
              · subst e
                exact ⟨L.getD 0 0, fun i hi => by rw [show i = 0 by omega]; exact Int.le_refl _, 0, by omega, rfl⟩
              · obtain ⟨b, hb, j, hj, hjb⟩ := ih (by omega) (by omega)
                by_cases e2 : L.getD k 0 ≤ b
                · refine ⟨b, fun i hi => ?_, j, by omega, hjb⟩
                  by_cases e3 : i = k
                  · rw [e3]; exact e2
                  · exact hb i (by omega)
                · refine ⟨L.getD k 0, fun i hi => ?_, k, by omega, rfl⟩
                  by_cases e3 : i = k
                  · rw [e3]; exact Int.le_refl _
                  · have := hb i (by omega)
                    omega
          exact hex n (by omega) (Nat.le_refl _))
        clear hL hl h1 h3 hans
        go_enter Try.func32, Try.ntmps32
        go_wp2_with fail
        refine HE.out.mono ?_
        rintro e w1 ⟨rfl, rfl⟩
        clear HE
        go_wp2_with fail
        refine HMN.out.mono ?_
        rintro e w1 ⟨a, rfl, ha, rfl⟩
        have HDA := Lib.hid (fun b => HD.out a b ha)
        clear ha HD HMN
        by_cases h4 : 0 ≤ a
        · have d4 : decide (0 ≤ a) = true := decide_eq_true h4
          go_wp2_with fail
          refine HMX.out.mono ?_
          rintro e w1 ⟨b, rfl, hb, rfl⟩
          have HDB := Lib.hid (HDA.out b hb)
          clear hb HDA HMX HS
          by_cases h5 : b < m
          · have d5 : decide (b < m) = true := decide_eq_true h5
            have hd := HDB.out.trans (decide_eq_true ⟨h4, h5⟩)
            subst hd
            clear HDB
            go_wp2_with fail
            go_ret
            exact ⟨rfl, rfl⟩
          · have d5 : decide (b < m) = false := decide_eq_false h5
            have hd := HDB.out.trans (decide_eq_false fun h => h5 h.2)
            subst hd
            clear HDB
            go_wp2_with fail
            go_ret
            exact ⟨rfl, rfl⟩
        · have d4 : decide (0 ≤ a) = false := decide_eq_false h4
          obtain ⟨b, hb⟩ := HS.out
          have hd := (HDA.out b hb).trans (decide_eq_false fun h => h4 h.1)
          subst hd
          clear HDA HMX HS hb
          go_wp2_with fail
          go_ret
          exact ⟨rfl, rfl⟩
  · rw [decide_eq_false h1] at HE
    have hd : decide (MayG L m) = false := decide_eq_false fun h => h1 ⟨h.1, h.2.1⟩
    rw [hd]
    clear hd hL hl h1
    go_enter Try.func32, Try.ntmps32
    go_wp2_with fail
    refine HE.out.mono ?_
    rintro e w1 ⟨rfl, rfl⟩
    go_wp2_with fail
    go_ret
    exact ⟨rfl, rfl⟩

set_option maxRecDepth 100000 in
theorem ctables_any (w : World) (m : Int) : Calls Try.prog 6 #[.int .i64 m] w fun e w' => e = .returned (.tuple #[.int .i64 (tablesAns m).1, .int .i64 (tablesAns m).2]) ∧ w' = w := by
  by_cases h0 : m < 1
  · have d0 : decide (m < 1) = true := decide_eq_true h0
    rw [show tablesAns m = (0, 2) from by unfold tablesAns tablesN; (repeat' split) <;> first | rfl | omega]
    go_enter Try.func6, Try.ntmps6
    go_wp2_with fail
    go_ret2
    exact ⟨rfl, rfl⟩
  have d0 : decide (m < 1) = false := decide_eq_false h0
  by_cases h1 : m < 200
  · have d1 : decide (m < 200) = true := decide_eq_true h1
    rw [show tablesAns m = (2, 0) from by unfold tablesAns tablesN; (repeat' split) <;> first | rfl | omega]
    go_enter Try.func6, Try.ntmps6
    go_wp2_with fail
    go_ret2
    exact ⟨rfl, rfl⟩
  have d1 : decide (m < 200) = false := decide_eq_false h1
  by_cases h2 : m < 600
  · have d2 : decide (m < 600) = true := decide_eq_true h2
    rw [show tablesAns m = (3, 0) from by unfold tablesAns tablesN; (repeat' split) <;> first | rfl | omega]
    go_enter Try.func6, Try.ntmps6
    go_wp2_with fail
    go_ret2
    exact ⟨rfl, rfl⟩
  have d2 : decide (m < 600) = false := decide_eq_false h2
  by_cases h3 : m < 1200
  · have d3 : decide (m < 1200) = true := decide_eq_true h3
    rw [show tablesAns m = (4, 0) from by unfold tablesAns tablesN; (repeat' split) <;> first | rfl | omega]
    go_enter Try.func6, Try.ntmps6
    go_wp2_with fail
    go_ret2
    exact ⟨rfl, rfl⟩
  have d3 : decide (m < 1200) = false := decide_eq_false h3
  by_cases h4 : m < 2400
  · have d4 : decide (m < 2400) = true := decide_eq_true h4
    rw [show tablesAns m = (5, 0) from by unfold tablesAns tablesN; (repeat' split) <;> first | rfl | omega]
    go_enter Try.func6, Try.ntmps6
    go_wp2_with fail
    go_ret2
    exact ⟨rfl, rfl⟩
  have d4 : decide (m < 2400) = false := decide_eq_false h4
  rw [show tablesAns m = (6, 0) from by unfold tablesAns tablesN; (repeat' split) <;> first | rfl | omega]
  go_enter Try.func6, Try.ntmps6
  go_wp2_with fail
  go_ret2
  exact ⟨rfl, rfl⟩

end Go.Proofs.Ytmgmgmbpldboiaa
