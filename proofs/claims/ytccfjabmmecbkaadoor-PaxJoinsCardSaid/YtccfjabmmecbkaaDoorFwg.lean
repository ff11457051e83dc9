/- fields.Decimal, Digits, Cut, Text, Sum. Conditions: texts of at most 2^47 bytes; Digits: the tables are there. -/
import Derived.Test.YtccfjabmmecbkaaDoorFwe
import Derived.Test.YtccfjabmmecbkaaDoorFwf
namespace Go.Proofs.YtccfjabmmecbkaaDoor
open Go.RowKit

theorem itoa_dec (n : Nat) : (Lib.itoa (n : Int)) = decL n := by
  rw [Lib.itoa_nonneg]
  induction n using Nat.strongRecOn with
  | _ n ih =>
    rw [Lib.decDigits, decL]
    by_cases h : n < 10
    · rw [dif_pos h, if_pos h]; rfl
    · rw [dif_neg h, if_neg h, ih (n / 10) (by omega)]; rfl
set_option maxRecDepth 100000 in
theorem cdigits_any (w : World) (hT : Tabs w) (n : Int) (hn1 : -9223372036854775808 ≤ n) (hn2 : n ≤ 9223372036854775807) : Calls Tryd.prog 21 #[.int .i64 n] w fun e w' => e = .returned (.string (strF (digitsA n))) ∧ Below w.heap.size w w' := by
  by_cases e : n < 0
  · have d0 : decide (n < 0) = true := decide_eq_true e
    have ha : digitsA n = [] := by unfold digitsA; rw [if_pos e]
    rw [ha]
    clear hT ha
    go_enter Tryd.func21, Tryd.ntmps21
    go_wp2_with fail
    go_ret
    exact ⟨rfl, Below.refl _ _⟩
  · have d0 : decide (n < 0) = false := decide_eq_false e
    have HI := Lib.hid (itoa_any w hT n hn1 hn2)
    obtain ⟨m, rfl⟩ : ∃ m : Nat, n = m := ⟨n.toNat, by omega⟩
    rw [itoa_dec] at HI
    rw [digits_dec]
    unfold strF
    generalize (decL m).toArray = D at *
    clear hT
    go_enter Tryd.func21, Tryd.ntmps21
    go_wp2_with fail
    refine HI.out.mono ?_
    rintro e w1 ⟨rfl, hb⟩
    have HB := Lib.hid hb
    clear hb
    go_wp2_with fail
    go_ret
    exact ⟨rfl, HB.out⟩

set_option maxHeartbeats 1600000 in
set_option maxRecDepth 100000 in
theorem cdecimal_any (w : World) (s : ByteArray) (hs : s.size ≤ 140737488355328) : Calls Tryd.prog 23 #[.string s] w fun e w' => e = .returned (.tuple #[.int .i64 (decimalA s.data.toList).1, .int .i64 (decimalA s.data.toList).2]) ∧ Below w.heap.size w w' := by
  obtain ⟨d, hd⟩ : ∃ x, x = s.data.toList.takeWhile (· ∈ [48, 49, 50, 51, 52, 53, 54, 55, 56, 57]) := ⟨_, rfl⟩
  obtain ⟨r, hr⟩ : ∃ x, x = s.data.toList.dropWhile (· ∈ [48, 49, 50, 51, 52, 53, 54, 55, 56, 57]) := ⟨_, rfl⟩
  rw [decimalA_pass _ d r hd hr]
  have H0 := Lib.hid (passer_any w s hs)
  have H1 : Hid (∀ (wx : World) (g : Nat), Pass wx g s → Calls Tryd.prog 33 #[.string ⟨#[48, 49, 50, 51, 52, 53, 54, 55, 56, 57]⟩, .pointer (some ⟨g, 0, none⟩)] wx fun e w' => e = .returned (.tuple #[.string (strF d), .string (strF r)]) ∧ Step g [g] [] wx w') := Lib.hid fun wx g hp => by
    have h := pass_any wx g ⟨#[48, 49, 50, 51, 52, 53, 54, 55, 56, 57]⟩ s hp
    rw [show (⟨#[48, 49, 50, 51, 52, 53, 54, 55, 56, 57]⟩ : ByteArray).data.toList = [48, 49, 50, 51, 52, 53, 54, 55, 56, 57] from rfl, ← hr, ← hd] at h
    exact h.mono fun e w' q => ⟨q.1, q.2.2⟩
  have hdl : (strF d).size ≤ 140737488355328 := by
    have a := takeW_len (· ∈ [48, 49, 50, 51, 52, 53, 54, 55, 56, 57]) s.data.toList
    rw [← hd] at a
    have c : s.data.toList.length = s.size := rfl
    show d.length ≤ _
    omega
  have HV : Hid (∀ wx : World, Calls Tryd.prog 29 #[.string (strF d), .int .i64 10] wx fun e w' => e = .returned (.tuple #[.int .i64 (valA 10 (strF d).data.toList).1, .int .i64 (valA 10 (strF d).data.toList).2]) ∧ w' = wx) := Lib.hid fun wx : World => value_walk wx (strF d) 10 hdl (by omega) (by omega) (fun c hc => (mem_dec c).1 (mem_takeW (hd ▸ hc)))
  rw [strF_list] at HV
  generalize valA 10 d = V at *
  obtain ⟨v1, v2⟩ := V
  dsimp only at HV
  clear hd hr
  cases d with
  | nil =>
    rw [if_pos (.inl rfl)]
    have d0 : ((strF []).toList.isEmpty) = true := by rw [strF_toList]; rfl
    generalize strF r = R at *
    generalize strF [] = D at *
    go_enter Tryd.func23, Tryd.ntmps23
    go_wp2_with fail
    refine H0.out.mono ?_
    rintro e w1 ⟨rfl, hp, hsz, hb⟩
    have HB := Lib.hid hb
    obtain ⟨g, hg⟩ : ∃ g, g = w.heap.size := ⟨_, rfl⟩
    rw [← hg] at hp ⊢
    have HGN := Lib.hid (show w.heap.size ≤ g by rw [hg]; exact Nat.le_refl _)
    have HP := Lib.hid hp
    clear hb hg hp hsz
    go_wp2_with fail
    refine (H1.out w1 g HP.out).mono ?_
    rintro e w2 ⟨rfl, hst⟩
    have HB1 := Lib.hid (HB.out.trans (hst.below.mono HGN.out))
    clear hst
    go_wp2_with fail
    go_ret2
    exact ⟨rfl, HB1.out⟩
  | cons c d =>
    have d0 : ((strF (c :: d)).toList.isEmpty) = false := by rw [strF_toList]; rfl
    cases r with
    | cons x r =>
      rw [if_pos (.inr (.inl (List.cons_ne_nil _ _)))]
      have d1 : ((strF (x :: r)).toList.isEmpty) = false := by rw [strF_toList]; rfl
      generalize strF (x :: r) = R at *
      generalize strF (c :: d) = D at *
      go_enter Tryd.func23, Tryd.ntmps23
      go_wp2_with fail
      refine H0.out.mono ?_
      rintro e w1 ⟨rfl, hp, hsz, hb⟩
      have HB := Lib.hid hb
      obtain ⟨g, hg⟩ : ∃ g, g = w.heap.size := ⟨_, rfl⟩
      rw [← hg] at hp ⊢
      have HGN := Lib.hid (show w.heap.size ≤ g by rw [hg]; exact Nat.le_refl _)
      have HP := Lib.hid hp
      clear hb hg hp hsz
      go_wp2_with fail
      refine (H1.out w1 g HP.out).mono ?_
      rintro e w2 ⟨rfl, hst⟩
      have HB1 := Lib.hid (HB.out.trans (hst.below.mono HGN.out))
      clear hst
      go_wp2_with fail
      go_ret2
      exact ⟨rfl, HB1.out⟩
    | nil =>
      have d1 : ((strF []).toList.isEmpty) = true := by rw [strF_toList]; rfl
      have hc0 : ∀ D : ByteArray, D = strF (c :: d) → ∃ h : 0 < D.size, D[0]'h = c := fun D h => by subst h; exact ⟨Nat.succ_pos _, rfl⟩
      obtain ⟨D, hD⟩ : ∃ D, D = strF (c :: d) := ⟨_, rfl⟩
      have hz : D.size = d.length + 1 := by rw [hD]; rfl
      obtain ⟨h0, hc⟩ := hc0 D hD
      have hz0 : (0 : Int) < (D.size : Int) := by omega
      rw [← hD] at d0 H1 HV hdl
      clear hD hc0
      generalize strF [] = R at *
      by_cases e1 : c = 48
      · have d2 : (((D[0]'h0).toNat : Int) == 48) = true := by rw [hc, e1]; rfl
        by_cases e2 : 1 < d.length + 1
        · rw [if_pos (.inr (.inr ⟨e1, e2⟩))]
          have d3 : decide ((1 : Int) < (D.size : Int)) = true := decide_eq_true (by omega)
          clear hc e1
          go_enter Tryd.func23, Tryd.ntmps23
          go_wp2_with fail
          refine H0.out.mono ?_
          rintro e w1 ⟨rfl, hp, hsz, hb⟩
          have HB := Lib.hid hb
          obtain ⟨g, hg⟩ : ∃ g, g = w.heap.size := ⟨_, rfl⟩
          rw [← hg] at hp ⊢
          have HGN := Lib.hid (show w.heap.size ≤ g by rw [hg]; exact Nat.le_refl _)
          have HP := Lib.hid hp
          clear hb hg hp hsz
          go_wp2_with fail
          refine (H1.out w1 g HP.out).mono ?_
          rintro e w2 ⟨rfl, hst⟩
          have HB1 := Lib.hid (HB.out.trans (hst.below.mono HGN.out))
          clear hst
          go_wp2_with fail
          go_ret2
          exact ⟨rfl, HB1.out⟩
        · rw [if_neg (by rintro (h | h | h); cases h; exact h rfl; exact e2 h.2)]
          have d3 : decide ((1 : Int) < (D.size : Int)) = false := decide_eq_false (by omega)
          clear hc e1
          go_enter Tryd.func23, Tryd.ntmps23
          go_wp2_with fail
          refine H0.out.mono ?_
          rintro e w1 ⟨rfl, hp, hsz, hb⟩
          have HB := Lib.hid hb
          obtain ⟨g, hg⟩ : ∃ g, g = w.heap.size := ⟨_, rfl⟩
          rw [← hg] at hp ⊢
          have HGN := Lib.hid (show w.heap.size ≤ g by rw [hg]; exact Nat.le_refl _)
          have HP := Lib.hid hp
          clear hb hg hp hsz
          go_wp2_with fail
          refine (H1.out w1 g HP.out).mono ?_
          rintro e w2 ⟨rfl, hst⟩
          have HB1 := Lib.hid (HB.out.trans (hst.below.mono HGN.out))
          clear hst
          go_wp2_with fail
          refine (HV.out w2).mono ?_
          rintro e w3 ⟨rfl, rfl⟩
          go_wp2_with fail
          go_ret2
          exact ⟨rfl, HB1.out⟩
      · have d2 : (((D[0]'h0).toNat : Int) == 48) = false := by
          rw [hc]
          exact beq_false_of_ne fun q => e1 (UInt8.toNat_inj.1 (by have h : (48 : UInt8).toNat = 48 := rfl; omega))
        rw [if_neg (by rintro (h | h | h); cases h; exact h rfl; exact e1 h.1)]
        clear hc e1
        go_enter Tryd.func23, Tryd.ntmps23
        go_wp2_with fail
        refine H0.out.mono ?_
        rintro e w1 ⟨rfl, hp, hsz, hb⟩
        have HB := Lib.hid hb
        obtain ⟨g, hg⟩ : ∃ g, g = w.heap.size := ⟨_, rfl⟩
        rw [← hg] at hp ⊢
        have HGN := Lib.hid (show w.heap.size ≤ g by rw [hg]; exact Nat.le_refl _)
        have HP := Lib.hid hp
        clear hb hg hp hsz
        go_wp2_with fail
        refine (H1.out w1 g HP.out).mono ?_
        rintro e w2 ⟨rfl, hst⟩
        have HB1 := Lib.hid (HB.out.trans (hst.below.mono HGN.out))
        clear hst
        go_wp2_with fail
        refine (HV.out w2).mono ?_
        rintro e w3 ⟨rfl, rfl⟩
        go_wp2_with fail
        go_ret2
        exact ⟨rfl, HB1.out⟩
end Go.Proofs.YtccfjabmmecbkaaDoor
