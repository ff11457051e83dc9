/- The laws LengthsChecks, LengthsCosts, LengthsMakes, LengthsFlats, walked over what is asked of the code's functions. -/
import Derived.Test.YthpfmkknebnppaaYi
namespace Go.Proofs.Ythpfmkknebnppaa
open Go.RowKit

theorem make_all (w : World) (A : Option Addr) (n c : Nat) (L : List Int) (most : Int) (hL : ZIn w A n L) (hn : n ≤ maxLen) : Calls Try.prog 11 #[.slice A n c, .int .i64 most] w (MakePost w L most) := by
  by_cases h : ¬ MayW L ∨ most < 12 ∨ 20 < most
  · exact make_out w A n c L most hL hn h
  · have hM : MayW L := Decidable.of_not_not fun k => h (.inl k)
    obtain ⟨m, rfl⟩ : ∃ m : Nat, most = m := ⟨most.toNat, by omega⟩
    exact make_any w A n c L m hL hM (by omega) (by omega)
theorem flat_all (w : World) (A : Option Addr) (n c : Nat) (L : List Int) (hL : ZIn w A n L) (hn : n ≤ maxLen) : Calls Try.prog 15 #[.slice A n c] w (FlatPost w L) := by
  by_cases h : MayW L
  · exact flat_any w A n c L hL h
  · exact flat_out w A n c L hL hn h

/-- The numbers and the error of Make; of Flat. -/
def MakeAns (L : List Int) (most : Int) (a : List Nat) (k : Nat) : Prop :=
  ((¬ MayW L ∨ most < 12 ∨ 20 < most) ∧ a = [] ∧ k = 2) ∨ (MayW L ∧ 12 ≤ most ∧ most ≤ 20 ∧ k = 0 ∧ ∃ len, MakeR (oneL L) most.toNat len ∧ a = (List.range L.length).map len)
def FlatAns (L : List Int) (a : List Nat) (k : Nat) : Prop :=
  (¬ MayW L ∧ a = [] ∧ k = 2) ∨ (MayW L ∧ k = 0 ∧ ∃ j, 2 ^ j ≤ L.length ∧ L.length < 2 ^ (j + 1) ∧ a = (List.range L.length).map (flatLen j (2 ^ (j + 1) - L.length) (oneL L)))
theorem makeAns_one {L : List Int} {most : Int} {a b : List Nat} {k m : Nat} (h : MakeAns L most a k) (h2 : MakeAns L most b m) : a = b ∧ k = m := by
  rcases h with ⟨h, rfl, rfl⟩ | ⟨h3, h4, h5, rfl, len, hl, rfl⟩
  · rcases h2 with ⟨_, rfl, rfl⟩ | ⟨h3, h4, h5, _⟩
    · exact ⟨rfl, rfl⟩
    · exfalso
      rcases h with h | h | h
      · exact h h3
      · omega
      · omega
  · rcases h2 with ⟨h, _⟩ | ⟨_, _, _, rfl, len2, hl2, rfl⟩
    · exfalso
      rcases h with h | h | h
      · exact h h3
      · omega
      · omega
    · rw [makeR_one hl hl2]
      exact ⟨rfl, rfl⟩
theorem pow_one {n j k : Nat} (h1 : 2 ^ j ≤ n) (h2 : n < 2 ^ (j + 1)) (h3 : 2 ^ k ≤ n) (h4 : n < 2 ^ (k + 1)) : j = k := by
  rcases Nat.lt_trichotomy j k with h | h | h
  · have := Nat.pow_le_pow_right (n := 2) (by decide) (show j + 1 ≤ k from h)
    omega
  · exact h
  · have := Nat.pow_le_pow_right (n := 2) (by decide) (show k + 1 ≤ j from h)
    omega
theorem flatAns_one {L : List Int} {a b : List Nat} {k m : Nat} (h : FlatAns L a k) (h2 : FlatAns L b m) : a = b ∧ k = m := by
  rcases h with ⟨h, rfl, rfl⟩ | ⟨h3, rfl, j, h4, h5, rfl⟩
  · rcases h2 with ⟨_, rfl, rfl⟩ | ⟨h3, _⟩
    · exact ⟨rfl, rfl⟩
    · exact absurd h3 h
  · rcases h2 with ⟨h, _⟩ | ⟨_, rfl, j2, h6, h7, rfl⟩
    · exact absurd h3 h
    · rw [pow_one h4 h5 h6 h7]
      exact ⟨rfl, rfl⟩
theorem make_slice {w w' : World} {L : List Int} {most : Int} {e : Ending} (h : MakePost w L most e w') : ∃ a k A c, MakeAns L most a k ∧ a.length ≤ 258 ∧ e = .returned (.tuple #[.slice A a.length c, .int .i64 k]) ∧ a.length ≤ c ∧ IntsIn w' A a.length a ∧ Below w.heap.size w w' := by
  rcases h with ⟨h, v, rfl, ho, hb⟩ | ⟨h3, h4, h5, v, len, hl, rfl, ho, hb⟩
  · obtain ⟨A, c, rfl, hc, _⟩ := own_slice ho
    exact ⟨[], 2, A, c, .inl ⟨h, rfl, rfl⟩, by simp, rfl, hc, ints_of_own (L := []) ho, hb⟩
  · obtain ⟨A, c, rfl, hc, _⟩ := own_slice ho
    have e1 : ((List.range L.length).map len).length = L.length := by simp
    refine ⟨(List.range L.length).map len, 0, A, c, .inr ⟨h3, h4, h5, rfl, len, hl, rfl⟩, by rw [e1]; exact h3.2.1, ?_⟩
    rw [e1]
    refine ⟨rfl, hc, ?_, hb⟩
    have h6 : rowF L.length len = ((List.range L.length).map len).map iv := row_of rfl
    rw [h6] at ho
    exact ints_of_own ho
theorem flat_slice {w w' : World} {L : List Int} {e : Ending} (h : FlatPost w L e w') : ∃ a k A c, FlatAns L a k ∧ a.length ≤ 258 ∧ e = .returned (.tuple #[.slice A a.length c, .int .i64 k]) ∧ a.length ≤ c ∧ IntsIn w' A a.length a ∧ Below w.heap.size w w' := by
  rcases h with ⟨h, v, rfl, ho, hb⟩ | ⟨h3, v, j, h4, h5, rfl, ho, hb⟩
  · obtain ⟨A, c, rfl, hc, _⟩ := own_slice ho
    exact ⟨[], 2, A, c, .inl ⟨h, rfl, rfl⟩, by simp, rfl, hc, ints_of_own (L := []) ho, hb⟩
  · obtain ⟨A, c, rfl, hc, _⟩ := own_slice ho
    have e1 : ((List.range L.length).map (flatLen j (2 ^ (j + 1) - L.length) (oneL L))).length = L.length := by simp
    refine ⟨(List.range L.length).map (flatLen j (2 ^ (j + 1) - L.length) (oneL L)), 0, A, c, .inr ⟨h3, rfl, j, h4, h5, rfl⟩, by rw [e1]; exact h3.2.1, ?_⟩
    rw [e1]
    refine ⟨rfl, hc, ?_, hb⟩
    have h6 : rowF L.length (flatLen j (2 ^ (j + 1) - L.length) (oneL L)) = ((List.range L.length).map (flatLen j (2 ^ (j + 1) - L.length) (oneL L))).map iv := row_of rfl
    rw [h6] at ho
    exact ints_of_own ho

section
variable {N : Nat} (R : LenDone N)
include R

set_option maxHeartbeats 1600000 in
set_option maxRecDepth 100000 in
theorem checks_walk (hN : 10 ≤ N) (w : World) (A : Option Addr) (n c : Nat) (L : List Int) (hL : ZIn w A n L) (hnc : n ≤ c) (hn : n ≤ maxLen) : Calls Try.prog 5 #[.slice A n c] w fun e w' => e = .returned (.bool true) ∧ Below w.heap.size w w' := by
  have HAW := Lib.hid (awake_any R hN)
  have H1 := Lib.hid (R.check w A n c L hL hnc hn)
  have H2 := Lib.hid fun (w1 : World) (h : ZIn w1 A n L) => check_any w1 A n c L h hn
  have H3 := Lib.hid fun (w1 : World) (h : ZIn w1 A n L) => R.full w1 A n c L h hnc hn
  have H4 := Lib.hid fun (w1 : World) (h : ZIn w1 A n L) => full_any w1 A n c L h hn
  have HL := Lib.hid hL
  clear hL
  generalize (if LenOk L then (0 : Int) else 80) = x at *
  generalize decide (LenOk L ∧ kraftL L = 1048576) = b at *
  have dx : (x == x) = true := beq_self_eq_true _
  have db : (b == b) = true := beq_self_eq_true _
  go_enter Try.func5, Try.ntmps5
  go_wp2_with fail
  refine H1.out.mono ?_
  rintro e w1 ⟨rfl, hb1⟩
  have hl1 := HL.out.below hb1
  have HL1 := Lib.hid hl1
  have HB1 := Lib.hid hb1
  have H2' := Lib.hid (H2.out w1 hl1)
  have H3' := Lib.hid (H3.out w1 hl1)
  clear hb1 hl1
  go_wp2_with fail
  refine H2'.out.mono ?_
  rintro e w' ⟨rfl, rfl⟩
  go_wp2_with fail
  refine H3'.out.mono ?_
  rintro e w2 ⟨rfl, hb2⟩
  have H4' := Lib.hid (H4.out w2 (HL1.out.below hb2))
  have HB2 := Lib.hid (HB1.out.trans (hb2.mono HB1.out.size))
  clear hb2
  go_wp2_with fail
  refine H4'.out.mono ?_
  rintro e w3 ⟨rfl, rfl⟩
  go_wp2_with fail
  refine (HAW.out _).mono ?_
  rintro e w5 ⟨rfl, hb5⟩
  have HB5 := Lib.hid (HB2.out.trans (hb5.mono HB2.out.size))
  clear hb5
  go_wp2_with fail
  go_ret
  exact ⟨rfl, HB5.out⟩

set_option maxHeartbeats 1600000 in
set_option maxRecDepth 100000 in
theorem costs_walk (hN : 10 ≤ N) (w : World) (A B : Option Addr) (n c m d : Nat) (W L : List Int) (hW : ZIn w A n W) (hnc : n ≤ c) (hn : n ≤ maxLen) (hL : ZIn w B m L) (hmd : m ≤ d) (hm : m ≤ maxLen) : Calls Try.prog 6 #[.slice A n c, .slice B m d] w fun e w' => e = .returned (.bool true) ∧ Below w.heap.size w w' := by
  have HAW := Lib.hid (awake_any R hN)
  have H1 := Lib.hid (R.cost w A B n c m d W L hW hnc hn hL hmd hm)
  have H2 := Lib.hid fun (w1 : World) (h : ZIn w1 A n W) (h2 : ZIn w1 B m L) => cost_any w1 A B n c m d W L h hn h2 hm
  have HW := Lib.hid hW
  have HL := Lib.hid hL
  clear hL hW
  generalize costAns W L = ans at *
  obtain ⟨x, y⟩ := ans
  have dx : ((x : Int) == (x : Int)) = true := beq_self_eq_true _
  have dy : ((y : Int) == (y : Int)) = true := beq_self_eq_true _
  go_enter Try.func6, Try.ntmps6
  go_wp2_with fail
  refine H1.out.mono ?_
  rintro e w1 ⟨rfl, hb1⟩
  dsimp only
  have HB1 := Lib.hid hb1
  have H2' := Lib.hid (H2.out w1 (HW.out.below hb1) (HL.out.below hb1))
  clear hb1
  go_wp2_with fail
  refine H2'.out.mono ?_
  rintro e w' ⟨rfl, k, rfl⟩
  dsimp only
  have HB2 := Lib.hid (below_drewN HB1.out k)
  generalize w1.drewN k = w2 at *
  go_wp2_with fail
  refine (HAW.out _).mono ?_
  rintro e w5 ⟨rfl, hb5⟩
  have HB5 := Lib.hid (HB2.out.trans (hb5.mono HB2.out.size))
  clear hb5
  go_wp2_with fail
  go_ret
  exact ⟨rfl, HB5.out⟩

set_option maxHeartbeats 1600000 in
set_option maxRecDepth 100000 in
theorem makes_walk (hN : 1048576 ≤ N) (w : World) (A : Option Addr) (n c : Nat) (L : List Int) (most : Int) (hL : ZIn w A n L) (hn : n ≤ 1048576) (h1 : -9223372036854775808 ≤ most) (h2 : most ≤ 9223372036854775807) : Calls Try.prog 3 #[.slice A n c, .int .i64 most] w fun e w' => e = .returned (.bool true) ∧ Below w.heap.size w w' := by
  have HAW := Lib.hid (awake_any R (by omega))
  have hown0 : (w.alloc (.cells #[] 3)).ownsRow w.heap.size 3 1 (.slice (some ⟨w.heap.size, 0, none⟩) 0 0) 0 [] := World.ownsRow_made w #[] 0 (Nat.le_refl _) (Nat.zero_le _) rfl
  have hb0 : Below w.heap.size w (w.alloc (.cells #[] 3)) := (Below.refl _ w).alloc (Nat.le_refl _) _
  obtain ⟨v3, w3, hr3, ho3, hg3⟩ := append_zs (w.alloc (.cells #[] 3)) w.heap.size _ [] 0 hown0 A n c L (hL.below hb0) (by omega) (by simp)
  have hb3 : Below w.heap.size w w3 := hb0.grown hg3 (by simp) (fun k hk => (hown0.lt k hk).1)
  obtain ⟨A3, c3, rfl, hc3, _, _⟩ := own_slice ho3
  rw [Nat.zero_add] at ho3 hr3 hc3
  have hz3 : ZIn w3 A3 n L := zs_of_own ho3
  have HA := Lib.hid (R.make w3 A3 n c3 L most hz3 hc3 (by omega) (by unfold maxLen; omega) h1 h2)
  have HR := Lib.hid fun (w1 : World) (h : ZIn w1 A n L) => make_all w1 A n c L most h (by unfold maxLen; omega)
  have HL3 := Lib.hid (hL.below hb3)
  have HZ3 := Lib.hid hz3
  have HB3 := Lib.hid hb3
  have HR3 := Lib.hid hr3
  clear hL hown0 hb0 hr3 ho3 hg3 hb3 hz3 hc3
  go_enter Try.func3, Try.ntmps3
  go_wp2_with (at_builtin; refine Lib.wpList_append_run _ rfl (.tmp 10) (.tmp 11) 22 22 rfl (.slice (some ⟨w.heap.size, 0, none⟩) 0 0) (.slice A n c) rfl rfl _ w3 HR3.out ?_)
  refine HA.out.mono ?_
  intro e w4 h
  obtain ⟨a, k, A4, c4, hans, hal, rfl, _, hi4, hb4⟩ := make_slice h
  obtain ⟨p, hp⟩ : ∃ p, p = a.length := ⟨_, rfl⟩
  rw [← hp] at hi4 hal ⊢
  have HANS := Lib.hid hans
  have HI4 := Lib.hid hi4
  have HB4 := Lib.hid (HB3.out.trans (hb4.mono HB3.out.size))
  have HL4 := Lib.hid (HL3.out.below hb4)
  have HZ4 := Lib.hid (HZ3.out.below hb4)
  have HR4 := Lib.hid (HR.out w4 HL4.out)
  have HP := Lib.hid hp
  clear h hans hi4 hb4 hp HA HR
  go_wp2_with fail
  refine HR4.out.mono ?_
  intro e w5 h
  obtain ⟨a2, k2, A5, c5, hans2, _, rfl, _, hi5, hb5⟩ := make_slice h
  obtain ⟨rfl, rfl⟩ := makeAns_one HANS.out hans2
  rw [← HP.out] at hi5 ⊢
  have HS := Lib.hid (ints_same w5 A4 A5 p c4 c5 a (ints_low HI4.out hb5) hi5 (by omega))
  have HB5 := Lib.hid (HB4.out.trans (hb5.mono HB4.out.size))
  have HL5 := Lib.hid (HL4.out.below hb5)
  have HZ5 := Lib.hid (HZ4.out.below hb5)
  have dk : ((k : Int) == (k : Int)) = true := beq_self_eq_true _
  clear h hans2 hi5 hb5 HR4
  go_wp2_with fail
  refine HS.out.mono ?_
  rintro e w6 ⟨rfl, m6, rfl⟩
  have HB6 := Lib.hid (below_drewN HB5.out m6)
  have hs6 : ZIn (w5.drewN m6) A3 n L := HZ5.out
  have hl6 : ZIn (w5.drewN m6) A n L := HL5.out
  have HS2 := Lib.hid (zs_same (w5.drewN m6) A3 A n c3 c L hs6 hl6 (by omega))
  clear hs6 hl6 HS
  generalize w5.drewN m6 = w7 at *
  go_wp2_with fail
  refine HS2.out.mono ?_
  rintro e w8 ⟨rfl, m8, rfl⟩
  have HB8 := Lib.hid (below_drewN HB6.out m8)
  generalize w7.drewN m8 = w9 at *
  go_wp2_with fail
  refine (HAW.out w9).mono ?_
  rintro e w10 ⟨rfl, hb10⟩
  have HB10 := Lib.hid (HB8.out.trans (hb10.mono HB8.out.size))
  clear hb10
  go_wp2_with fail
  go_ret
  exact ⟨rfl, HB10.out⟩

set_option maxHeartbeats 1600000 in
set_option maxRecDepth 100000 in
theorem flats_walk (hN : 1048576 ≤ N) (w : World) (A : Option Addr) (n c : Nat) (L : List Int) (hL : ZIn w A n L) (hn : n ≤ 1048576) : Calls Try.prog 4 #[.slice A n c] w fun e w' => e = .returned (.bool true) ∧ Below w.heap.size w w' := by
  have HAW := Lib.hid (awake_any R (by omega))
  have hown0 : (w.alloc (.cells #[] 3)).ownsRow w.heap.size 3 1 (.slice (some ⟨w.heap.size, 0, none⟩) 0 0) 0 [] := World.ownsRow_made w #[] 0 (Nat.le_refl _) (Nat.zero_le _) rfl
  have hb0 : Below w.heap.size w (w.alloc (.cells #[] 3)) := (Below.refl _ w).alloc (Nat.le_refl _) _
  obtain ⟨v3, w3, hr3, ho3, hg3⟩ := append_zs (w.alloc (.cells #[] 3)) w.heap.size _ [] 0 hown0 A n c L (hL.below hb0) (by omega) (by simp)
  have hb3 : Below w.heap.size w w3 := hb0.grown hg3 (by simp) (fun k hk => (hown0.lt k hk).1)
  obtain ⟨A3, c3, rfl, hc3, _, _⟩ := own_slice ho3
  rw [Nat.zero_add] at ho3 hr3 hc3
  have hz3 : ZIn w3 A3 n L := zs_of_own ho3
  have HA := Lib.hid (R.flat w3 A3 n c3 L hz3 hc3 (by omega) (by unfold maxLen; omega))
  have HR := Lib.hid fun (w1 : World) (h : ZIn w1 A n L) => flat_all w1 A n c L h (by unfold maxLen; omega)
  have HL3 := Lib.hid (hL.below hb3)
  have HZ3 := Lib.hid hz3
  have HB3 := Lib.hid hb3
  have HR3 := Lib.hid hr3
  clear hL hown0 hb0 hr3 ho3 hg3 hb3 hz3 hc3
  go_enter Try.func4, Try.ntmps4
  go_wp2_with (at_builtin; refine Lib.wpList_append_run _ rfl _ _ 22 22 rfl (.slice (some ⟨w.heap.size, 0, none⟩) 0 0) (.slice A n c) rfl rfl _ w3 HR3.out ?_)
  refine HA.out.mono ?_
  intro e w4 h
  obtain ⟨a, k, A4, c4, hans, hal, rfl, _, hi4, hb4⟩ := flat_slice h
  obtain ⟨p, hp⟩ : ∃ p, p = a.length := ⟨_, rfl⟩
  rw [← hp] at hi4 hal ⊢
  have HANS := Lib.hid hans
  have HI4 := Lib.hid hi4
  have HB4 := Lib.hid (HB3.out.trans (hb4.mono HB3.out.size))
  have HL4 := Lib.hid (HL3.out.below hb4)
  have HZ4 := Lib.hid (HZ3.out.below hb4)
  have HR4 := Lib.hid (HR.out w4 HL4.out)
  have HP := Lib.hid hp
  clear h hans hi4 hb4 hp HA HR
  go_wp2_with fail
  refine HR4.out.mono ?_
  intro e w5 h
  obtain ⟨a2, k2, A5, c5, hans2, _, rfl, _, hi5, hb5⟩ := flat_slice h
  obtain ⟨rfl, rfl⟩ := flatAns_one HANS.out hans2
  rw [← HP.out] at hi5 ⊢
  have HS := Lib.hid (ints_same w5 A4 A5 p c4 c5 a (ints_low HI4.out hb5) hi5 (by omega))
  have HB5 := Lib.hid (HB4.out.trans (hb5.mono HB4.out.size))
  have HL5 := Lib.hid (HL4.out.below hb5)
  have HZ5 := Lib.hid (HZ4.out.below hb5)
  have dk : ((k : Int) == (k : Int)) = true := beq_self_eq_true _
  clear h hans2 hi5 hb5 HR4
  go_wp2_with fail
  refine HS.out.mono ?_
  rintro e w6 ⟨rfl, m6, rfl⟩
  have HB6 := Lib.hid (below_drewN HB5.out m6)
  have hs6 : ZIn (w5.drewN m6) A3 n L := HZ5.out
  have hl6 : ZIn (w5.drewN m6) A n L := HL5.out
  have HS2 := Lib.hid (zs_same (w5.drewN m6) A3 A n c3 c L hs6 hl6 (by omega))
  clear hs6 hl6 HS
  generalize w5.drewN m6 = w7 at *
  go_wp2_with fail
  refine HS2.out.mono ?_
  rintro e w8 ⟨rfl, m8, rfl⟩
  have HB8 := Lib.hid (below_drewN HB6.out m8)
  generalize w7.drewN m8 = w9 at *
  go_wp2_with fail
  refine (HAW.out w9).mono ?_
  rintro e w10 ⟨rfl, hb10⟩
  have HB10 := Lib.hid (HB8.out.trans (hb10.mono HB8.out.size))
  clear hb10
  go_wp2_with fail
  go_ret
  exact ⟨rfl, HB10.out⟩
end

end Go.Proofs.Ythpfmkknebnppaa
