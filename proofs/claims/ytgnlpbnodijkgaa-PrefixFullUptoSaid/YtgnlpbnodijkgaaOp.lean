/- The law PrefixFull, walked over what is asked of the code's functions. Conditions: a text of at most S bytes, at most N weights. Written ahead of stage 9. -/
import Derived.Test.YtgnlpbnodijkgaaOm
import Derived.Test.YtgnlpbnodijkgaaYx
namespace Go.Proofs.Ytgnlpbnodijkgaa
open Go.RowKit

theorem nl_int (a : List Nat) : nl (intL a) = a := by
  unfold nl intL
  rw [List.map_map]
  have e : (Int.toNat ∘ fun (x : Nat) => (x : Int)) = id := by
    funext x
    exact Int.toNat_natCast x
  rw [e, List.map_id]
/-- What Make tells: refused, or lengths that leave no room, none above 17. -/
theorem made_full {w w' : World} {L : List Int} {e : Ending} (h : MakePost w L 17 e w') :
    (∃ A c, e = .returned (.tuple #[.slice A 0 c, .int .i64 2]) ∧ Below w.heap.size w w') ∨
    ∃ A c a, e = .returned (.tuple #[.slice A a.length c, .int .i64 0]) ∧ a.length = L.length ∧ LenOk (intL a) ∧ kraftL (intL a) = 1048576 ∧ (∀ x ∈ a, x ≤ 17) ∧ a.length ≤ c ∧ IntsIn w' A a.length a ∧ Below w.heap.size w w' := by
  rcases h with ⟨_, v, rfl, ho, hb⟩ | ⟨hM, _, _, v, len, hmk, rfl, ho, hb⟩
  · obtain ⟨A, c, rfl, _⟩ := own_slice ho
    exact .inl ⟨A, c, rfl, hb⟩
  · obtain ⟨A, c, rfl, hc, _⟩ := own_slice ho
    have hol : (oneL L).length = L.length := by rw [oneL, List.length_map, List.length_range]
    obtain ⟨g1, g2⟩ := makeR_good hmk
    rw [hol] at g1 g2
    have g1' : ∀ i, i < L.length → len i ≤ 17 := g1
    have hfull := len_full hM.1 hM.2.1 (fun i hi => Nat.le_trans (g1' i hi) (by omega)) (g2 20 (by show (17 : Nat) ≤ 20; omega))
    have hal : ((List.range L.length).map len).length = L.length := by rw [List.length_map, List.length_range]
    refine .inr ⟨A, c, (List.range L.length).map len, by rw [hal], hal, hfull.1, hfull.2, fun x hx => ?_, by rw [hal]; exact hc, ?_, hb⟩
    · obtain ⟨i, hi, rfl⟩ := List.mem_map.1 hx
      exact g1' i (List.mem_range.1 hi)
    · rw [hal]
      refine ints_of_own (B := w.heap.size) (cap := c) ?_
      rw [List.map_map]
      exact ho

/-- What full lengths read. -/
theorem dec_full {a : List Nat} (hok : LenOk (intL a)) (hk : kraftL (intL a) = 1048576) (h17 : ∀ x ∈ a, x ≤ 17) {bs : List Nat} (hb : Bit01 bs) {p : Nat} (hp : p ≤ bs.length) :
    (∃ i, i < a.length ∧ decAns (intL a) bs (p : Int) = (i, p + a.getD i 0, 0) ∧ a.getD i 0 ≤ 17) ∨ (decAns (intL a) bs (p : Int) = (0, 0, 10) ∧ bs.length - p < 17) := by
  have hf := fits_of hok
  have hs := sum_nl (intL a)
  rw [hk] at hs
  rw [nl_int] at hf hs
  have hd : decAns (intL a) bs (p : Int) = match nextL a (bs.drop p) with
    | .hit i => (i, p + a.getD i 0, 0)
    | .short => (0, 0, 10)
    | .code => (0, 0, 90) := by
    rw [decAns, if_pos hok, if_neg (by omega), Int.toNat_natCast, nl_int]
    cases nextL a (List.drop p bs) <;> rfl
  cases hx : nextL a (bs.drop p) with
  | hit i =>
    rw [hx] at hd
    have hi := (nextF_is 20 1 (show nextF a (bs.drop p) 20 1 = .hit i from hx)).2.1
    exact .inl ⟨i, hi, hd, h17 _ (get_mem hi)⟩
  | short =>
    rw [hx] at hd
    refine .inr ⟨hd, ?_⟩
    rcases Nat.lt_or_ge (bs.length - p) 17 with h | h
    · exact h
    · exfalso
      obtain ⟨i, hi⟩ := next_full (bs := bs.drop p) hf (hb.drop p) hs (M := 17) h17 (by omega) (by omega) (by rw [List.length_drop]; exact h)
      rw [hx] at hi
      cases hi
  | code => exact absurd hx (next_full_code hf (hb.drop p) hs)

section
variable {S N : Nat} (R : PrefixDone S N) (hS : 200 ≤ S) (hS2 : S ≤ 281474976710656)
include R hS hS2

set_option maxHeartbeats 3200000 in
set_option maxRecDepth 100000 in
theorem full_walk (w : World) (A : Option Addr) (n c : Nat) (L : List Int) (s : ByteArray) (at' : Int) (hz : ZIn w A n L) (hnc : n ≤ c) (hnN : n ≤ N) (hn : n ≤ maxLen) (hs : s.size ≤ S) (h1 : -9223372036854775808 ≤ at') (h2 : at' ≤ 9223372036854775807) :
    Calls Try.prog 8 #[.slice A n c, .string s, .int .i64 at'] w fun e w' => e = .returned (.bool true) ∧ Below w.heap.size w w' := by
  have HAW := Lib.hid (awake_any R (by omega))
  have HMK := Lib.hid (R.make w A n c L 17 hz hnc hnN hn (by omega) (by omega))
  have HDEC := Lib.hid fun (w1 : World) (A1 : Option Addr) (n1 c1 : Nat) (L1 : List Int) (h : ZIn w1 A1 n1 L1) (hc : n1 ≤ c1) (hm : n1 ≤ maxLen) => R.dec w1 A1 n1 c1 L1 s at' h hc hm hs h1 h2
  have hs48 : s.size ≤ 281474976710656 := by omega
  obtain ⟨T, hT⟩ : ∃ T, T = 8 * s.size := ⟨_, rfl⟩
  have hTz : (8 : Int) * (s.size : Int) = (T : Int) := by omega
  have hTb : T ≤ 2251799813685248 := by omega
  have hbl : (bitsB s.data.toList).length = T := by rw [bitsB_length, hT]; rfl
  have h01 := bit01_bitsB s.data.toList
  generalize bitsB s.data.toList = bits at *
  have HBL := Lib.hid hbl
  have H01 := Lib.hid h01
  clear hz hbl h01 hT
  go_enter Try.func8, Try.ntmps8
  go_wp2_with fail
  refine HMK.out.mono ?_
  intro e w1 h
  rcases made_full h with ⟨A1, c1, rfl, hb1⟩ | ⟨A1, c1, a, rfl, hal, hok, hk, h17, hac, hi1, hb1⟩
  · have HB1 := Lib.hid hb1
    clear h hb1
    go_wp2_with fail
    refine (HAW.out w1).mono ?_
    rintro e w5 ⟨rfl, hb5⟩
    have HB5 := Lib.hid (HB1.out.trans (hb5.mono HB1.out.size))
    clear hb5
    go_wp2_with fail
    go_ret
    exact ⟨rfl, HB5.out⟩
  · have HB1 := Lib.hid hb1
    have HI1 := Lib.hid hi1
    have HOK := Lib.hid hok
    have HK := Lib.hid hk
    have H17 := Lib.hid h17
    have hn258 : a.length ≤ 258 := by
      have := hok.2.1
      simpa [intL] using this
    obtain ⟨m, hm⟩ : ∃ m, m = a.length := ⟨_, rfl⟩
    have HM := Lib.hid hm
    rw [← hm] at hac hn258 ⊢
    clear h hb1 hi1 hok hk h17 hal hm
    by_cases hbad : at' < 0 ∨ (T : Int) < at'
    · by_cases hb0 : at' < 0
      · have d1 : decide (at' < 0) = true := decide_eq_true hb0
        clear hbad
        go_wp2_with fail
        refine (HAW.out w1).mono ?_
        rintro e w5 ⟨rfl, hb5⟩
        have HB5 := Lib.hid (HB1.out.trans (hb5.mono HB1.out.size))
        clear hb5
        go_wp2_with fail
        go_ret
        exact ⟨rfl, HB5.out⟩
      · have d1 : decide (at' < 0) = false := decide_eq_false hb0
        have d2 : decide ((T : Int) < at') = true := decide_eq_true (by omega)
        clear hbad
        go_wp2_with fail
        refine (HAW.out w1).mono ?_
        rintro e w5 ⟨rfl, hb5⟩
        have HB5 := Lib.hid (HB1.out.trans (hb5.mono HB1.out.size))
        clear hb5
        go_wp2_with fail
        go_ret
        exact ⟨rfl, HB5.out⟩
    · obtain ⟨p, rfl⟩ : ∃ p : Nat, at' = p := ⟨at'.toNat, by omega⟩
      have d1 : decide ((p : Int) < 0) = false := decide_eq_false (by omega)
      have hpT : p ≤ T := by omega
      have d2 : decide ((T : Int) < (p : Int)) = false := decide_eq_false (by omega)
      have hzin := zin_of HI1.out
      rw [← HM.out] at hzin
      have HD := Lib.hid (HDEC.out w1 A1 m c1 _ hzin hac (by unfold maxLen; omega))
      have hcase := dec_full HOK.out HK.out H17.out H01.out (p := p) (by rw [HBL.out]; exact hpT)
      clear hbad hzin
      rcases hcase with ⟨i, hi, hans, hle⟩ | ⟨hans, hsh⟩
      · obtain ⟨y, hy⟩ : ∃ y, y = a.getD i 0 := ⟨_, rfl⟩
        rw [← hy] at hans hle
        obtain ⟨t, ht⟩ : ∃ t, t = p + y := ⟨_, rfl⟩
        rw [← ht] at hans
        have htz : (p : Int) + (y : Int) = (t : Int) := by omega
        have htb : t ≤ 2251799813685300 := by omega
        have HD2 : Hid (Calls Try.prog 16 #[.slice A1 m c1, .string s, .int .i64 p] w1 fun e w' => e = .returned (.tuple #[.int .i64 (i : Nat), .int .i64 (t : Nat), .int .i64 0]) ∧ Below w1.heap.size w1 w') := Lib.hid (by
          have h := HD.out
          rw [show (List.map (fun (x : Nat) => (x : Int)) a) = intL a from rfl, hans] at h
          exact h)
        have him : i < m := by rw [HM.out]; exact hi
        have hi258 : i < 258 := by omega
        have HY := Lib.hid hy
        have d3 : decide ((i : Int) < (m : Int)) = true := decide_eq_true (by omega)
        have e2 : ((t : Int) == (t : Int)) = true := beq_self_eq_true _
        clear hans HD hi hy ht
        go_wp2_with fail
        refine HD2.out.mono ?_
        rintro e w3 ⟨rfl, hb3⟩
        have hi3 := ints_low HI1.out hb3
        obtain ⟨b, off, rfl, hcells⟩ := hi3.2 (by rw [← HM.out]; omega)
        have hcl := hcells i (by rw [← HM.out]; exact him)
        rw [← HY.out] at hcl
        have HB3 := Lib.hid (HB1.out.trans (hb3.mono HB1.out.size))
        clear hi3 hcells hb3
        go_wp2_with fail
        refine (HAW.out w3).mono ?_
        rintro e w5 ⟨rfl, hb5⟩
        have HB5 := Lib.hid (HB3.out.trans (hb5.mono HB3.out.size))
        clear hb5
        go_wp2_with fail
        go_ret
        exact ⟨rfl, HB5.out⟩
      · have HD2 : Hid (Calls Try.prog 16 #[.slice A1 m c1, .string s, .int .i64 p] w1 fun e w' => e = .returned (.tuple #[.int .i64 0, .int .i64 0, .int .i64 10]) ∧ Below w1.heap.size w1 w') := Lib.hid (by
          have h := HD.out
          rw [show (List.map (fun (x : Nat) => (x : Int)) a) = intL a from rfl, hans] at h
          exact h)
        rw [HBL.out] at hsh
        have hdz : (T : Int) - (p : Int) = ((T - p : Nat) : Int) := by omega
        have d3 : decide ((T : Int) - (p : Int) < 17) = true := decide_eq_true (by omega)
        clear hans HD hdz
        go_wp2_with fail
        refine HD2.out.mono ?_
        rintro e w3 ⟨rfl, hb3⟩
        have HB3 := Lib.hid (HB1.out.trans (hb3.mono HB1.out.size))
        clear hb3
        go_wp2_with fail
        refine (HAW.out w3).mono ?_
        rintro e w5 ⟨rfl, hb5⟩
        have HB5 := Lib.hid (HB3.out.trans (hb5.mono HB3.out.size))
        clear hb5
        go_wp2_with fail
        go_ret
        exact ⟨rfl, HB5.out⟩
end

end Go.Proofs.Ytgnlpbnodijkgaa
