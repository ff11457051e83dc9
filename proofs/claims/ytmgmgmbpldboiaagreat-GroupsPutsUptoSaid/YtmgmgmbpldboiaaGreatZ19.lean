/- Uw Ux Uy Oh Oi Uz: texts laid together, what is not used left out. -/
import Derived.Test.YtmgmgmbpldboiaaGreatZ18
import Derived.Test.YtmgmgmbpldboiaaGreatZ07
import Derived.Test.YtmgmgmbpldboiaaGreatZ00
namespace Go.Proofs.YtmgmgmbpldboiaaGreat
open Go.RowKit

/-- So many lists of lengths, from a place on. -/
def takeT (bits : List Nat) (n : Nat) : Nat → Nat → List (List Nat) → List (List Nat) × Nat × Nat
  | 0, p, acc => (acc, p, 0)
  | t + 1, p, acc => if (takeAns bits p n).2.2 = 0 then (if LenOk (zL (takeAns bits p n).1) then takeT bits n t (takeAns bits p n).2.1 (acc ++ [(takeAns bits p n).1]) else ([], 0, 80)) else ([], 0, (takeAns bits p n).2.2)
/-- Behind the numbers of tables and picks. -/
def takeP (bits : List Nat) (n a T K : Nat) : List (List Int) × List Int × Nat × Nat :=
  if (takePicks bits T K [0, 1, 2, 3, 4, 5] (a + 18) []).2.2 = 0 then
    (if (takeT bits n T (takePicks bits T K [0, 1, 2, 3, 4, 5] (a + 18) []).2.1 []).2.2 = 0 then
      (((takeT bits n T (takePicks bits T K [0, 1, 2, 3, 4, 5] (a + 18) []).2.1 []).1.map zL), zL (takePicks bits T K [0, 1, 2, 3, 4, 5] (a + 18) []).1, (takeT bits n T (takePicks bits T K [0, 1, 2, 3, 4, 5] (a + 18) []).2.1 []).2.1, 0)
    else ([], [], 0, (takeT bits n T (takePicks bits T K [0, 1, 2, 3, 4, 5] (a + 18) []).2.1 []).2.2))
  else ([], [], 0, (takePicks bits T K [0, 1, 2, 3, 4, 5] (a + 18) []).2.2)
def takeN (bits : List Nat) (n a : Nat) : List (List Int) × List Int × Nat × Nat :=
  if bits.length < a + 3 then ([], [], 0, 10)
  else if val ((bits.drop a).take 3) < 2 ∨ 6 < val ((bits.drop a).take 3) then ([], [], 0, 110)
  else if bits.length < a + 18 then ([], [], 0, 10)
  else if val ((bits.drop (a + 3)).take 15) = 0 then ([], [], 0, 110)
  else takeP bits n a (val ((bits.drop a).take 3)) (val ((bits.drop (a + 3)).take 15))
/-- What Take answers. -/
def takeG (bits : List Nat) (at' n : Int) : List (List Int) × List Int × Nat × Nat :=
  if at' < 0 ∨ (bits.length : Int) < at' ∨ n < 3 ∨ 258 < n then ([], [], 0, 2) else takeN bits n.toNat at'.toNat
/-- A plan is answered, and a place. -/
def Plan3 (w : World) (ans : List (List Int) × List Int × Nat × Nat) (e : Ending) (w' : World) : Prop :=
  ∃ v, e = .returned (.tuple #[v, .int .i64 ans.2.2.1, .int .i64 ans.2.2.2]) ∧ PlanIn w' v ans.1 ans.2.1 ∧ Below w.heap.size w w'

theorem takePicks_place (bits : List Nat) (T : Nat) (hT : 0 < T) : ∀ (k : Nat) (o : List Nat) (p : Nat) (out : List Nat), p ≤ bits.length → (takePicks bits T k o p out).2.1 ≤ bits.length ∧ (takePicks bits T k o p out).2.2 ≤ 110
  | 0, _, _, _, h => ⟨h, Nat.zero_le _⟩
  | k + 1, o, p, out, h => by
    cases hp : placeL (bits.drop p) 0 T with
    | hit n =>
      have hl := (hit_lt (bits.drop p) 0 T n hp hT).2.1
      rw [List.length_drop] at hl
      rw [takePicks_hit hp]
      exact takePicks_place bits T hT k _ _ _ (by omega)
    | short =>
      rw [takePicks_short hp]
      exact ⟨Nat.zero_le _, by show 10 ≤ 110; omega⟩
    | bad =>
      rw [takePicks_bad hp]
      exact ⟨Nat.zero_le _, Nat.le_refl _⟩
set_option maxRecDepth 100000 in
theorem takeF_place : ∀ (bs : List Nat) (now n p : Nat) (out : List Nat), (takeF bs now n p out).2.1 ≤ p + bs.length ∧ (takeF bs now n p out).2.2 ≤ 80 := by
  intro bs
  induction h : bs.length using Nat.strongRecOn generalizing bs with
  | _ m ih =>
    intro now n p out
    subst h
    rcases n with _ | n
    · rw [takeF_done]
      exact ⟨Nat.le_add_right _ _, Nat.zero_le _⟩
    · by_cases hb : now < 1 ∨ 20 < now
      · rw [takeF_bad _ _ _ _ _ hb]
        exact ⟨Nat.zero_le _, Nat.le_refl _⟩
      · rcases bs with _ | ⟨b, bs⟩
        · rw [takeF_nil _ _ _ _ hb]
          exact ⟨Nat.zero_le _, by show 10 ≤ 80; omega⟩
        · by_cases h0 : b = 0
          · subst h0
            rw [takeF_zero _ _ _ _ _ hb]
            have := ih bs.length (by simp) bs rfl now n (p + 1) (out ++ [now])
            rw [List.length_cons]
            exact ⟨by omega, this.2⟩
          · rcases bs with _ | ⟨d, bs⟩
            · rw [takeF_one _ _ _ _ _ hb h0]
              exact ⟨Nat.zero_le _, by show 10 ≤ 80; omega⟩
            · rw [takeF_step _ _ _ _ _ _ _ hb h0]
              have := ih bs.length (by simp only [List.length_cons]; omega) bs rfl (if d = 0 then now + 1 else now - 1) (n + 1) (p + 2) out
              rw [List.length_cons, List.length_cons]
              exact ⟨by omega, this.2⟩
theorem takeAns_place (bits : List Nat) (at' n : Int) : (takeAns bits at' n).2.1 ≤ bits.length ∧ (takeAns bits at' n).2.2 ≤ 80 := by
  unfold takeAns
  split
  · exact ⟨Nat.zero_le _, by show 2 ≤ 80; omega⟩
  · split
    · exact ⟨Nat.zero_le _, by show 10 ≤ 80; omega⟩
    · have := takeF_place (bits.drop (at'.toNat + 5)) (val ((bits.drop at'.toNat).take 5)) n.toNat (at'.toNat + 5) []
      rw [List.length_drop] at this
      exact ⟨by omega, this.2⟩
theorem Lens.same {w0 w : World} {v : Value} {q : Nat} {F : Nat → Value} {C D : Nat → List Nat} (h : Lens w0 w v q F C) (hs : ∀ t, t < q → C t = D t) : Lens w0 w v q F D :=
  ⟨h.row, fun t ht => by rw [← hs t ht]; exact h.each t ht, h.below⟩
theorem takeT_more {bits : List Nat} {n t p : Nat} {acc : List (List Nat)} : takeT bits n (t + 1) p acc = if (takeAns bits p n).2.2 = 0 then (if LenOk (zL (takeAns bits p n).1) then takeT bits n t (takeAns bits p n).2.1 (acc ++ [(takeAns bits p n).1]) else ([], 0, 80)) else ([], 0, (takeAns bits p n).2.2) := rfl

set_option maxHeartbeats 3200000 in
set_option maxRecDepth 100000 in
theorem rtakeg_any (w : World) (A : Option Addr) (m c : Nat) (bits : List Nat) (a0 n : Nat) (hb : IntsIn w A m bits) (hmc : m ≤ c) (hm : m ≤ 1000000) (hc : c ≤ maxLen) (h01 : Bit01 bits) (ha : a0 ≤ m) (hn3 : 3 ≤ n) (hn : n ≤ 258) :
    Calls Tryz.prog 19 #[.slice A m c, .int .i64 a0, .int .i64 n] w (Plan3 w (takeN bits n a0)) := by
  have hbl := hb.1
  obtain ⟨w1, hw1⟩ : ∃ w1, w1 = w.alloc (.cells #[.slice none 0 0, .slice none 0 0] 26) := ⟨_, rfl⟩
  have hb1 : Below w.heap.size w w1 := by rw [hw1]; exact (Below.refl _ _).alloc (Nat.le_refl _) _
  have hk1 : Blk w1 w.heap.size 26 #[.slice none 0 0, .slice none 0 0] := by rw [hw1]; exact blk_new w _ _
  have HERR : Hid (∀ (wx : World) (k : Nat), takeN bits n a0 = ([], [], 0, k) → Blk wx w.heap.size 26 #[.slice none 0 0, .slice none 0 0] → Below w.heap.size w wx → Plan3 w (takeN bits n a0) (.returned (.tuple #[.agg #[.slice none 0 0, .slice none 0 0], .int .i64 0, .int .i64 k])) ((wx.setCell ⟨w.heap.size, 0, none⟩ (.slice none 0 0)).setCell ⟨w.heap.size, 1, none⟩ (.slice none 0 0))) := Lib.hid fun wx k h1 _ h3 => by
    rw [h1]
    exact ⟨_, rfl, plan_none _, (h3.setCell (p := ⟨w.heap.size, 0, none⟩) (Nat.le_refl _) _).setCell (p := ⟨w.heap.size, 1, none⟩) (Nat.le_refl _) _⟩
  have HOK : Hid (∀ (wx : World) (v : Value) (T : List (List Int)) (P : List Int) (pl : Nat), takeN bits n a0 = (T, P, pl, 0) → PlanIn wx v T P → Below w.heap.size w wx → Plan3 w (takeN bits n a0) (.returned (.tuple #[v, .int .i64 pl, .int .i64 0])) wx) := Lib.hid fun wx v T P pl h1 h2 h3 => ⟨v, by rw [h1]; rfl, by rw [h1]; exact h2, h3⟩
  have HI1 := Lib.hid (ints_low hb hb1)
  have hdef : takeN bits n a0 = if m < a0 + 3 then ([], [], 0, 10)
    else if val ((bits.drop a0).take 3) < 2 ∨ 6 < val ((bits.drop a0).take 3) then ([], [], 0, 110)
    else if m < a0 + 18 then ([], [], 0, 10)
    else if val ((bits.drop (a0 + 3)).take 15) = 0 then ([], [], 0, 110)
    else takeP bits n a0 (val ((bits.drop a0).take 3)) (val ((bits.drop (a0 + 3)).take 15)) := by rw [← hbl]; rfl
  generalize Plan3 w (takeN bits n a0) = PO at *
  generalize takeN bits n a0 = ans at *
  have HK1 := Lib.hid hk1
  have HB1 := Lib.hid hb1
  have H01 := Lib.hid h01
  have HBL := Lib.hid hbl
  have HDEF := Lib.hid hdef
  have d0 : decide ((a0 : Int) < 0) = false := decide_eq_false (by omega)
  have d1 : decide ((m : Int) < (a0 : Int)) = false := decide_eq_false (by omega)
  have d2 : decide ((n : Int) < 3) = false := decide_eq_false (by omega)
  have d3 : decide ((258 : Int) < (n : Int)) = false := decide_eq_false (by omega)
  unfold maxLen at hc
  clear hb hbl h01 hb1 hk1 hdef
  go_enter Tryz.func19, Tryz.ntmps19
  go_upto_region 3 with fail
  rw [← hw1]
  clear hw1
  by_cases e1 : m < a0 + 3
  · have HN := Lib.hid (num_short w1 A m c a0 3 (by omega) ha (by omega) e1)
    have hans := HDEF.out
    rw [if_pos e1] at hans
    have HA := Lib.hid hans
    clear hans HDEF
    go_wp2_with fail
    refine HN.out.mono ?_
    rintro e w2 ⟨rfl, rfl⟩
    have HPE := Lib.hid (HERR.out w1 10 HA.out HK1.out HB1.out)
    have q0 := (blk_cell HK1.out 0).trans rfl
    have q1 := (blk_cell HK1.out 1).trans rfl
    have f0 := blk_frozen HK1.out 0
    have f1 := blk_frozen HK1.out 1
    go_wp2_with fail
    refine bodyPost_ret (v := .tuple #[.agg #[.slice none 0 0, .slice none 0 0], .int .i64 0, .int .i64 10]) ?_ rfl HPE.out
    simp [results, Tryz.results19, go_sem, q0, q1]
  · have HN := Lib.hid (num_ok w1 A m c bits a0 3 HI1.out H01.out hmc (by unfold maxLen; omega) (by omega) (by omega))
    have hT8 : val ((bits.drop a0).take 3) < 2 ^ 3 := by
      have h := val_lt _ ((H01.out.drop a0).take 3)
      rw [List.length_take, List.length_drop, HBL.out, Nat.min_eq_left (by omega)] at h
      exact h
    have hans := HDEF.out
    rw [if_neg e1] at hans
    obtain ⟨T, hT⟩ : ∃ T, T = val ((bits.drop a0).take 3) := ⟨_, rfl⟩
    rw [← hT] at HN hT8 hans
    have HDEF2 := Lib.hid hans
    clear hans HDEF hT
    by_cases e2 : T < 2 ∨ 6 < T
    · have hans := HDEF2.out
      rw [if_pos e2] at hans
      have HA := Lib.hid hans
      clear hans HDEF2
      by_cases e3 : T < 2
      · have d5 : decide ((T : Int) < 2) = true := decide_eq_true (by omega)
        clear e2
        go_wp2_with fail
        refine HN.out.mono ?_
        rintro e w2 ⟨rfl, rfl⟩
        have HPE := Lib.hid (HERR.out w1 110 HA.out HK1.out HB1.out)
        have q0 := (blk_cell HK1.out 0).trans rfl
        have q1 := (blk_cell HK1.out 1).trans rfl
        have f0 := blk_frozen HK1.out 0
        have f1 := blk_frozen HK1.out 1
        go_wp2_with fail
        refine bodyPost_ret (v := .tuple #[.agg #[.slice none 0 0, .slice none 0 0], .int .i64 0, .int .i64 110]) ?_ rfl HPE.out
        simp [results, Tryz.results19, go_sem, q0, q1]
      · have d5 : decide ((T : Int) < 2) = false := decide_eq_false (by omega)
        have d6 : decide ((6 : Int) < (T : Int)) = true := decide_eq_true (by omega)
        clear e2
        go_wp2_with fail
        refine HN.out.mono ?_
        rintro e w2 ⟨rfl, rfl⟩
        have HPE := Lib.hid (HERR.out w1 110 HA.out HK1.out HB1.out)
        have q0 := (blk_cell HK1.out 0).trans rfl
        have q1 := (blk_cell HK1.out 1).trans rfl
        have f0 := blk_frozen HK1.out 0
        have f1 := blk_frozen HK1.out 1
        go_wp2_with fail
        refine bodyPost_ret (v := .tuple #[.agg #[.slice none 0 0, .slice none 0 0], .int .i64 0, .int .i64 110]) ?_ rfl HPE.out
        simp [results, Tryz.results19, go_sem, q0, q1]
    · have hans := HDEF2.out
      rw [if_neg e2] at hans
      have HDEF3 := Lib.hid hans
      have d5 : decide ((T : Int) < 2) = false := decide_eq_false (by omega)
      have d6 : decide ((6 : Int) < (T : Int)) = false := decide_eq_false (by omega)
      obtain ⟨p3, hp3⟩ : ∃ p3, p3 = a0 + 3 := ⟨_, rfl⟩
      have hp3I : (a0 : Int) + 3 = (p3 : Int) := by omega
      have hT2 : 2 ≤ T := by omega
      have hT6 : T ≤ 6 := by omega
      have HP3 := Lib.hid hp3
      clear hans HDEF2 e2
      by_cases e4 : m < a0 + 18
      · have HN2 := Lib.hid (num_short w1 A m c p3 15 (by omega) (by omega) (by omega) (by omega))
        have hans := HDEF3.out
        rw [if_pos e4] at hans
        have HA := Lib.hid hans
        clear hans HDEF3 hp3
        go_wp2_with fail
        refine HN.out.mono ?_
        rintro e w2 ⟨rfl, rfl⟩
        go_wp2_with fail
        refine HN2.out.mono ?_
        rintro e w2 ⟨rfl, rfl⟩
        have HPE := Lib.hid (HERR.out w1 10 HA.out HK1.out HB1.out)
        have q0 := (blk_cell HK1.out 0).trans rfl
        have q1 := (blk_cell HK1.out 1).trans rfl
        have f0 := blk_frozen HK1.out 0
        have f1 := blk_frozen HK1.out 1
        go_wp2_with fail
        refine bodyPost_ret (v := .tuple #[.agg #[.slice none 0 0, .slice none 0 0], .int .i64 0, .int .i64 10]) ?_ rfl HPE.out
        simp [results, Tryz.results19, go_sem, q0, q1]
      · have HN2 := Lib.hid (num_ok w1 A m c bits p3 15 HI1.out H01.out hmc (by unfold maxLen; omega) (by omega) (by omega))
        have hK8 : val ((bits.drop p3).take 15) < 2 ^ 15 := by
          have h := val_lt _ ((H01.out.drop p3).take 15)
          rw [List.length_take, List.length_drop, HBL.out, Nat.min_eq_left (by omega)] at h
          exact h
        have hans := HDEF3.out
        rw [if_neg e4, ← hp3] at hans
        obtain ⟨K, hK⟩ : ∃ K, K = val ((bits.drop p3).take 15) := ⟨_, rfl⟩
        rw [← hK] at HN2 hK8 hans
        have hK15 : K < 32768 := by simpa using hK8
        have HDEF4 := Lib.hid hans
        clear hans HDEF3 hp3 hK hK8
        by_cases e5 : K = 0
        · have hans := HDEF4.out
          rw [if_pos e5] at hans
          have HA := Lib.hid hans
          have d7 : ((K : Int) == 0) = true := by rw [e5]; rfl
          clear hans HDEF4
          go_wp2_with fail
          refine HN.out.mono ?_
          rintro e w2 ⟨rfl, rfl⟩
          go_wp2_with fail
          refine HN2.out.mono ?_
          rintro e w2 ⟨rfl, rfl⟩
          have HPE := Lib.hid (HERR.out w1 110 HA.out HK1.out HB1.out)
          have q0 := (blk_cell HK1.out 0).trans rfl
          have q1 := (blk_cell HK1.out 1).trans rfl
          have f0 := blk_frozen HK1.out 0
          have f1 := blk_frozen HK1.out 1
          go_wp2_with fail
          refine bodyPost_ret (v := .tuple #[.agg #[.slice none 0 0, .slice none 0 0], .int .i64 0, .int .i64 110]) ?_ rfl HPE.out
          simp [results, Tryz.results19, go_sem, q0, q1]
        · have hans := HDEF4.out
          rw [if_neg e5] at hans
          have HDEF5 := Lib.hid hans
          have d7 : ((K : Int) == 0) = false := by
            rw [beq_eq_false_iff_ne]
            omega
          obtain ⟨p18, hp18⟩ : ∃ p18, p18 = a0 + 18 := ⟨_, rfl⟩
          have hp18I : (a0 : Int) + 18 = (p18 : Int) := by omega
          have HPK := Lib.hid (rpicked_any w1 A m c bits p18 T K HI1.out hm (by omega) (by omega) hT6 (by omega))
          have hpl := takePicks_place bits T (by omega) K [0, 1, 2, 3, 4, 5] p18 [] (by rw [HBL.out]; omega)
          rw [HBL.out] at hpl
          unfold takeP at hans
          rw [← hp18] at hans
          generalize takePicks bits T K [0, 1, 2, 3, 4, 5] p18 [] = pk at *
          obtain ⟨out, p0, ck⟩ := pk
          dsimp only at hans hpl
          obtain ⟨hp0, hck⟩ := hpl
          have HDEF6 := Lib.hid hans
          clear hans HDEF4 HDEF5 hp18
          go_wp2_with fail
          refine HN.out.mono ?_
          rintro e w2 ⟨rfl, rfl⟩
          go_wp2_with fail
          refine HN2.out.mono ?_
          rintro e w2 ⟨rfl, rfl⟩
          go_wp2_with fail
          refine HPK.out.mono ?_
          rintro e w3 ⟨v3, rfl, ho3, hb3⟩
          obtain ⟨A3, c3, rfl, hnc3, hmc3, _⟩ := own_slice ho3
          dsimp only at ho3 hnc3 hmc3 ⊢
          have HK3 := Lib.hid ((step_of_below hb3).blk HK1.out List.not_mem_nil List.not_mem_nil)
          have HB3 := Lib.hid (HB1.out.trans (hb3.mono HB1.out.size))
          have HI3 := Lib.hid (ints_low HI1.out hb3)
          have HPI := Lib.hid (zin_of (ints_of_own ho3))
          obtain ⟨N3, hN3⟩ : ∃ N3, N3 = out.length := ⟨_, rfl⟩
          rw [← hN3] at HPI hnc3 ⊢
          have HN3 := Lib.hid hN3
          clear ho3 hb3 hN3 HPK
          by_cases e6 : ck = 0
          · subst e6
            have hans := HDEF6.out
            rw [if_pos rfl] at hans
            have HDEF7 := Lib.hid hans
            clear hans HDEF6
            have hb34 : Below w3.heap.size w3 (w3.alloc (.cells #[.slice none 0 0, .slice A3 N3 c3] 26)) := (Below.refl _ _).alloc (Nat.le_refl _) _
            have HG4 := Lib.hid (blk_new w3 26 #[.slice none 0 0, .slice A3 N3 c3])
            have HK4 := Lib.hid ((step_of_below hb34).blk HK3.out List.not_mem_nil List.not_mem_nil)
            have hlt3 : w.heap.size < w3.heap.size := (Array.getElem?_eq_some_iff.1 HK3.out).1
            have HB34 := Lib.hid hb34
            clear hb34
            go_upto_region 17 with fail
            generalize w3.alloc (.cells #[.slice none 0 0, .slice A3 N3 c3] 26) = w4 at *
            go_wp2_with fail
            go_loopw [1, 14] (fun av tv wx => ∃ (t p : Nat) (acc : List (List Nat)) (F : Nat → Value) (v : Value), t ≤ T ∧ tv = .int .i64 t ∧ av = .int .i64 p ∧ p ≤ m ∧ acc.length = t ∧ Hid (takeT bits n T p0 [] = takeT bits n (T - t) p acc) ∧ Hid (∀ x ∈ acc, LenOk (zL x)) ∧ Lens w3 wx v t F (fun i => acc.getD i []) ∧ Blk wx w3.heap.size 26 #[v, .slice A3 N3 c3] ∧ Blk wx w.heap.size 26 #[.slice none 0 0, .slice none 0 0]) (fun _ tv _ => T - (intOf tv).toNat)
            case atStart => exact ⟨0, p0, [], fun _ => .slice none 0 0, .slice none 0 0, Nat.zero_le _, rfl, rfl, hp0, rfl, Lib.hid rfl, Lib.hid (fun x hx => absurd hx List.not_mem_nil), Lens.nil w3 w4 _ _ HB34.out, HG4.out, HK4.out⟩
            case round =>
              obtain ⟨t, p, acc, F, v, ht, rfl, rfl, hpm, hacc, hrun, hall, hlens, hg, hk⟩ := hrel
              obtain ⟨A5, c5, rfl, hn5, hm5, _⟩ := own_slice hlens.row
              have HLE := Lib.hid hlens
              have HG := Lib.hid hg
              have HKR := Lib.hid hk
              have HBW := Lib.hid (HB3.out.trans (hlens.below.mono HB3.out.size))
              have HAC := Lib.hid hacc
              unfold maxLen at hm5
              by_cases e7 : t < T
              · have d9 : decide ((t : Int) < (T : Int)) = true := decide_eq_true (by omega)
                have HTK := Lib.hid (rtake_any wr A m c bits p n (ints_low HI3.out hlens.below) hmc hm H01.out hpm (by omega) hn)
                have hr := hrun.out
                rw [show T - t = (T - t - 1) + 1 by omega, takeT_more] at hr
                have hpl := takeAns_place bits p n
                rw [HBL.out] at hpl
                generalize takeAns bits p n = ta at *
                obtain ⟨x, p2, cx⟩ := ta
                dsimp only at hr hpl
                obtain ⟨hp2, hcx⟩ := hpl
                have HRUN := Lib.hid hr
                clear hr hrun hlens hg hk hacc
                go_wp2_with fail
                refine HTK.out.mono ?_
                rintro e w6 ⟨v6, rfl, ho6, hb6⟩
                obtain ⟨A6, c6, rfl, hnc6, _, _⟩ := own_slice ho6
                dsimp only at ho6 hnc6 ⊢
                have HO6 := Lib.hid ho6
                have HZ6 := Lib.hid (zin_of (ints_of_own ho6))
                have HLE6 := Lib.hid hb6
                have HG6 := Lib.hid ((step_of_below hb6).blk HG.out List.not_mem_nil List.not_mem_nil)
                have HKR6 := Lib.hid ((step_of_below hb6).blk HKR.out List.not_mem_nil List.not_mem_nil)
                have HB6 := Lib.hid (HBW.out.trans (hb6.mono HBW.out.size))
                obtain ⟨N6, hN6⟩ : ∃ N6, N6 = x.length := ⟨_, rfl⟩
                rw [← hN6] at HO6 HZ6 hnc6 ⊢
                have HN6 := Lib.hid hN6
                clear ho6 hb6 hN6 HTK
                by_cases e8 : cx = 0
                · subst e8
                  have hr := HRUN.out
                  rw [if_pos rfl] at hr
                  have hN6m : N6 ≤ maxLen := by
                    have h := own_slice HO6.out
                    obtain ⟨_, _, h1, h2, h3, _⟩ := h
                    omega
                  have HCK := Lib.hid (check_any w6 A6 N6 c6 (zL x) HZ6.out hN6m)
                  by_cases e9 : LenOk (zL x)
                  · rw [if_pos e9] at HCK hr
                    have HRUN2 := Lib.hid hr
                    have hx258 : x.length ≤ 258 := by
                      have h := e9.2.1
                      rw [zL_length] at h
                      exact h
                    have hN258 : N6 ≤ 258 := by rw [HN6.out]; exact hx258
                    have HE9 := Lib.hid e9
                    have hCs : ∀ i, i < t → (fun i => acc.getD i []) i = (fun i => (acc ++ [x]).getD i []) i := by
                      intro i hi
                      show acc.getD i [] = (acc ++ [x]).getD i []
                      rw [List.getD_eq_getElem?_getD, List.getD_eq_getElem?_getD, List.getElem?_append_left (by rw [HAC.out]; exact hi)]
                    have hCt : (acc ++ [x]).getD t [] = x := by
                      rw [List.getD_eq_getElem?_getD, List.getElem?_append_right (by rw [HAC.out]; exact Nat.le_refl _), HAC.out, Nat.sub_self]
                      rfl
                    obtain ⟨A7, c7, w7, hr7, hl7, hk7⟩ := (HLE.out.same hCs).push (C := fun i => (acc ++ [x]).getD i []) (A1 := A6) (n := N6) (k1 := c6) (by rw [hCt]; exact HO6.out) HLE6.out (by omega) (by rw [hCt, HN6.out])
                    have hg7 := hk7 _ _ _ HG6.out (by decide)
                    have hkr7 := hk7 _ _ _ HKR6.out (by decide)
                    have hlo3 : w3.heap.size ≤ w3.heap.size := Nat.le_refl _
                    have HR7 := Lib.hid hr7
                    have HL8 := Lib.hid (hl7.store hg7 (by decide) (by decide) hlo3 0 (.slice A7 (t + 1 : Nat) c7))
                    have hg8 := blk_set hg7 0 (.slice A7 (t + 1 : Nat) c7)
                    have HG8 : Hid (Blk (w7.setCell ⟨w3.heap.size, 0, none⟩ (.slice A7 (t + 1 : Nat) c7)) w3.heap.size 26 #[.slice A7 (t + 1 : Nat) c7, .slice A3 N3 c3]) := Lib.hid (by simpa using hg8)
                    have HKR8 : Hid (Blk (w7.setCell ⟨w3.heap.size, 0, none⟩ (.slice A7 (t + 1 : Nat) c7)) w.heap.size 26 #[.slice none 0 0, .slice none 0 0]) := Lib.hid (by
                      show (World.setCell _ _ _).heap[_]? = _
                      rw [Below.heap_setCell _ ⟨w3.heap.size, 0, none⟩ _ _ (show w.heap.size ≠ w3.heap.size by omega)]
                      exact hkr7)
                    have q0 := (blk_cell HG6.out 0).trans rfl
                    have q7 := (blk_cell hg7 0).trans rfl
                    have f7 := blk_frozen hg7 0
                    clear hr e9 hCs hCt hr7 hl7 hk7 hg7 hkr7 hg8 hx258 HRUN
                    go_wp2_with fail
                    refine HCK.out.mono ?_
                    rintro e w9 ⟨rfl, rfl⟩
                    go_wp2_with (at_builtin; refine Lib.wpList_append_run _ rfl (.tmp 109) (.tmp 111) 24 24 rfl (.slice A5 t c5) (.slice (some ⟨w9.heap.size, 0, none⟩) 1 1) rfl rfl _ _ HR7.out ?_)
                    go_roundw
                    case rel =>
                      refine ⟨t + 1, p2, acc ++ [x], _, _, by omega, by go_num, rfl, hp2, by rw [List.length_append, HAC.out]; rfl, Lib.hid (by rw [HRUN2.out, show T - (t + 1) = T - t - 1 by omega]), Lib.hid (fun y hy => ?_), HL8.out, HG8.out, HKR8.out⟩
                      rcases List.mem_append.1 hy with hy | hy
                      · exact hall.out y hy
                      · rw [List.mem_singleton.1 hy]
                        exact HE9.out
                    case measure => simp [intOf]; omega
                  · rw [if_neg e9] at HCK hr
                    have HA : Hid (ans = ([], [], 0, 80)) := Lib.hid (by rw [HDEF7.out, hr]; rfl)
                    have d10 : ((80 : Int) != 0) = true := rfl
                    clear hr e9 HRUN
                    go_wp2_with fail
                    refine HCK.out.mono ?_
                    rintro e w9 ⟨rfl, rfl⟩
                    have HPE := Lib.hid (HERR.out w9 80 HA.out HKR6.out HB6.out)
                    have q0 := (blk_cell HKR6.out 0).trans rfl
                    have q1 := (blk_cell HKR6.out 1).trans rfl
                    have f0 := blk_frozen HKR6.out 0
                    have f1 := blk_frozen HKR6.out 1
                    go_wp2_with fail
                    refine bodyPost_ret (v := .tuple #[.agg #[.slice none 0 0, .slice none 0 0], .int .i64 0, .int .i64 80]) ?_ rfl HPE.out
                    simp [results, Tryz.results19, go_sem, q0, q1]
                · have d8 : ((cx : Int) != 0) = true := by
                    rw [bne_iff_ne]
                    omega
                  have hr := HRUN.out
                  rw [if_neg e8] at hr
                  have HA : Hid (ans = ([], [], 0, cx)) := Lib.hid (by
                    rw [HDEF7.out, hr]
                    exact if_neg e8)
                  clear hr HRUN
                  have HPE := Lib.hid (HERR.out w6 cx HA.out HKR6.out HB6.out)
                  have q0 := (blk_cell HKR6.out 0).trans rfl
                  have q1 := (blk_cell HKR6.out 1).trans rfl
                  have f0 := blk_frozen HKR6.out 0
                  have f1 := blk_frozen HKR6.out 1
                  go_wp2_with fail
                  refine bodyPost_ret (v := .tuple #[.agg #[.slice none 0 0, .slice none 0 0], .int .i64 0, .int .i64 cx]) ?_ rfl HPE.out
                  simp [results, Tryz.results19, go_sem, q0, q1]
              · obtain rfl : t = T := by omega
                have d9 : decide ((t : Int) < (t : Int)) = false := decide_eq_false (by omega)
                have hr := hrun.out
                rw [Nat.sub_self] at hr
                have hr2 : takeT bits n t p0 [] = (acc, p, 0) := hr
                have HA : Hid (ans = (acc.map zL, zL out, p, 0)) := Lib.hid (by rw [HDEF7.out, hr2]; rfl)
                have hshort : ∀ i, i < t → (acc.getD i []).length ≤ 1000 := by
                  intro i hi
                  have hmem : acc.getD i [] ∈ acc := by
                    rw [List.getD_eq_getElem?_getD, List.getElem?_eq_getElem (by rw [HAC.out]; exact hi)]
                    exact List.getElem_mem ..
                  have h := (hall.out _ hmem).2.1
                  rw [zL_length] at h
                  omega
                have htz := HLE.out.tabZ hshort
                have hmap : ((List.range t).map fun i => zL (acc.getD i [])) = acc.map zL := by
                  apply List.ext_getElem?
                  intro i
                  rw [List.getElem?_map, List.getElem?_map]
                  by_cases hi : i < t
                  · rw [List.getElem?_range hi]
                    show some (zL (acc.getD i [])) = _
                    rw [List.getD_eq_getElem?_getD, List.getElem?_eq_getElem (by rw [HAC.out]; exact hi)]
                    rfl
                  · rw [List.getElem?_eq_none (by rw [List.length_range]; omega), List.getElem?_eq_none (by rw [HAC.out]; omega)]
                    rfl
                rw [hmap] at htz
                have hpin : PlanIn wr (.agg #[.slice A5 t c5, .slice A3 N3 c3]) (acc.map zL) (zL out) := ⟨A5, t, c5, A3, N3, c3, rfl, htz, hn5, by unfold maxLen; omega, HPI.out.below HLE.out.below, hnc3, by
                  have h := HN3.out
                  omega⟩
                have hpin2 := hpin.past (w' := (wr.setCell ⟨w.heap.size, 0, none⟩ (.slice A5 t c5)).setCell ⟨w.heap.size, 1, none⟩ (.slice A3 N3 c3)) (fun y hy => by
                  obtain ⟨z, hz, rfl⟩ := List.mem_map.1 hy
                  have := (hall.out z hz).1
                  omega) HKR.out (set_two_heap _ _ _ _)
                have HPE := Lib.hid (HOK.out _ _ _ _ p HA.out hpin2 ((HBW.out.setCell (p := ⟨w.heap.size, 0, none⟩) (Nat.le_refl _) _).setCell (p := ⟨w.heap.size, 1, none⟩) (Nat.le_refl _) _))
                have q0 := (blk_cell HKR.out 0).trans rfl
                have q1 := (blk_cell HKR.out 1).trans rfl
                have f0 := blk_frozen HKR.out 0
                have f1 := blk_frozen HKR.out 1
                have s0 := (blk_cell HG.out 0).trans rfl
                have s1 := (blk_cell HG.out 1).trans rfl
                clear hr hr2 hrun hlens hg hk hshort htz hmap hpin hpin2 hacc
                go_wp2_with fail
                refine bodyPost_ret (v := .tuple #[.agg #[.slice A5 t c5, .slice A3 N3 c3], .int .i64 p, .int .i64 0]) ?_ rfl HPE.out
                simp [results, Tryz.results19, go_sem, q0, q1]
          · have d8 : ((ck : Int) != 0) = true := by
              rw [bne_iff_ne]
              omega
            have hans := HDEF6.out
            rw [if_neg e6] at hans
            have HA := Lib.hid hans
            clear hans HDEF6
            have HPE := Lib.hid (HERR.out w3 ck HA.out HK3.out HB3.out)
            have q0 := (blk_cell HK3.out 0).trans rfl
            have q1 := (blk_cell HK3.out 1).trans rfl
            have f0 := blk_frozen HK3.out 0
            have f1 := blk_frozen HK3.out 1
            go_wp2_with fail
            refine bodyPost_ret (v := .tuple #[.agg #[.slice none 0 0, .slice none 0 0], .int .i64 0, .int .i64 ck]) ?_ rfl HPE.out
            simp [results, Tryz.results19, go_sem, q0, q1]

end Go.Proofs.YtmgmgmbpldboiaaGreat
namespace Go.Proofs.YtmgmgmbpldboiaaGreat
open Go.RowKit

set_option maxHeartbeats 1600000 in
set_option maxRecDepth 100000 in
theorem rtakeg_out (w : World) (A : Option Addr) (m c : Nat) (at' n : Int) (_hm : m ≤ 1000000) (h : at' < 0 ∨ (m : Int) < at' ∨ n < 3 ∨ 258 < n) :
    Calls Tryz.prog 19 #[.slice A m c, .int .i64 at', .int .i64 n] w (Plan3 w ([], [], 0, 2)) := by
  obtain ⟨w1, hw1⟩ : ∃ w1, w1 = w.alloc (.cells #[.slice none 0 0, .slice none 0 0] 26) := ⟨_, rfl⟩
  have hb1 : Below w.heap.size w w1 := by rw [hw1]; exact (Below.refl _ _).alloc (Nat.le_refl _) _
  have hk1 : Blk w1 w.heap.size 26 #[.slice none 0 0, .slice none 0 0] := by rw [hw1]; exact blk_new w _ _
  have HPE : Hid (Plan3 w ([], [], 0, 2) (.returned (.tuple #[.agg #[.slice none 0 0, .slice none 0 0], .int .i64 0, .int .i64 2])) w1) := Lib.hid ⟨_, rfl, plan_none _, hb1⟩
  have q0 := (blk_cell hk1 0).trans rfl
  have q1 := (blk_cell hk1 1).trans rfl
  have f0 := blk_frozen hk1 0
  have f1 := blk_frozen hk1 1
  generalize Plan3 w ([], [], 0, 2) = PO at *
  rw [hw1] at q0 q1 f0 f1
  clear hb1 hk1
  by_cases h1 : at' < 0
  · have d0 : decide (at' < 0) = true := decide_eq_true h1
    clear h
    go_enter Tryz.func19, Tryz.ntmps19
    go_wp2_with fail
    rw [← hw1]
    rw [← hw1] at q0 q1 f0 f1
    refine bodyPost_ret (v := .tuple #[.agg #[.slice none 0 0, .slice none 0 0], .int .i64 0, .int .i64 2]) ?_ rfl HPE.out
    simp [results, Tryz.results19, go_sem, q0, q1]
  · have d0 : decide (at' < 0) = false := decide_eq_false h1
    by_cases h2 : (m : Int) < at'
    · have d1 : decide ((m : Int) < at') = true := decide_eq_true h2
      clear h
      go_enter Tryz.func19, Tryz.ntmps19
      go_wp2_with fail
      rw [← hw1]
      rw [← hw1] at q0 q1 f0 f1
      refine bodyPost_ret (v := .tuple #[.agg #[.slice none 0 0, .slice none 0 0], .int .i64 0, .int .i64 2]) ?_ rfl HPE.out
      simp [results, Tryz.results19, go_sem, q0, q1]
    · have d1 : decide ((m : Int) < at') = false := decide_eq_false h2
      by_cases h3 : n < 3
      · have d2 : decide (n < 3) = true := decide_eq_true h3
        clear h
        go_enter Tryz.func19, Tryz.ntmps19
        go_wp2_with fail
        rw [← hw1]
        rw [← hw1] at q0 q1 f0 f1
        refine bodyPost_ret (v := .tuple #[.agg #[.slice none 0 0, .slice none 0 0], .int .i64 0, .int .i64 2]) ?_ rfl HPE.out
        simp [results, Tryz.results19, go_sem, q0, q1]
      · have d2 : decide (n < 3) = false := decide_eq_false h3
        have d3 : decide (258 < n) = true := decide_eq_true (by omega)
        clear h
        go_enter Tryz.func19, Tryz.ntmps19
        go_wp2_with fail
        rw [← hw1]
        rw [← hw1] at q0 q1 f0 f1
        refine bodyPost_ret (v := .tuple #[.agg #[.slice none 0 0, .slice none 0 0], .int .i64 0, .int .i64 2]) ?_ rfl HPE.out
        simp [results, Tryz.results19, go_sem, q0, q1]
theorem rtakeg_all (w : World) (A : Option Addr) (m c : Nat) (bits : List Nat) (at' n : Int) (hb : IntsIn w A m bits) (hmc : m ≤ c) (hm : m ≤ 1000000) (hc : c ≤ maxLen) (h01 : Bit01 bits) :
    Calls Tryz.prog 19 #[.slice A m c, .int .i64 at', .int .i64 n] w (Plan3 w (takeG bits at' n)) := by
  by_cases h : at' < 0 ∨ (m : Int) < at' ∨ n < 3 ∨ 258 < n
  · rw [takeG, if_pos (by rw [hb.1]; exact h)]
    exact rtakeg_out w A m c at' n hm h
  · rw [takeG, if_neg (by rw [hb.1]; exact h)]
    obtain ⟨a0, rfl⟩ : ∃ a0 : Nat, at' = a0 := ⟨at'.toNat, by omega⟩
    obtain ⟨n0, rfl⟩ : ∃ n0 : Nat, n = n0 := ⟨n.toNat, by omega⟩
    exact rtakeg_any w A m c bits a0 n0 hb hmc hm hc h01 (by omega) (by omega) (by omega)

end Go.Proofs.YtmgmgmbpldboiaaGreat
namespace Go.Proofs.YtmgmgmbpldboiaaGreat
open Go.RowKit

/-- Symbols from number i on. -/
def getF (T : List (List Nat)) (P bits : List Nat) (n0 : Nat) : Nat → Nat → Nat → List Nat → List Nat × Nat × Nat
  | 0, _, _, _ => ([], 0, 110)
  | k + 1, i, a, out => match nextL (T.getD (P.getD (i / 50) 0) []) (bits.drop a) with
    | .hit x => if x + 1 = n0 then (out ++ [x], a + (T.getD (P.getD (i / 50) 0) []).getD x 0, 0) else getF T P bits n0 k (i + 1) (a + (T.getD (P.getD (i / 50) 0) []).getD x 0) (out ++ [x])
    | .short => ([], 0, 10)
    | .code => ([], 0, 90)
theorem getF_more (T : List (List Nat)) (P bits : List Nat) (n0 k i a : Nat) (out : List Nat) : getF T P bits n0 (k + 1) i a out = match nextL (T.getD (P.getD (i / 50) 0) []) (bits.drop a) with
    | .hit x => if x + 1 = n0 then (out ++ [x], a + (T.getD (P.getD (i / 50) 0) []).getD x 0, 0) else getF T P bits n0 k (i + 1) (a + (T.getD (P.getD (i / 50) 0) []).getD x 0) (out ++ [x])
    | .short => ([], 0, 10)
    | .code => ([], 0, 90) := rfl
/-- What Get answers. -/
def getG (T : List (List Int)) (P : List Int) (bits : List Nat) (at' : Int) : List Nat × Nat × Nat :=
  if MayPlan T P then (if at' < 0 ∨ (bits.length : Int) < at' then ([], 0, 2) else getF (T.map nl) (nl P) bits (T.getD 0 []).length (50 * P.length) 0 at'.toNat []) else ([], 0, 110)

end Go.Proofs.YtmgmgmbpldboiaaGreat
namespace Go.Proofs.YtmgmgmbpldboiaaGreat
open Go.RowKit

end Go.Proofs.YtmgmgmbpldboiaaGreat
namespace Go.Proofs.YtmgmgmbpldboiaaGreat
open Go.RowKit

theorem nextF_short {l bs : List Nat} {q k : Nat} (h : bs.length < q) : nextF l bs (k + 1) q = .short := by
  rw [nextF, if_pos h]
theorem nextF_at {l bs : List Nat} {q k i : Nat} (h : ¬ bs.length < q) (hi : isAt l q (val (bs.take q)) = some i) : nextF l bs (k + 1) q = .hit i := by
  rw [nextF, if_neg h, hi]
theorem nextF_none {l bs : List Nat} {q k : Nat} (h : ¬ bs.length < q) (hi : isAt l q (val (bs.take q)) = none) : nextF l bs (k + 1) q = if val (bs.take q) * pw q < sumP l then nextF l bs k (q + 1) else .code := by
  rw [nextF, if_neg h, hi]

end Go.Proofs.YtmgmgmbpldboiaaGreat
namespace Go.Proofs.YtmgmgmbpldboiaaGreat
open Go.RowKit

end Go.Proofs.YtmgmgmbpldboiaaGreat
