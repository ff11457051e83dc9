/- Grc: texts laid together, what is not used left out. -/
import Derived.Test.YtmgmgmbpldboiaaZ18
import Derived.Test.YtmgmgmbpldboiaaZ05
namespace Go.Proofs.Ytmgmgmbpldboiaa
open Go.RowKit

/-- Symbols were counted into a row. -/
def AddPost (B : Nat) (w : World) (g c n : Nat) (f : Nat → Nat) (L : List Nat) (e : Ending) (w' : World) : Prop := e = .returned (.tuple #[]) ∧ FRow w' B g c n (fun s => f s + L.count s) ∧ Step B [g] [] w w'
set_option maxRecDepth 100000 in
theorem count_next (L : List Nat) (i _ : Nat) (h : i < L.length) (s : Nat) : (L.take (i + 1)).count s = (L.take i).count s + if L.getD i 0 = s then 1 else 0 := by
  have e : L.take (i + 1) = L.take i ++ [L.getD i 0] := by
    rw [List.take_succ_eq_append_getElem h, List.getD_eq_getElem?_getD, List.getElem?_eq_getElem h]
    rfl
  rw [e, List.count_append, List.count_singleton]
  simp only [beq_iff_eq]

set_option maxHeartbeats 1600000 in
set_option maxRecDepth 100000 in
theorem cadd_any (B : Nat) (w : World) (g c n : Nat) (f : Nat → Nat) (hf : FRow w B g c n f) (A : Option Addr) (m d : Nat) (L : List Nat) (hL : IntsIn w A m L) (hA : ∀ a, A = some a → a.block ≠ g) (hm : m ≤ 4000000)
    (hLn : ∀ x ∈ L, x < n) (hfb : ∀ s, s < n → f s ≤ 4000000) :
    Calls Try.prog 33 #[.slice (some ⟨g, 0, none⟩) n c, .slice A m d] w (AddPost B w g c n f L) := by
  have hBg := hf.lt.1
  have hlm := hL.1
  have HF := Lib.hid hf
  have HL := Lib.hid hL
  have HLN := Lib.hid hLn
  have HLM := Lib.hid hlm
  have HFB := Lib.hid hfb
  have HA := Lib.hid hA
  clear hf hL hLn hlm hfb hA
  go_enter Try.func33, Try.ntmps33
  go_wp2_with fail
  go_loopw [5, 8] (fun s5 iv' wx => ∃ i : Nat, i ≤ m ∧ iv' = .int .i64 i ∧ FRow wx B g c n (fun s => f s + (L.take i).count s) ∧ Step B [g] [] w wx) (fun _ iv' _ => m - (intOf iv').toNat)
  case atStart =>
    refine ⟨0, Nat.zero_le _, rfl, ?_, Step.refl _ _ _ _⟩
    have e : (fun s => f s + (L.take 0).count s) = f := by
      funext s
      simp
    rw [e]
    exact HF.out
  case round =>
    clear HF
    obtain ⟨i, hi, rfl, hf, hb⟩ := hrel
    by_cases e : i < m
    · have di : decide ((i : Int) < (m : Int)) = true := decide_eq_true (by omega)
      have hiI : (0 : Int) ≤ (i : Int) := by omega
      have him : (i : Int) < (m : Int) := by omega
      obtain ⟨lb, lo, rfl, hlc⟩ := HL.out.2 (by omega)
      have hne : lb ≠ g := HA.out _ rfl
      have hcell := hlc i e
      have hcn := count_next L i 0 (by rw [HLM.out]; exact e)
      have hxn : L.getD i 0 < n := HLN.out _ (by
        rw [List.getD_eq_getElem?_getD, List.getElem?_eq_getElem (by rw [HLM.out]; exact e)]
        exact List.getElem_mem _)
      have c2 : wr.cell? ⟨lb, lo + i, none⟩ = some (.int .i64 (L.getD i 0 : Nat)) := by
        unfold World.cell? at hcell ⊢
        revert hcell
        cases hw : w.heap[lb]? with
        | none => simp
        | some o =>
          intro hcell
          cases o with
          | cells cs t fr => rw [show wr.heap[lb]? = some (.cells cs t fr) from hb.keep lb cs t fr hw (by simp; exact hne) List.not_mem_nil]; exact hcell
          | _ => simp at hcell
      have hcb : (L.take i).count (L.getD i 0) ≤ i := Nat.le_trans List.count_le_length (by rw [List.length_take]; omega)
      obtain ⟨x, hx⟩ : ∃ x, x = L.getD i 0 := ⟨_, rfl⟩
      rw [← hx] at c2 hcn hxn hcb
      have c3 := hf.cell x hxn
      have f3 := hf.frozen x
      have hfx := HFB.out x hxn
      obtain ⟨v, hv⟩ : ∃ v, v = f x + (L.take i).count x := ⟨_, rfl⟩
      have hvb : v ≤ 8000000 := by omega
      rw [← hv] at c3
      obtain ⟨v1, hv1⟩ : ∃ v1, v1 = v + 1 := ⟨_, rfl⟩
      have hvz : (v : Int) + 1 = (v1 : Int) := by omega
      have hs := hf.set x v1
      have hfn : (fun s => if s = x then v1 else f s + (L.take i).count s) = fun s => f s + (L.take (i + 1)).count s := by
        funext s
        rw [hcn s]
        by_cases es : s = x
        · rw [if_pos es, if_pos es.symm, es, hv1, hv]
          omega
        · rw [if_neg es, if_neg (fun h => es h.symm), Nat.add_zero]
      rw [hfn] at hs
      have HS := Lib.hid hs
      have HBS := Lib.hid (hb.set (p := ⟨g, x, none⟩) hBg (List.mem_singleton.2 rfl) (.int .i64 (v1 : Nat)))
      have hxI : (0 : Int) ≤ (x : Int) := by omega
      have hxnI : (x : Int) < (n : Int) := by omega
      clear hf hb hlc hcell hcn hx hv hv1 hs hfn hcb hfx
      go_wp2_with fail
      go_roundw
      case rel => exact ⟨i + 1, by omega, by go_num, HS.out, HBS.out⟩
      case measure => simp [intOf]; omega
    · obtain rfl : i = m := by omega
      have di : decide ((i : Int) < (i : Int)) = false := decide_eq_false (by omega)
      rw [List.take_of_length_le (Nat.le_of_eq HLM.out)] at hf
      have HP : Hid (AddPost B w g c n f L (.returned (.tuple #[])) wr) := Lib.hid ⟨rfl, hf, hb⟩
      clear hf hb
      generalize AddPost B w g c n f L = PO at *
      go_wp2_with fail
      (try simp only [Exit.inBlock, Exit.then])
      refine bodyPost_ret (results_none rfl _ _ _) rfl ?_
      exact HP.out

/-- A table that may not stand beside the first one. -/
def BadT (n0 : Nat) (t : List Int) : Prop := ¬ (t.length = n0 ∧ LenOk t)
instance (n0 : Nat) (t : List Int) : Decidable (BadT n0 t) := inferInstanceAs (Decidable (¬ (_ ∧ _)))

/-- The function value that ContainsFunc is handed. -/
abbrev wrongT (bx : Nat) : Value := .func (.func 68) #[] #[.pointer (some ⟨bx, 0, none⟩)]

set_option maxHeartbeats 1600000 in
set_option maxRecDepth 100000 in
theorem wrongT_any (w : World) (bx : Nat) (At : Option Addr) (q d : Nat) (T : List (List Int)) (hb : Blk w bx 29 #[.slice At q d]) (hT : TabZ w At q T) (hq : 0 < q) (_ : q ≤ d) (_ : q ≤ maxLen)
    (A : Option Addr) (n c : Nat) (L : List Int) (hL : ZIn w A n L) (hn : n ≤ maxLen) :
    Calls Try.prog 68 #[.slice A n c, .pointer (some ⟨bx, 0, none⟩)] w fun e w' => e = .returned (.bool (decide (BadT (T.getD 0 []).length L))) ∧ w' = w := by
  obtain ⟨tb, tq, rfl, htc⟩ := hT.2 hq
  obtain ⟨A2, c2, h1, _, _, hm⟩ := htc 0 hq
  rw [Nat.add_zero] at h1
  have hbl := blk_cell hb 0
  have hln := hL.1
  have HC := Lib.hid (ccheck_any w A n c L hL hn)
  have hqI : (0 : Int) < (q : Int) := by omega
  obtain ⟨m, hmm⟩ : ∃ m, m = (T.getD 0 []).length := ⟨_, rfl⟩
  rw [← hmm] at h1 hm ⊢
  have q0 : w.cell? ⟨bx, 0, none⟩ = some (.slice (some ⟨tb, tq, none⟩) q d) := hbl.trans rfl
  obtain ⟨ans, hans⟩ : ∃ ans, ans = decide (BadT m L) := ⟨_, rfl⟩
  rw [← hans]
  unfold maxLen at hm hn
  by_cases e : n = m
  · by_cases e2 : LenOk L
    · rw [if_pos e2] at HC
      have ha : ans = false := by rw [hans]; exact decide_eq_false fun h => h ⟨hln.trans e, e2⟩
      have dd : ((n : Int) != (m : Int)) = false := by rw [e]; exact bne_self_eq_false _
      have dn : (n : Int) = (m : Int) := by rw [e]
      subst ha
      clear hL hT htc hb hbl hans hmm e e2 hln
      go_enter Try.func68, Try.ntmps68
      go_wp2_with fail
      refine HC.out.mono ?_
      rintro e w1 ⟨rfl, rfl⟩
      go_wp2_with fail
      go_ret
      exact ⟨rfl, rfl⟩
    · rw [if_neg e2] at HC
      have ha : ans = true := by rw [hans]; exact decide_eq_true fun h => e2 h.2
      have dd : ((n : Int) != (m : Int)) = false := by rw [e]; exact bne_self_eq_false _
      have dn : (n : Int) = (m : Int) := by rw [e]
      subst ha
      clear hL hT htc hb hbl hans hmm e e2 hln
      go_enter Try.func68, Try.ntmps68
      go_wp2_with fail
      refine HC.out.mono ?_
      rintro e w1 ⟨rfl, rfl⟩
      go_wp2_with fail
      go_ret
      exact ⟨rfl, rfl⟩
  · have ha : ans = true := by rw [hans]; exact decide_eq_true fun h => e (hln.symm.trans h.1)
    have dd : ((n : Int) != (m : Int)) = true := by rw [bne_iff_ne]; omega
    have dn : ¬ (n : Int) = (m : Int) := by omega
    subst ha
    clear hL hT htc hb hbl hans hmm hln HC
    go_enter Try.func68, Try.ntmps68
    go_wp2_with fail
    go_ret
    exact ⟨rfl, rfl⟩

theorem tab_next (T : List (List Int)) (i : Nat) (h : i < T.length) : T.take (i + 1) = T.take i ++ [T.getD i []] := by
  rw [List.take_succ_eq_append_getElem h, List.getD_eq_getElem?_getD, List.getElem?_eq_getElem h]
  rfl
theorem tab_mem (T : List (List Int)) (i : Nat) (h : i < T.length) : T.getD i [] ∈ T := by
  rw [List.getD_eq_getElem?_getD, List.getElem?_eq_getElem h]
  exact List.getElem_mem _

set_option maxHeartbeats 1600000 in
set_option maxRecDepth 100000 in
theorem cindexT_any (w : World) (bx : Nat) (At : Option Addr) (q d : Nat) (T : List (List Int)) (hb : Blk w bx 29 #[.slice At q d]) (hT : TabZ w At q T) (hq : 0 < q) (hqd : q ≤ d) (hq2 : q ≤ 1000000) :
    Calls Try.prog 85 #[.slice At q d, wrongT bx] w fun e w' => ∃ k : Int, e = .returned (.int .i64 k) ∧ (0 ≤ k ↔ ∃ t ∈ T, BadT (T.getD 0 []).length t) ∧ w' = w := by
  have hlT := hT.1
  have HW := Lib.hid fun (A : Option Addr) (n c : Nat) (L : List Int) (hL : ZIn w A n L) (hn : n ≤ maxLen) => wrongT_any w bx At q d T hb hT hq hqd (by unfold maxLen; omega) A n c L hL hn
  obtain ⟨n0, hn0⟩ : ∃ n0, n0 = (T.getD 0 []).length := ⟨_, rfl⟩
  rw [← hn0] at HW ⊢
  obtain ⟨tb, tq, rfl, htc⟩ := hT.2 hq
  have HTC := Lib.hid htc
  have HLT := Lib.hid hlT
  clear hT hb htc hlT hn0
  go_enter Try.func85, Try.ntmps85
  go_wp2_with fail
  go_loopw [5, 8] (fun s5 x wx => ∃ i : Nat, i ≤ q ∧ x = .int .i64 i ∧ Hid (¬ ∃ t ∈ T.take i, BadT n0 t) ∧ wx = w) (fun _ x _ => q - (intOf x).toNat)
  case atStart =>
    refine ⟨0, Nat.zero_le _, rfl, Lib.hid ?_, rfl⟩
    rintro ⟨x, hx, _⟩
    cases hx
  case round =>
    obtain ⟨i, hi, rfl, hno, rfl⟩ := hrel
    by_cases e : i < q
    · have d0 : decide ((i : Int) < (q : Int)) = true := decide_eq_true (by omega)
      have hiI : (0 : Int) ≤ (i : Int) := by omega
      have hiq : (i : Int) < (q : Int) := by omega
      obtain ⟨A2, c2, h1, h2, _, hm⟩ := HTC.out i e
      have HCW := Lib.hid (HW.out A2 (T.getD i []).length c2 (T.getD i []) h2 hm)
      have HTK := Lib.hid (tab_next T i (by rw [HLT.out]; exact e))
      have HMEM := Lib.hid (tab_mem T i (by rw [HLT.out]; exact e))
      obtain ⟨t, ht⟩ : ∃ t, t = T.getD i [] := ⟨_, rfl⟩
      rw [← ht] at h1 hm HCW HTK HMEM
      obtain ⟨m, hmm⟩ : ∃ m, m = t.length := ⟨_, rfl⟩
      rw [← hmm] at h1 hm HCW
      clear h2 ht hmm
      by_cases hb : BadT n0 t
      · rw [decide_eq_true hb] at HCW
        have HBB := Lib.hid hb
        clear hb
        go_wp2_with fail
        refine HCW.out.mono ?_
        rintro e w1 ⟨rfl, rfl⟩
        go_wp2_with fail
        go_ret
        exact ⟨i, rfl, ⟨fun _ => ⟨t, HMEM.out, HBB.out⟩, fun _ => by omega⟩, rfl⟩
      · rw [decide_eq_false hb] at HCW
        have HBB := Lib.hid hb
        clear hb
        go_wp2_with fail
        refine HCW.out.mono ?_
        rintro e w1 ⟨rfl, rfl⟩
        go_wp2_with fail
        go_roundw
        case rel =>
          refine ⟨i + 1, by omega, by go_num, Lib.hid ?_, trivial⟩
          rw [HTK.out]
          rintro ⟨y, hy, hyb⟩
          rcases List.mem_append.1 hy with hy | hy
          · exact hno.out ⟨y, hy, hyb⟩
          · rw [List.mem_singleton.1 hy] at hyb
            exact HBB.out hyb
        case measure => simp [intOf]; omega
    · obtain rfl : i = q := by omega
      have d0 : decide ((i : Int) < (i : Int)) = false := decide_eq_false (by omega)
      have hall := hno.out
      rw [List.take_of_length_le (Nat.le_of_eq HLT.out)] at hall
      have HALL := Lib.hid hall
      clear hall
      go_wp2_with fail
      go_ret
      exact ⟨-1, rfl, ⟨fun h => absurd h (by omega), fun h => absurd h HALL.out⟩, rfl⟩

set_option maxHeartbeats 1600000 in
set_option maxRecDepth 100000 in
theorem ccontainsT_any (w : World) (bx : Nat) (At : Option Addr) (q d : Nat) (T : List (List Int)) (hb : Blk w bx 29 #[.slice At q d]) (hT : TabZ w At q T) (hq : 0 < q) (hqd : q ≤ d) (hq2 : q ≤ 1000000) :
    Calls Try.prog 70 #[.slice At q d, wrongT bx] w fun e w' => e = .returned (.bool (decide (∃ t ∈ T, BadT (T.getD 0 []).length t))) ∧ w' = w := by
  have HI := Lib.hid (cindexT_any w bx At q d T hb hT hq hqd hq2)
  clear hb hT
  go_enter Try.func70, Try.ntmps70
  go_wp2_with fail
  refine HI.out.mono ?_
  rintro e w1 ⟨k, rfl, hk, rfl⟩
  by_cases h : ∃ t ∈ T, BadT (T.getD 0 []).length t
  · have d0 : decide ((0 : Int) ≤ k) = true := decide_eq_true (hk.2 h)
    have HD := Lib.hid (decide_eq_true h)
    clear hk h
    go_wp2_with fail
    go_ret
    rw [HD.out]
    exact ⟨rfl, rfl⟩
  · have d0 : decide ((0 : Int) ≤ k) = false := decide_eq_false fun h1 => h (hk.1 h1)
    have HD := Lib.hid (decide_eq_false h)
    clear hk h
    go_wp2_with fail
    go_ret
    rw [HD.out]
    exact ⟨rfl, rfl⟩

/-- Tables that may be. -/
def TabOk (T : List (List Int)) : Prop := 2 ≤ T.length ∧ T.length ≤ 6 ∧ 3 ≤ (T.getD 0 []).length ∧ ∀ t ∈ T, t.length = (T.getD 0 []).length ∧ LenOk t
instance (T : List (List Int)) : Decidable (TabOk T) := inferInstanceAs (Decidable (_ ∧ _))

set_option maxHeartbeats 1600000 in
set_option maxRecDepth 100000 in
theorem ctablesMay_any (w : World) (At : Option Addr) (q d : Nat) (T : List (List Int)) (hT : TabZ w At q T) (hqd : q ≤ d) (hq2 : q ≤ maxLen) :
    Calls Try.prog 38 #[.slice At q d] w fun e w' => e = .returned (.bool (decide (TabOk T))) ∧ Below w.heap.size w w' := by
  have hlT := hT.1
  obtain ⟨ans, hans⟩ : ∃ ans, ans = decide (TabOk T) := ⟨_, rfl⟩
  rw [← hans]
  have hb1 : Below w.heap.size w (w.alloc (.cells #[.slice At q d] 29)) := (Below.refl _ _).alloc (Nat.le_refl _) _
  have hk1 : Blk (w.alloc (.cells #[.slice At q d] 29)) w.heap.size 29 #[.slice At q d] := blk_new w _ _
  have hT1 := hT.below hb1
  unfold maxLen at hq2
  by_cases h1 : q < 2
  · have d1 : decide ((q : Int) < 2) = true := decide_eq_true (by omega)
    have ha : ans = false := by rw [hans]; exact decide_eq_false fun h => by have := h.1; omega
    subst ha
    have HB := Lib.hid hb1
    clear hans hT hT1 hb1 hk1 hlT
    go_enter Try.func38, Try.ntmps38
    go_wp2_with fail
    go_ret
    exact ⟨rfl, HB.out⟩
  · have d1 : decide ((q : Int) < 2) = false := decide_eq_false (by omega)
    by_cases h2 : 6 < q
    · have d2 : decide ((6 : Int) < (q : Int)) = true := decide_eq_true (by omega)
      have ha : ans = false := by rw [hans]; exact decide_eq_false fun h => by have := h.2.1; omega
      subst ha
      have HB := Lib.hid hb1
      clear hans hT hT1 hb1 hk1 hlT
      go_enter Try.func38, Try.ntmps38
      go_wp2_with fail
      go_ret
      exact ⟨rfl, HB.out⟩
    · have d2 : decide ((6 : Int) < (q : Int)) = false := decide_eq_false (by omega)
      obtain ⟨tb, tq, rfl, htc⟩ := hT1.2 (by omega)
      obtain ⟨A2, c2, h3, _, _, hm⟩ := htc 0 (by omega)
      rw [Nat.add_zero] at h3
      have HE := Lib.hid (genough_any (w.alloc (.cells #[.slice (some ⟨tb, tq, none⟩) q d] 29)) ((T.getD 0 []).length : Nat))
      have HC := Lib.hid (ccontainsT_any _ w.heap.size _ q d T hk1 hT1 (by omega) hqd (by omega))
      have q0 : (w.alloc (.cells #[.slice (some ⟨tb, tq, none⟩) q d] 29)).cell? ⟨w.heap.size, 0, none⟩ = some (.slice (some ⟨tb, tq, none⟩) q d) := (blk_cell hk1 0).trans rfl
      have hqI : (0 : Int) < (q : Int) := by omega
      obtain ⟨m, hmm⟩ : ∃ m, m = (T.getD 0 []).length := ⟨_, rfl⟩
      have HMM := Lib.hid hmm
      have HANS := Lib.hid hans
      have HQ := Lib.hid (show 2 ≤ T.length ∧ T.length ≤ 6 by omega)
      have HMEM := Lib.hid (tab_mem T 0 (by omega))
      rw [← hmm] at h3 hm HE
      have HB := Lib.hid hb1
      clear hans hT hT1 hb1 hk1 hlT htc hmm
      unfold maxLen at hm
      by_cases h4 : 3 ≤ (m : Int) ∧ (m : Int) ≤ 258
      · rw [decide_eq_true h4] at HE
        by_cases h5 : ∃ t ∈ T, BadT (T.getD 0 []).length t
        · rw [decide_eq_true h5] at HC
          have ha : ans = false := by
            rw [HANS.out]
            refine decide_eq_false fun h => ?_
            obtain ⟨t, ht, hb⟩ := h5
            exact hb (h.2.2.2 t ht)
          subst ha
          clear h5 HANS h4
          go_enter Try.func38, Try.ntmps38
          go_upto_region 1 with fail
          generalize w.alloc (.cells #[.slice (some ⟨tb, tq, none⟩) q d] 29) = w1 at *
          go_wp2_with fail
          refine HE.out.mono ?_
          rintro e w2 ⟨rfl, rfl⟩
          go_wp2_with fail
          refine HC.out.mono ?_
          rintro e w2 ⟨rfl, rfl⟩
          go_wp2_with fail
          go_ret
          exact ⟨rfl, HB.out⟩
        · rw [decide_eq_false h5] at HC
          have ha : ans = true := by
            rw [HANS.out]
            refine decide_eq_true ⟨HQ.out.1, HQ.out.2, by rw [← HMM.out]; omega, fun t ht => ?_⟩
            refine Decidable.by_contra fun hb => h5 ⟨t, ht, hb⟩
          subst ha
          clear h5 HANS h4
          go_enter Try.func38, Try.ntmps38
          go_upto_region 1 with fail
          generalize w.alloc (.cells #[.slice (some ⟨tb, tq, none⟩) q d] 29) = w1 at *
          go_wp2_with fail
          refine HE.out.mono ?_
          rintro e w2 ⟨rfl, rfl⟩
          go_wp2_with fail
          refine HC.out.mono ?_
          rintro e w2 ⟨rfl, rfl⟩
          go_wp2_with fail
          go_ret
          exact ⟨rfl, HB.out⟩
      · rw [decide_eq_false h4] at HE
        have ha : ans = false := by
          rw [HANS.out]
          refine decide_eq_false fun h => h4 ⟨?_, ?_⟩
          · have := h.2.2.1
            rw [← HMM.out] at this
            omega
          · have := (h.2.2.2 _ HMEM.out).2.2.1
            rw [← HMM.out] at this
            omega
        subst ha
        clear HANS h4 HC
        go_enter Try.func38, Try.ntmps38
        go_upto_region 1 with fail
        generalize w.alloc (.cells #[.slice (some ⟨tb, tq, none⟩) q d] 29) = w1 at *
        go_wp2_with fail
        refine HE.out.mono ?_
        rintro e w2 ⟨rfl, rfl⟩
        go_wp2_with fail
        go_ret
        exact ⟨rfl, HB.out⟩

end Go.Proofs.Ytmgmgmbpldboiaa
