/- Grp Dla: texts laid together, what is not used left out. -/
import Derived.Test.YtmgmgmbpldboiaaGreatZ29
import Derived.Test.YtmgmgmbpldboiaaGreatZ14
import Derived.Test.YtmgmgmbpldboiaaGreatZ28
namespace Go.Proofs.YtmgmgmbpldboiaaGreat
open Go.RowKit

theorem placeL_ones : ∀ (c n T : Nat), n + c < T → placeL (List.replicate c 1) n T = .short
  | 0, _, _, _ => rfl
  | c + 1, n, T, h => by
    rw [List.replicate_succ, placeL, if_neg (by omega), if_neg (by omega)]
    exact placeL_ones c (n + 1) T (by omega)
theorem placeL_many : ∀ (c n T : Nat) (r : List Nat), n + c = T → 0 < c → placeL (List.replicate c 1 ++ r) n T = .bad
  | c + 1, n, T, r, h, _ => by
    rw [List.replicate_succ, List.cons_append, placeL, if_neg (by omega)]
    by_cases e : n + 1 = T
    · rw [if_pos e]
    · rw [if_neg e]
      exact placeL_many c (n + 1) T r (by omega) (by omega)
/-- Tables that are not picked change nothing of what is read. -/
theorem takePicks_behind (bits : List Nat) (T : Nat) (hT : 0 < T) : ∀ (k : Nat) (o r : List Nat) (p : Nat) (out : List Nat), o.length = T → takePicks bits T k (o ++ r) p out = takePicks bits T k o p out
  | 0, _, _, _, _, _ => rfl
  | k + 1, o, r, p, out, ho => by
    cases hp : placeL (bits.drop p) 0 T with
    | hit n =>
      have hn := (hit_lt _ _ _ _ hp hT).2.2
      rw [takePicks_hit hp, takePicks_hit hp, moveF_behind o r n (by omega), takePicks_behind bits T hT k (moveF o n) r _ _ (by rw [moveF_length (by omega), ho])]
      congr 2
      rw [List.getD_eq_getElem?_getD, List.getD_eq_getElem?_getD, List.getElem?_append_left (by omega)]
    | short => rw [takePicks_short hp, takePicks_short hp]
    | bad => rw [takePicks_bad hp, takePicks_bad hp]
set_option maxRecDepth 100000 in
theorem takePicks_six (bits : List Nat) (T : Nat) (hT : 0 < T) (h6 : T ≤ 6) (k p : Nat) (out : List Nat) : takePicks bits T k [0, 1, 2, 3, 4, 5] p out = takePicks bits T k (List.range T) p out := by
  obtain ⟨r, hr⟩ := six_range h6
  rw [hr]
  exact takePicks_behind bits T hT k _ r p out (by simp)

/-- A row that grows, and an order beside it. -/
structure OutRow (w0 w : World) (v : Value) (X : List Nat) (g T : Nat) (f : Nat → Nat) : Prop where
  out : w.ownsRow w0.heap.size 3 1 v X.length (X.map iv)
  ord : FRow w w0.heap.size g T T f
  ne : v.ownBlock ≠ some g
theorem OutRow.step {w0 w w' : World} {v : Value} {X : List Nat} {g T p B : Nat} {f : Nat → Nat} (h : OutRow w0 w v X g T f) {u : TypeId} {ds : Array Value} (hk : Blk w p u ds) (hne : (3 : TypeId) ≠ u) (hs : Step B [p] [] w w') : OutRow w0 w' v X g T f :=
  ⟨hs.row h.out (fun k hk2 => by rw [List.mem_singleton]; exact row_ne h.out hk hne k hk2) List.not_mem_nil, hs.row h.ord (fun k hk2 => by rw [List.mem_singleton]; exact row_ne h.ord hk hne k hk2) List.not_mem_nil, h.ne⟩
set_option maxRecDepth 100000 in
theorem OutRow.push {w0 w : World} {A : Option Addr} {N cap : Nat} {X : List Nat} {g T : Nat} {f : Nat → Nat} (h : OutRow w0 w (.slice A N cap) X g T f) (x : Nat) (hN : X.length = N) (hX : N ≤ 1000000) (hsz : w0.heap.size ≤ w.heap.size) :
    ∃ A2 cap2 w2, (Builtin.append_ #[22, 22] 22 #[.slice A N cap, .slice (some ⟨w.heap.size, 0, none⟩) 1 1]).run Tryz.prog (w.alloc (.cells #[.int .i64 x] 3)) = .ok (.slice A2 (N + 1) cap2) w2 ∧
      OutRow w0 w2 (.slice A2 (N + 1) cap2) (X ++ [x]) g T f ∧ Below w0.heap.size w w2 := by
  obtain ⟨i3, h3, hz0, hz1, hz2⟩ := info_parts Tryz.info3
  subst hN
  obtain ⟨v2, w2, hr, ho, hg, _, hat⟩ := run_append_own_at (P := Tryz.prog) (w.alloc (.cells #[.int .i64 x] 3)) w0.heap.size 22 22 3 i3 (.int .i64 0) 1 8 Tryz.underlying22 h3 hz0 hz1 hz2 rfl (by decide) _ _ _ (h.out.alloc _) ⟨w.heap.size, 0, none⟩ 1 1 [iv x] rfl (cell_one w (iv x) 3)
    (fun u hu => by rw [List.mem_singleton.1 hu]; rfl) (by unfold maxLen; omega) (by omega) (by simp; omega)
  obtain ⟨A2, cap2, rfl, _, _, _⟩ := own_slice ho
  have hlt := World.ownsRow.lt h.ord g rfl
  refine ⟨A2, cap2, w2, hr, ⟨?_, World.ownsRow.kept (World.ownsRow.alloc h.ord _) hg (.inr fun e => h.ne e.symm), ?_⟩, ?_⟩
  · have h2 := ho
    rw [show X.map iv ++ [iv x] = (X ++ [x]).map iv by simp] at h2
    rw [List.length_append]
    exact h2
  · rcases hat with e | e
    · rw [e]
      exact h.ne
    · rw [e]
      intro e2
      have := Option.some.inj e2
      simp at this
      omega
  · exact ((Below.refl _ _).alloc hsz _).grown hg (by simp; omega) (fun k hk => (h.out.lt k hk).1)
/-- What changes nothing of what there was. -/
theorem step_low {B : Nat} {ps : List Nat} {ts : List TypeId} {w wx w2 : World} (h : Step B ps ts w wx) (hb : Below w.heap.size wx w2) (hB : B ≤ w.heap.size) : Step B ps ts w w2 :=
  ⟨h.below.trans (hb.mono hB), fun k cs t fr hk hp ht => (hb.block k (Array.getElem?_eq_some_iff.1 hk).1).trans (h.keep k cs t fr hk hp ht)⟩

def PicksPost (B : Nat) (w : World) (p : Nat) (s : ByteArray) (ans : List Nat × Nat × Nat) (e : Ending) (w' : World) : Prop :=
  ∃ v, e = .returned (.tuple #[v, .int .i64 ans.2.2]) ∧ w'.ownsRow w.heap.size 3 1 v ans.1.length (ans.1.map iv) ∧ (ans.2.2 = 0 → IsR B w' p s ans.2.1) ∧ Step B [p] [] w w'

set_option maxHeartbeats 6400000 in
set_option maxRecDepth 100000 in
theorem ctakepicks_any (B : Nat) (w : World) (p : Nat) (s : ByteArray) (a T K : Nat) (hR : IsR B w p s a) (hs : s.size ≤ 2000000) (ha : a ≤ 8 * s.size) (hT2 : 2 ≤ T) (hT6 : T ≤ 6) (hK : K ≤ 40000) :
    Calls Tryz.prog 51 #[.pointer (some ⟨p, 0, none⟩), .int .i64 T, .int .i64 K] w (PicksPost B w p s (takePicks (bitsB s.data.toList) T K [0, 1, 2, 3, 4, 5] a [])) := by
  rw [takePicks_six _ T (by omega) hT6]
  have hB : B ≤ w.heap.size := Nat.le_trans hR.lo (Nat.le_of_lt (blk_lt hR.blk))
  have hpl := blk_lt hR.blk
  have hbl : (bitsB s.data.toList).length = 8 * s.size := by rw [bitsB_length]; rfl
  have h01 : Bit01 (bitsB s.data.toList) := bit01_bitsB _
  have HUN := Lib.hid fun (wx : World) (n : Nat) (hRx : IsR B wx p s n) (hn : n ≤ 8 * s.size) => show Calls Tryz.prog 88 #[.pointer (some ⟨p, 0, none⟩), .int .i64 (T - 1 : Nat)] wx fun e w' =>
      (∃ c, placeL ((bitsB s.data.toList).drop n) 0 T = .hit c ∧ c < T ∧ e = .returned (.tuple #[.int .i64 c, .int .i64 0]) ∧ IsR B w' p s (n + (c + 1)) ∧ n + (c + 1) ≤ 8 * s.size ∧ Step B [p] [] wx w') ∨
      (placeL ((bitsB s.data.toList).drop n) 0 T = .short ∧ e = .returned (.tuple #[.int .i64 0, .int .i64 10]) ∧ Step B [p] [] wx w') ∨
      (placeL ((bitsB s.data.toList).drop n) 0 T = .bad ∧ e = .returned (.tuple #[.int .i64 0, .int .i64 3]) ∧ Step B [p] [] wx w') from by
    rcases unary_three (T - 1) ((bitsB s.data.toList).drop n) (h01.drop n) with ⟨c, r, hc, hd⟩ | ⟨c, hc, hd⟩ | ⟨r, hd⟩
    · refine (unary_ok B wx p s n c (T - 1) r hRx (by omega) (by omega) hc hd).mono ?_
      rintro e w' ⟨rfl, hR2, hS2⟩
      have hlen := (zero_get hd).2
      rw [hbl] at hlen
      refine .inl ⟨c, ?_, by omega, rfl, hR2, by omega, hS2⟩
      rw [hd, placeL_hit c 0 T r (by omega), Nat.zero_add]
    · refine (unary_short B wx p s n c (T - 1) hRx hn (by omega) (by omega) hc hd).mono ?_
      rintro e w' ⟨rfl, _, hS2⟩
      refine .inr (.inl ⟨?_, rfl, hS2⟩)
      rw [hd]
      exact placeL_ones c 0 T (by omega)
    · refine (unary_big B wx p s n (T - 1) r hRx (by omega) (by omega) hd).mono ?_
      rintro e w' ⟨rfl, _, hS2⟩
      refine .inr (.inr ⟨?_, rfl, hS2⟩)
      rw [hd]
      exact placeL_many (T - 1 + 1) 0 T r (by omega) (by omega)
  obtain ⟨bits, hbits⟩ : ∃ bits, bits = bitsB s.data.toList := ⟨_, rfl⟩
  rw [← hbits] at HUN ⊢
  obtain ⟨ANS, hANS⟩ : ∃ ANS, ANS = takePicks bits T K (List.range T) a [] := ⟨_, rfl⟩
  rw [← hANS]
  have HANS := Lib.hid hANS
  have HOK : Hid (∀ w' v (X : List Nat) (n : Nat), ANS = (X, n, 0) → w'.ownsRow w.heap.size 3 1 v X.length (X.map iv) → IsR B w' p s n → Step B [p] [] w w' → PicksPost B w p s ANS (.returned (.tuple #[v, .int .i64 0])) w') := Lib.hid fun w' v X n h1 h2 h3 h4 => by
    rw [h1]
    exact ⟨v, rfl, h2, fun _ => h3, h4⟩
  have HER : Hid (∀ w' (z : Nat), z ≠ 0 → ANS = ([], 0, z) → Step B [p] [] w w' → PicksPost B w p s ANS (.returned (.tuple #[.slice none 0 0, .int .i64 z])) w') := Lib.hid fun w' z h0 h1 h4 => by
    rw [h1]
    exact ⟨_, rfl, World.ownsRow_nil _ _ _ _, fun h => absurd h h0, h4⟩
  generalize PicksPost B w p s ANS = PO at *
  have HIO := Lib.hid (cinorder_any w T (by omega))
  have HR := Lib.hid hR
  obtain ⟨tm, htm⟩ : ∃ tm, tm = T - 1 := ⟨_, rfl⟩
  rw [← htm] at HUN
  have htmI : (T : Int) - 1 = (tm : Int) := by omega
  clear hR hbl h01 hbits hANS htm
  go_enter Tryz.func51, Tryz.ntmps51
  go_wp2_with fail
  refine HIO.out.mono ?_
  rintro e w1 ⟨rfl, hf1, hb1⟩
  have hR1 := HR.out.step (step_of_below hb1) List.not_mem_nil List.not_mem_nil
  have hS1 : Step B [p] [] w w1 := (step_of_below hb1).mono hB (by simp) (by simp)
  have HO1 : Hid (OutRow w w1 (.slice none 0 0) [] w.heap.size T (fun j => j)) := Lib.hid ⟨World.ownsRow_nil _ _ _ _, hf1, by simp [Value.ownBlock]⟩
  have HR1 := Lib.hid hR1
  have HS1 := Lib.hid hS1
  clear hf1 hb1 hR1 hS1 HIO HR
  go_wp2_with fail
  go_loopw [9, 10, 11, 15] (fun pv s10 s11 iv' wx => ∃ (i : Nat) (f : Nat → Nat) (A9 : Option Addr) (c9 : Nat) (X : List Nat) (n : Nat), i ≤ K ∧ iv' = .int .i64 i ∧ pv = .slice A9 i c9 ∧ OutRow w wx (.slice A9 i c9) X w.heap.size T f ∧ IsR B wx p s n ∧ Hid (X.length = i ∧ n ≤ 8 * s.size ∧ takePicks bits T (K - i) ((List.range T).map f) n X = ANS) ∧ Step B [p] [] w wx) (fun _ _ _ iv' _ => K - (intOf iv').toNat)
  case atStart =>
    refine ⟨0, _, none, 0, [], a, Nat.zero_le _, rfl, rfl, HO1.out, HR1.out, ⟨rfl, ha, ?_⟩, HS1.out⟩
    rw [HANS.out, List.map_id', Nat.sub_zero]
  case round =>
    clear HO1 HR1 HS1
    rename World => wx
    obtain ⟨i, f, A9, c9, X, n, hi, rfl, rfl, hO, hRx, hI, hSx⟩ := hrel
    by_cases e : i < K
    · have di : decide ((i : Int) < (K : Int)) = true := decide_eq_true (by omega)
      have HU := Lib.hid (HUN.out wx n hRx hI.out.2.1)
      have hstep : takePicks bits T (K - (i + 1) + 1) ((List.range T).map f) n X = ANS := by rw [show K - (i + 1) + 1 = K - i by omega]; exact hI.out.2.2
      have HST := Lib.hid hstep
      have HXL := Lib.hid hI.out.1
      have HO := Lib.hid hO
      have HRX := Lib.hid hRx
      have HSX := Lib.hid hSx
      clear hstep hI hO hRx hSx
      go_wp2_with fail
      refine HU.out.mono ?_
      intro e w2 hcases
      rcases hcases with ⟨c, hpl2, hcT, rfl, hR2, hn2, hS2⟩ | ⟨hpl2, rfl, hS2⟩ | ⟨hpl2, rfl, hS2⟩
      · have hO2 := HO.out.step HRX.out.blk (by decide) hS2
        have hS02 := HSX.out.trans hS2
        have HMV := Lib.hid (cmtf_any w.heap.size w2 w.heap.size T T f c hO2.ord hcT (by omega))
        have HOUT2 := Lib.hid hO2.out
        have HNE := Lib.hid hO2.ne
        have HNX : Hid (takePicks bits T (K - (i + 1)) ((List.range T).map (moveR f c)) (n + (c + 1)) (X ++ [f c]) = ANS) := Lib.hid (by
          rw [← HST.out, takePicks_hit hpl2, moveR_list f T c hcT, range_getD T f c hcT]
          rfl)
        have HR2 := Lib.hid hR2
        have HS02 := Lib.hid hS02
        clear hpl2 hR2 hS2 hO2 hS02 HU HST HO HRX HSX
        go_wp2_with fail
        refine HMV.out.mono ?_
        rintro e w3 ⟨rfl, hf3, hs3⟩
        have hr3 := hs3.row HOUT2.out (fun k hk => by
          rw [List.mem_singleton]
          intro e
          exact HNE.out (by rw [hk, e])) List.not_mem_nil
        have hO3 : OutRow w w3 (.slice A9 i c9) X w.heap.size T (moveR f c) := ⟨hr3, hf3, HNE.out⟩
        have hsz3 : w.heap.size ≤ w3.heap.size := Nat.le_trans HS02.out.size hs3.size
        have hc3 : w3.cell? ⟨w.heap.size, 0, none⟩ = some (.int .i64 (f c : Nat)) := by
          have := hf3.cell 0 (by omega)
          rw [this]
          unfold moveR
          rw [if_pos rfl]
        obtain ⟨x, hx⟩ : ∃ x, x = f c := ⟨_, rfl⟩
        rw [← hx] at hc3
        obtain ⟨A4, c4, w4, hr4, hO4, hb4⟩ := hO3.push x HXL.out (by omega) hsz3
        have hbl4 : Below w.heap.size w2 w4 := hs3.below.trans hb4
        have hR4 : IsR B w4 p s (n + (c + 1)) := ⟨HR2.out.lo, (hbl4.block p hpl).trans HR2.out.blk⟩
        have hS4 := step_low HS02.out hbl4 hB
        have HR4 := Lib.hid hr4
        have HO4 := Lib.hid hO4
        have HRD4 := Lib.hid hR4
        have HS4 := Lib.hid hS4
        have HXX := Lib.hid hx
        have hTI : (0 : Int) < (T : Int) := by omega
        have HN2 := Lib.hid hn2
        clear hr3 hO3 hf3 hs3 hx hr4 hO4 hb4 hbl4 hR4 hS4 hn2 HMV HOUT2 HNE HR2 HS02
        go_wp2_with (at_builtin; refine Lib.wpList_append_run _ rfl (.tmp 32) (.tmp 36) 22 22 rfl (.slice A9 i c9) (.slice (some ⟨w3.heap.size, 0, none⟩) 1 1) rfl rfl _ w4 HR4.out ?_)
        go_roundw
        case rel => exact ⟨i + 1, _, A4, c4, _, _, by omega, by go_num, rfl, HO4.out, HRD4.out, ⟨by rw [List.length_append, HXL.out]; rfl, HN2.out, by rw [HXX.out]; exact HNX.out⟩, HS4.out⟩
        case measure => simp [intOf]; omega
      · have hans : ANS = ([], 0, 10) := by rw [← HST.out, takePicks_short hpl2]
        have HE := Lib.hid (HER.out w2 10 (by omega) hans (HSX.out.trans hS2))
        clear hpl2 hS2 hans HU HST HO HRX HSX HUN HOK HER HANS
        go_wp2_with fail
        first | go_ret2 | skip
        exact HE.out
      · have hans : ANS = ([], 0, 110) := by rw [← HST.out, takePicks_bad hpl2]
        have HE := Lib.hid (HER.out w2 110 (by omega) hans (HSX.out.trans hS2))
        clear hpl2 hS2 hans HU HST HO HRX HSX HUN HOK HER HANS
        go_wp2_with fail
        first | go_ret2 | skip
        exact HE.out
    · obtain rfl : i = K := by omega
      have di : decide ((i : Int) < (i : Int)) = false := decide_eq_false (by omega)
      have hans : ANS = (X, n, 0) := by rw [← hI.out.2.2, Nat.sub_self]; rfl
      have hout := hO.out
      rw [hI.out.1] at hout
      have HE := Lib.hid (HOK.out wx (.slice A9 i c9) X n hans (by rw [hI.out.1]; exact hout) hRx hSx)
      clear hans hout hO hRx hI hSx HUN HOK HER HANS
      go_wp2_with fail
      first | go_ret2 | skip
      exact HE.out

end Go.Proofs.YtmgmgmbpldboiaaGreat
namespace Go.Proofs.YtmgmgmbpldboiaaGreat.S10
open Go.RowKit

set_option maxRecDepth 100000 in
theorem enough_any (w : World) (n : Int) : Calls Tryz.prog 111 #[.int .i64 n] w fun e w' => e = .returned (.bool (decide (2 ≤ n ∧ n ≤ 258))) ∧ w = w' := by
  by_cases h1 : 2 ≤ n
  · by_cases h2 : n ≤ 258
    · have d0 : decide ((2 : Int) ≤ n) = true := decide_eq_true h1
      have d1 : decide (n ≤ (258 : Int)) = true := decide_eq_true h2
      have hd : decide (2 ≤ n ∧ n ≤ 258) = true := decide_eq_true ⟨h1, h2⟩
      go_enter Tryz.func111, Tryz.ntmps111
      go_wp2_with fail
      go_ret
      first | exact ⟨rfl, rfl⟩ | (rw [hd]; exact ⟨rfl, rfl⟩)
    · have d0 : decide ((2 : Int) ≤ n) = true := decide_eq_true h1
      have d1 : decide (n ≤ (258 : Int)) = false := decide_eq_false h2
      have hd : decide (2 ≤ n ∧ n ≤ 258) = false := decide_eq_false (by omega)
      go_enter Tryz.func111, Tryz.ntmps111
      go_wp2_with fail
      go_ret
      first | exact ⟨rfl, rfl⟩ | (rw [hd]; exact ⟨rfl, rfl⟩)
  · have d0 : decide ((2 : Int) ≤ n) = false := decide_eq_false h1
    have hd : decide (2 ≤ n ∧ n ≤ 258) = false := decide_eq_false (by omega)
    go_enter Tryz.func111, Tryz.ntmps111
    go_wp2_with fail
    go_ret
    first | exact ⟨rfl, rfl⟩ | (rw [hd]; exact ⟨rfl, rfl⟩)

set_option maxRecDepth 100000 in
theorem wrong_any (w : World) (n : Int) : Calls Tryz.prog 113 #[.int .i64 n] w fun e w' => e = .returned (.bool (decide (n < 1 ∨ 20 < n))) ∧ w = w' := by
  by_cases h1 : n < 1
  · have d0 : decide (n < 1) = true := decide_eq_true h1
    have hd : decide (n < 1 ∨ 20 < n) = true := decide_eq_true (.inl h1)
    go_enter Tryz.func113, Tryz.ntmps113
    go_wp2_with fail
    go_ret
    first | exact ⟨rfl, rfl⟩ | (rw [hd]; exact ⟨rfl, rfl⟩)
  · by_cases h2 : 20 < n
    · have d0 : decide (n < 1) = false := decide_eq_false h1
      have d1 : decide ((20 : Int) < n) = true := decide_eq_true h2
      have hd : decide (n < 1 ∨ 20 < n) = true := decide_eq_true (.inr h2)
      go_enter Tryz.func113, Tryz.ntmps113
      go_wp2_with fail
      go_ret
      first | exact ⟨rfl, rfl⟩ | (rw [hd]; exact ⟨rfl, rfl⟩)
    · have d0 : decide (n < 1) = false := decide_eq_false h1
      have d1 : decide ((20 : Int) < n) = false := decide_eq_false h2
      have hd : decide (n < 1 ∨ 20 < n) = false := decide_eq_false (by omega)
      go_enter Tryz.func113, Tryz.ntmps113
      go_wp2_with fail
      go_ret
      first | exact ⟨rfl, rfl⟩ | (rw [hd]; exact ⟨rfl, rfl⟩)

/-- The function value that ContainsFunc is handed. -/
abbrev wrongV : Value := .func (.func 113) #[] #[]
def BadIn (L : List Int) : Prop := ∃ x ∈ L, x < 1 ∨ 20 < x
instance (L : List Int) : Decidable (BadIn L) := inferInstanceAs (Decidable (∃ x ∈ L, _))

set_option maxHeartbeats 1600000 in
set_option maxRecDepth 100000 in
theorem index_any (w : World) (A : Option Addr) (n c : Nat) (L : List Int) (hz : ZIn w A n L) (hn : n ≤ 1000000) : Calls Tryz.prog 133 #[.slice A n c, wrongV] w fun e w' => ∃ k : Int, e = .returned (.int .i64 k) ∧ (0 ≤ k ↔ BadIn L) ∧ Below w.heap.size w w' := by
  have HL := Lib.hid hz
  have HLM := Lib.hid hz.1
  have HW := Lib.hid wrong_any
  clear hz
  go_enter Tryz.func133, Tryz.ntmps133
  go_wp2_with fail
  go_loopw [5, 8] (fun s5 x wx => ∃ i : Nat, i ≤ n ∧ x = .int .i64 i ∧ Hid (¬ BadIn (L.take i)) ∧ wx = w) (fun _ x _ => n - (intOf x).toNat)
  case atStart =>
    refine ⟨0, Nat.zero_le _, rfl, Lib.hid ?_, rfl⟩
    rintro ⟨x, hx, _⟩
    cases hx
  case round =>
    obtain ⟨i, hi, rfl, hno, rfl⟩ := hrel
    by_cases e : i < n
    · have d0 : decide ((i : Int) < (n : Int)) = true := decide_eq_true (by omega)
      obtain ⟨b, off, rfl, hc⟩ := HL.out.2 (by omega)
      have hcw := hc i e
      have htk := take_next_int L i (by rw [HLM.out]; exact e)
      obtain ⟨x, hx⟩ : ∃ x, x = L.getD i 0 := ⟨_, rfl⟩
      rw [← hx] at hcw htk
      have HTK := Lib.hid htk
      have HX := Lib.hid hx
      clear hc hx htk
      go_wp2_with fail
      refine (HW.out _ x).mono ?_
      rintro e w1 ⟨rfl, rfl⟩
      by_cases hb : x < 1 ∨ 20 < x
      · rw [decide_eq_true hb]
        have HBB := Lib.hid hb
        clear hb
        go_wp2_with fail
        go_ret
        refine ⟨i, rfl, ⟨fun _ => ⟨x, ?_, HBB.out⟩, fun _ => by omega⟩, Below.refl _ _⟩
        rw [HX.out]
        exact int_mem (by rw [HLM.out]; exact e)
      · rw [decide_eq_false hb]
        have HBB := Lib.hid hb
        clear hb
        go_wp2_with fail
        go_roundw
        case rel =>
          refine ⟨i + 1, by omega, by go_num, Lib.hid ?_, trivial⟩
          rw [HTK.out]
          rintro ⟨y, hy, hyb⟩
          rcases List.mem_append.1 hy with hy | hy
          · exact hno.out ⟨y, hy, hyb⟩
          · rw [List.mem_singleton.1 hy] at hyb
            exact HBB.out hyb
        case measure => simp [intOf]; omega
    · obtain rfl : i = n := by omega
      have d0 : decide ((i : Int) < (i : Int)) = false := decide_eq_false (by omega)
      have hall : ¬ BadIn L := by
        have h := hno.out
        rw [List.take_of_length_le (Nat.le_of_eq HLM.out)] at h
        exact h
      have HALL := Lib.hid hall
      clear hall
      go_wp2_with fail
      go_ret
      exact ⟨-1, rfl, ⟨fun h => absurd h (by omega), fun h => absurd h HALL.out⟩, Below.refl _ _⟩

set_option maxHeartbeats 1600000 in
set_option maxRecDepth 100000 in
theorem contains_any (w : World) (A : Option Addr) (n c : Nat) (L : List Int) (hz : ZIn w A n L) (hn : n ≤ 1000000) : Calls Tryz.prog 112 #[.slice A n c, wrongV] w fun e w' => e = .returned (.bool (decide (BadIn L))) ∧ Below w.heap.size w w' := by
  have HI := Lib.hid (index_any w A n c L hz hn)
  clear hz
  go_enter Tryz.func112, Tryz.ntmps112
  go_wp2_with fail
  refine HI.out.mono ?_
  rintro e w1 ⟨k, rfl, hk, hb⟩
  have HB := Lib.hid hb
  by_cases h : BadIn L
  · have d0 : decide ((0 : Int) ≤ k) = true := decide_eq_true (hk.2 h)
    have HD := Lib.hid (decide_eq_true h)
    clear hb hk h
    go_wp2_with fail
    go_ret
    rw [HD.out]
    exact ⟨rfl, HB.out⟩
  · have d0 : decide ((0 : Int) ≤ k) = false := decide_eq_false fun h1 => h (hk.1 h1)
    have HD := Lib.hid (decide_eq_false h)
    clear hb hk h
    go_wp2_with fail
    go_ret
    rw [HD.out]
    exact ⟨rfl, HB.out⟩

theorem two_put (B : Nat) (w : World) (p : Nat) (v : Value) (L : List Nat) (q : Nat) (h : IsW B w p v L) (hL : L.length ≤ 1000000000000) (hq : q < 4) : Calls Tryz.prog 101 #[.pointer (some ⟨p, 0, none⟩), .int .u64 q, .int .i64 2] w fun e w' => e = .returned (.int .i64 0) ∧ ∃ v', IsW B w' p v' (L ++ bitsN q 2) ∧ Below B w w' :=
  (put_ok B w p v L q 2 h hL (by omega) hq).mono fun _ _ ⟨he, v', hW, hs⟩ => ⟨he, v', hW, hs.below⟩
theorem end_put (B : Nat) (w : World) (p : Nat) (v : Value) (L : List Nat) (h : IsW B w p v L) (hL : L.length ≤ 1000000000000) : Calls Tryz.prog 101 #[.pointer (some ⟨p, 0, none⟩), .int .u64 0, .int .i64 1] w fun e w' => e = .returned (.int .i64 0) ∧ ∃ v', IsW B w' p v' (L ++ [0]) ∧ Below B w w' :=
  (put_ok B w p v L 0 1 h hL (by omega) (by decide)).mono fun _ _ ⟨he, v', hW, hs⟩ => ⟨he, v', hW, hs.below⟩

set_option maxHeartbeats 1600000 in
set_option maxRecDepth 100000 in
/-- delta.tell: the steps of one length, behind what the writer holds. -/
theorem tell_any (B : Nat) (w : World) (p : Nat) (v : Value) (L : List Nat) (a x : Nat) (hW : IsW B w p v L) (hL : L.length ≤ 1000000) (ha : a ≤ 20) (hx : x ≤ 20) : Calls Tryz.prog 114 #[.pointer (some ⟨p, 0, none⟩), .int .i64 a, .int .i64 x] w fun e w' => e = .returned (.tuple #[]) ∧ ∃ v', IsW B w' p v' (L ++ stepB a x) ∧ Below B w w' := by
  have HW := Lib.hid hW
  have HUP := Lib.hid fun (w1 : World) (v1 : Value) (j : Nat) (h : IsW B w1 p v1 (L ++ ups j)) (hj : j ≤ 20) => two_put B w1 p v1 _ 2 h (by rw [List.length_append, ups_length]; omega) (by omega)
  have HDN := Lib.hid fun (w1 : World) (v1 : Value) (j : Nat) (h : IsW B w1 p v1 (L ++ ups (x - a) ++ downs j)) (hj : j ≤ 20) => two_put B w1 p v1 _ 3 h (by rw [List.length_append, List.length_append, ups_length, downs_length]; omega) (by omega)
  have HEN := Lib.hid fun (w1 : World) (v1 : Value) (h : IsW B w1 p v1 (L ++ ups (x - a) ++ downs (a - x))) => end_put B w1 p v1 _ h (by rw [List.length_append, List.length_append, ups_length, downs_length]; omega)
  clear hW
  go_enter Tryz.func114, Tryz.ntmps114
  go_wp2_with fail
  go_loopw [1] (fun f wx => ∃ (j : Nat) (v' : Value), j ≤ x - a ∧ f = .int .i64 (a + j : Nat) ∧ IsW B wx p v' (L ++ ups j) ∧ Below B w wx) (fun f _ => x - (intOf f).toNat)
  case atStart => exact ⟨0, v, Nat.zero_le _, rfl, by rw [show L ++ ups 0 = L from List.append_nil L]; exact HW.out, Below.refl _ _⟩
  case round =>
    obtain ⟨j, v1, hj, rfl, hW1, hb1⟩ := hrel
    by_cases e : a + j < x
    · have d0 : decide (((a + j : Nat) : Int) < (x : Int)) = true := decide_eq_true (by omega)
      have HC := Lib.hid (HUP.out wr v1 j hW1 (by omega))
      have HB := Lib.hid hb1
      clear hW1 hb1
      obtain ⟨m, hm⟩ : ∃ m, m = a + j := ⟨_, rfl⟩
      rw [← hm] at d0 e ⊢
      have HM := Lib.hid hm
      clear hm
      go_wp2_with fail
      refine HC.out.mono ?_
      rintro e w2 ⟨rfl, v2, hW2, hb2⟩
      have HW2 := Lib.hid hW2
      have HB2 := Lib.hid (HB.out.trans hb2)
      clear hW2 hb2
      go_wp2_with fail
      go_roundw
      case rel =>
        have := HM.out
        refine ⟨j + 1, v2, by omega, by rw [this]; go_num, ?_, HB2.out⟩
        rw [ups_snoc, ← List.append_assoc]
        exact HW2.out
      case measure => simp [intOf]; omega
    · have d0 : decide (((a + j : Nat) : Int) < (x : Int)) = false := decide_eq_false (by omega)
      obtain rfl : j = x - a := by omega
      obtain ⟨m, hm⟩ : ∃ m, m = a + (x - a) := ⟨_, rfl⟩
      have hmx : m = max a x := by omega
      rw [← hm] at d0 ⊢
      have HMX := Lib.hid hmx
      have HW1 := Lib.hid hW1
      have HB1 := Lib.hid hb1
      have e1 : ¬ m < x := by omega
      clear hm hmx hW1 hb1 hj e
      go_wp2_with fail
      go_loopw [1] (fun f wx => ∃ (j m' : Nat) (v' : Value), j ≤ a - x ∧ m' + j = m ∧ f = .int .i64 (m' : Nat) ∧ IsW B wx p v' (L ++ ups (x - a) ++ downs j) ∧ Below B w wx) (fun f _ => (intOf f).toNat)
      case atStart => exact ⟨0, m, v1, Nat.zero_le _, rfl, rfl, by rw [show L ++ ups (x - a) ++ downs 0 = L ++ ups (x - a) from List.append_nil _]; exact HW1.out, HB1.out⟩
      case round =>
        obtain ⟨j, k, v3, hj, hk, rfl, hW3, hb3⟩ := hrel
        have hmx := HMX.out
        by_cases e2 : x < k
        · have d1 : decide ((x : Int) < (k : Int)) = true := decide_eq_true (by omega)
          have HC := Lib.hid (HDN.out wr v3 j hW3 (by omega))
          have HB := Lib.hid hb3
          have HK := Lib.hid hk
          obtain ⟨q, hq⟩ : ∃ q, q + 1 = k := ⟨k - 1, by omega⟩
          have hq1 : (k : Int) - 1 = (q : Int) := by omega
          have hqb : q ≤ 40 := by omega
          have HQ := Lib.hid hq
          clear hW3 hb3 hk hmx hq
          go_wp2_with fail
          refine HC.out.mono ?_
          rintro e w2 ⟨rfl, v2, hW2, hb2⟩
          have HW2 := Lib.hid hW2
          have HB2 := Lib.hid (HB.out.trans hb2)
          clear hW2 hb2
          go_wp2_with fail
          go_roundw
          case rel =>
            have h1 := HK.out
            have h2 := HMX.out
            have h3 := HQ.out
            refine ⟨j + 1, q, v2, by omega, by omega, by go_num, ?_, HB2.out⟩
            rw [downs_snoc, ← List.append_assoc]
            exact HW2.out
          case measure =>
            have h3 := HQ.out
            simp [intOf]
            omega
        · have d1 : decide ((x : Int) < (k : Int)) = false := decide_eq_false (by omega)
          obtain rfl : j = a - x := by omega
          have HC := Lib.hid (HEN.out wr v3 hW3)
          have HB := Lib.hid hb3
          clear hW3 hb3 hk hmx hj
          go_wp2_with fail
          refine HC.out.mono ?_
          rintro e w2 ⟨rfl, v2, hW2, hb2⟩
          have HW2 := Lib.hid hW2
          have HB2 := Lib.hid (HB.out.trans hb2)
          clear hW2 hb2
          go_wp2_with fail
          try simp only [Exit.inBlock, Exit.then]
          go_end0
          refine ⟨rfl, v2, ?_, HB2.out⟩
          rw [show stepB a x = ups (x - a) ++ downs (a - x) ++ [0] from rfl, ← List.append_assoc, ← List.append_assoc]
          exact HW2.out

end Go.Proofs.YtmgmgmbpldboiaaGreat.S10
