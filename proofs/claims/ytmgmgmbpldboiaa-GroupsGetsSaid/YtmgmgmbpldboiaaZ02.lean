/- Ub Oa Ob: texts laid together, what is not used left out. -/
import Derived.Test.YtmgmgmbpldboiaaZ00
import Derived.Test.YtmgmgmbpldboiaaZ01
import Derived.Lib.AppendZeros
namespace Go.Proofs.Ytmgmgmbpldboiaa
open Go.RowKit

/-- How many tables so many symbols have. -/
def tablesN (m : Int) : Nat := if 2400 ≤ m then 6 else if 1200 ≤ m then 5 else if 600 ≤ m then 4 else if 200 ≤ m then 3 else 2
def tablesAns (m : Int) : Nat × Nat := if m < 1 then (0, 2) else (tablesN m, 0)
set_option maxRecDepth 100000 in
theorem rtables_any (w : World) (m : Int) : Calls Try.prog 7 #[.int .i64 m] w fun e w' => e = .returned (.tuple #[.int .i64 (tablesAns m).1, .int .i64 (tablesAns m).2]) ∧ w' = w := by
  by_cases h0 : m < 1
  · have e : tablesAns m = (0, 2) := if_pos h0
    rw [e]
    have d0 : decide (m < 1) = true := decide_eq_true h0
    go_enter Try.func7, Try.ntmps7
    go_wp2_with fail
    go_ret2
    exact ⟨rfl, rfl⟩
  · have d0 : decide (m < 1) = false := decide_eq_false h0
    have e : tablesAns m = (tablesN m, 0) := if_neg h0
    rw [e]
    by_cases h1 : 2400 ≤ m
    · have d1 : decide ((2400 : Int) ≤ m) = true := decide_eq_true h1
      rw [show tablesN m = 6 from if_pos h1]
      go_enter Try.func7, Try.ntmps7
      go_wp2_with fail
      go_ret2
      exact ⟨rfl, rfl⟩
    · have d1 : decide ((2400 : Int) ≤ m) = false := decide_eq_false h1
      by_cases h2 : 1200 ≤ m
      · have d2 : decide ((1200 : Int) ≤ m) = true := decide_eq_true h2
        rw [show tablesN m = 5 by unfold tablesN; rw [if_neg h1, if_pos h2]]
        go_enter Try.func7, Try.ntmps7
        go_wp2_with fail
        go_ret2
        exact ⟨rfl, rfl⟩
      · have d2 : decide ((1200 : Int) ≤ m) = false := decide_eq_false h2
        by_cases h3 : 600 ≤ m
        · have d3 : decide ((600 : Int) ≤ m) = true := decide_eq_true h3
          rw [show tablesN m = 4 by unfold tablesN; rw [if_neg h1, if_neg h2, if_pos h3]]
          go_enter Try.func7, Try.ntmps7
          go_wp2_with fail
          go_ret2
          exact ⟨rfl, rfl⟩
        · have d3 : decide ((600 : Int) ≤ m) = false := decide_eq_false h3
          by_cases h4 : 200 ≤ m
          · have d4 : decide ((200 : Int) ≤ m) = true := decide_eq_true h4
            rw [show tablesN m = 3 by unfold tablesN; rw [if_neg h1, if_neg h2, if_neg h3, if_pos h4]]
            go_enter Try.func7, Try.ntmps7
            go_wp2_with fail
            go_ret2
            exact ⟨rfl, rfl⟩
          · have d4 : decide ((200 : Int) ≤ m) = false := decide_eq_false h4
            rw [show tablesN m = 2 by unfold tablesN; rw [if_neg h1, if_neg h2, if_neg h3, if_neg h4]]
            go_enter Try.func7, Try.ntmps7
            go_wp2_with fail
            go_ret2
            exact ⟨rfl, rfl⟩

/-- How many groups so many symbols have. -/
def groupsN (m : Nat) : Nat := (m + 49) / 50
theorem drop_one {L : List Nat} {p : Nat} (h : p < L.length) : L.take (p + 1) = L.take p ++ [L.getD p 0] := by
  rw [List.take_succ_eq_append_getElem h, List.getD_eq_getElem?_getD, List.getElem?_eq_getElem h]
  rfl
/-- What of the first ones is not at place k. -/
def besides (L : List Nat) (k i : Nat) : List Nat := L.getD k 0 :: if i ≤ k then L.take i else L.take k ++ (L.take i).drop (k + 1)
theorem besides_skip {L : List Nat} {k : Nat} (hk : k < L.length) : besides L k (k + 1) = besides L k k := by
  unfold besides
  rw [if_neg (by omega), if_pos (Nat.le_refl _), List.drop_of_length_le (by rw [List.length_take]; omega), List.append_nil]
set_option maxRecDepth 100000 in
theorem besides_next {L : List Nat} {k i : Nat} (hi : i < L.length) (h : i ≠ k) : besides L k (i + 1) = besides L k i ++ [L.getD i 0] := by
  unfold besides
  by_cases e : i + 1 ≤ k
  · rw [if_pos e, if_pos (by omega), drop_one hi]
    rfl
  · rw [if_neg e, if_neg (by omega), drop_one hi, List.drop_append_of_le_length (by rw [List.length_take]; omega)]
    simp
theorem besides_all {L : List Nat} {k : Nat} (hk : k < L.length) : besides L k L.length = moveF L k := by
  unfold besides moveF
  rw [if_neg (by omega), List.take_length]
set_option maxHeartbeats 1600000 in
set_option maxRecDepth 100000 in
theorem rturned_any (w : World) (A : Option Addr) (n c : Nat) (L : List Nat) (k : Nat) (hL : IntsIn w A n L) (hn : n ≤ 1000000) (hk : k < n) : Calls Try.prog 54 #[.slice A n c, .int .i64 k] w fun e w' => ∃ v, e = .returned v ∧ w'.ownsRow w.heap.size 3 1 v n ((moveF L k).map iv) ∧ Below w.heap.size w w' := by
  obtain ⟨i3, h3, hz0, hz1, hz2⟩ := info_parts Try.info3
  have hlm := hL.1
  obtain ⟨b, off, rfl, hc⟩ := hL.2 (by omega)
  have c0 := hc k hk
  have hlt := World.block_lt_of_cell? w _ c0
  have HC := Lib.hid hc
  have HLM := Lib.hid hlm
  obtain ⟨x, hx⟩ : ∃ x, x = L.getD k 0 := ⟨_, rfl⟩
  rw [← hx] at c0
  have HX := Lib.hid hx
  have hown0 : (w.alloc (.cells #[.int .i64 x] 3)).ownsRow w.heap.size 3 1 (.slice (some ⟨w.heap.size, 0, none⟩) 1 1) 1 ([x].map iv) := ⟨rfl, .inr ⟨w.heap.size, 1, #[.int .i64 x], rfl, Nat.le_refl _, heap_alloc_new w _, Nat.le_refl _, by unfold maxLen; omega, rfl, rfl⟩⟩
  have HO0 := Lib.hid hown0
  clear hL hlm hc hx hown0
  go_enter Try.func54, Try.ntmps54
  go_wp2_with fail
  clear c0
  go_loopw [5, 6] (fun out iv' wx => ∃ (i : Nat) (o : List Nat), i ≤ n ∧ iv' = .int .i64 i ∧ o.length ≤ i + 1 ∧ Hid (o = besides L k i) ∧ wx.ownsRow w.heap.size 3 1 out o.length (o.map iv) ∧ Below w.heap.size w wx) (fun _ iv' _ => n - (intOf iv').toNat)
  case atStart => exact ⟨0, [x], Nat.zero_le _, rfl, Nat.le_refl _, Lib.hid (by unfold besides; rw [if_pos (Nat.zero_le _), HX.out]; rfl), HO0.out, (Below.refl _ _).alloc (Nat.le_refl _) _⟩
  case round =>
    obtain ⟨i, o, hi, rfl, hol, ho, hown, hb⟩ := hrel
    have HO := Lib.hid hown
    have HB := Lib.hid hb
    have hz9 := hb.size
    obtain ⟨A0, c0', rfl, hn0, hm0, _⟩ := own_slice hown
    unfold maxLen at hm0
    clear hown hb
    by_cases e : i < n
    · have d0 : decide ((i : Int) < (n : Int)) = true := decide_eq_true (by omega)
      have q1 := (HB.out.cell (p := ⟨b, off + i, none⟩) hlt).trans (HC.out i e)
      obtain ⟨y, hy⟩ : ∃ y, y = L.getD i 0 := ⟨_, rfl⟩
      rw [← hy] at q1
      by_cases ek : i = k
      · have d1 : ((i : Int) != (k : Int)) = false := by rw [ek]; simp
        have hsk : besides L k (i + 1) = besides L k i := by
          rw [ek]
          exact besides_skip (by rw [HLM.out]; exact hk)
        rw [← ho.out] at hsk
        have HSK := Lib.hid hsk
        clear hsk hy ek
        go_wp2_with fail
        go_roundw
        case rel => exact ⟨i + 1, o, by omega, by go_num, by omega, Lib.hid HSK.out.symm, HO.out, HB.out⟩
        case measure => simp [intOf]; omega
      · have d1 : ((i : Int) != (k : Int)) = true := by
          rw [bne_iff_ne]
          omega
        have hne := besides_next (L := L) (k := k) (i := i) (by rw [HLM.out]; exact e) ek
        rw [← hy, ← ho.out] at hne
        have HNE := Lib.hid hne
        obtain ⟨N, hN⟩ : ∃ N, N = o.length := ⟨_, rfl⟩
        obtain ⟨X, hX⟩ : ∃ X, X = o.map iv := ⟨_, rfl⟩
        rw [← hN, ← hX] at HO
        have HN := Lib.hid hN
        have HXX := Lib.hid hX
        rw [← hN] at hol hn0 ⊢
        clear hne hy hN hX
        go_wp2_with (at_builtin; refine wpList_append_own _ rfl _ _ 30 rfl w.heap.size 3 i3 (.int .i64 0) 1 8 Try.underlying30 h3 hz0 hz1 hz2 rfl (by decide) _ _ _ rfl (HO.out.alloc _) ⟨wr.heap.size, 0, none⟩ 1 1 [.int .i64 y] rfl rfl ?c1 ?c2 ?c3 ?c4 ?c5 ?_)
        case c1 => exact cell_one _ _ _
        case c2 => intro u hu; simp at hu; subst hu; rfl
        case c3 => unfold maxLen; omega
        case c4 => omega
        case c5 => simp; omega
        intro v4 w4 hown4 hgrow4 _
        have hb4 : Below w.heap.size w w4 := (HB.out.alloc hz9 _).grown hgrow4 (by simp; omega) (fun k hk => (HO.out.lt k hk).1)
        have HO4 := Lib.hid hown4
        have HB4 := Lib.hid hb4
        clear hown4 hgrow4 hb4
        go_wp2_with fail
        go_roundw
        case rel =>
          refine ⟨i + 1, o ++ [y], by omega, by go_num, by rw [List.length_append, ← HN.out]; show N + 1 ≤ _; omega, Lib.hid HNE.out.symm, ?_, HB4.out⟩
          rw [List.length_append, ← HN.out, List.map_append, ← HXX.out]
          exact HO4.out
        case measure => simp [intOf]; omega
    · obtain rfl : i = n := by omega
      have d0 : decide ((i : Int) < (i : Int)) = false := decide_eq_false (by omega)
      have hal := besides_all (L := L) (k := k) (by rw [HLM.out]; exact hk)
      rw [HLM.out, ← ho.out] at hal
      have hlen : o.length = i := by rw [hal, moveF_length (by rw [HLM.out]; exact hk), HLM.out]
      have hrow := HO.out
      rw [hlen, hal] at hrow
      have HR := Lib.hid hrow
      rw [hlen] at hn0 ⊢
      clear hal hlen hrow
      go_wp2_with fail
      go_ret
      exact ⟨_, rfl, HR.out, HB.out⟩

end Go.Proofs.Ytmgmgmbpldboiaa
namespace Go.Proofs.Ytmgmgmbpldboiaa

/-- What a code of length x takes, of 2^20. -/
def pw (x : Nat) : Nat := 2 ^ (20 - x)
theorem pw_pos (x : Nat) : 0 < pw x := Nat.two_pow_pos _
theorem pw_split {n x : Nat} (h : n ≤ x) (hx : x ≤ 20) : pw n = pw x * 2 ^ (x - n) := by
  unfold pw
  rw [← Nat.pow_add]
  congr 1
  omega
theorem pw_dvd {n x : Nat} (h : n ≤ x) (hx : x ≤ 20) : pw x ∣ pw n := ⟨_, pw_split h hx⟩
theorem pw_whole {x : Nat} (hx : x ≤ 20) : 2 ^ x * pw x = 1048576 := by
  unfold pw
  rw [← Nat.pow_add, show x + (20 - x) = 20 by omega]
def sumP (l : List Nat) : Nat := (l.map pw).sum
/-- What is taken by the codes that are shorter than n, and by those of n bits whose number is below i. -/
def pos (n : Nat) : Nat → List Nat → Nat
  | _, [] => 0
  | i, x :: l => (if x < n ∨ (x = n ∧ 0 < i) then pw x else 0) + pos n (i - 1) l
theorem pos_zero : ∀ (l : List Nat), (∀ x ∈ l, 1 ≤ x) → pos 1 0 l = 0
  | [], _ => rfl
  | x :: l, h => by
    have hx := h x (List.mem_cons_self ..)
    rw [pos, if_neg (by omega), pos_zero l fun y hy => h y (List.mem_cons_of_mem _ hy)]
set_option maxRecDepth 100000 in
theorem pos_step (n : Nat) : ∀ (l : List Nat) (i : Nat), i < l.length → pos n (i + 1) l = pos n i l + if l.getD i 0 = n then pw n else 0
  | [], i, h => by simp at h
  | x :: l, 0, _ => by
    have e1 : pos n (0 + 1) (x :: l) = (if x < n ∨ (x = n ∧ 0 < 0 + 1) then pw x else 0) + pos n 0 l := rfl
    have e2 : pos n 0 (x :: l) = (if x < n ∨ (x = n ∧ 0 < 0) then pw x else 0) + pos n 0 l := rfl
    rw [e1, e2, show (x :: l).getD 0 0 = x from rfl]
    by_cases hx : x = n
    · subst hx
      rw [if_pos (show x < x ∨ (x = x ∧ 0 < 0 + 1) by omega), if_neg (show ¬ (x < x ∨ (x = x ∧ 0 < 0)) by omega), if_pos rfl]
      omega
    · rw [if_neg hx]
      by_cases hl : x < n
      · rw [if_pos (show x < n ∨ (x = n ∧ 0 < 0 + 1) by omega), if_pos (show x < n ∨ (x = n ∧ 0 < 0) by omega)]
        omega
      · rw [if_neg (show ¬ (x < n ∨ (x = n ∧ 0 < 0 + 1)) by omega), if_neg (show ¬ (x < n ∨ (x = n ∧ 0 < 0)) by omega)]
        omega
  | x :: l, i + 1, h => by
    have e1 : pos n (i + 1 + 1) (x :: l) = (if x < n ∨ (x = n ∧ 0 < i + 1 + 1) then pw x else 0) + pos n (i + 1) l := rfl
    have e2 : pos n (i + 1) (x :: l) = (if x < n ∨ (x = n ∧ 0 < i + 1) then pw x else 0) + pos n i l := rfl
    rw [e1, e2, show (x :: l).getD (i + 1) 0 = l.getD i 0 from rfl, pos_step n l i (by simpa using h)]
    by_cases hx : x < n ∨ x = n
    · rw [if_pos (show x < n ∨ (x = n ∧ 0 < i + 1 + 1) by omega), if_pos (show x < n ∨ (x = n ∧ 0 < i + 1) by omega)]
      omega
    · rw [if_neg (show ¬ (x < n ∨ (x = n ∧ 0 < i + 1 + 1)) by omega), if_neg (show ¬ (x < n ∨ (x = n ∧ 0 < i + 1)) by omega)]
      omega
set_option maxRecDepth 100000 in
theorem pos_up (n : Nat) : ∀ (l : List Nat) (i : Nat), l.length ≤ i → pos n i l = pos (n + 1) 0 l
  | [], _, _ => rfl
  | x :: l, i, h => by
    have h' : l.length + 1 ≤ i := by simpa using h
    rw [pos, pos, pos_up n l (i - 1) (by omega), show (0 - 1 : Nat) = 0 from rfl]
    by_cases hx : x < n ∨ x = n
    · rw [if_pos (show x < n ∨ (x = n ∧ 0 < i) by omega), if_pos (show x < n + 1 ∨ (x = n + 1 ∧ 0 < 0) by omega)]
    · rw [if_neg (show ¬ (x < n ∨ (x = n ∧ 0 < i)) by omega), if_neg (show ¬ (x < n + 1 ∨ (x = n + 1 ∧ 0 < 0)) by omega)]
theorem pos_dvd (n : Nat) (hn : n ≤ 20) : ∀ (l : List Nat) (i : Nat), pw n ∣ pos n i l
  | [], _ => ⟨0, rfl⟩
  | x :: l, i => by
    rw [pos]
    refine Nat.dvd_add ?_ (pos_dvd n hn l _)
    split
    · exact pw_dvd (by omega) hn
    · exact ⟨0, rfl⟩
theorem pos_row (n : Nat) (l : List Nat) {i j : Nat} (h : i ≤ j) : pos n i l ≤ pos n j l := by
  induction h with
  | refl => exact Nat.le_refl _
  | step h ih =>
    rename_i m
    refine Nat.le_trans ih ?_
    by_cases hm : m < l.length
    · rw [pos_step n l m hm]
      omega
    · rw [pos_up n l m (by omega), pos_up n l (m + 1) (by omega)]
      exact Nat.le_refl _
theorem pos_lines (l : List Nat) {n m : Nat} (h : n < m) (i : Nat) : pos n i l ≤ pos m 0 l := by
  induction h with
  | refl =>
    rw [← pos_up n l (max i l.length) (by omega)]
    exact pos_row n l (by omega)
  | step h ih =>
    rename_i k
    refine Nat.le_trans ih ?_
    rw [← pos_up k l l.length (by omega)]
    exact pos_row k l (by omega)
set_option maxRecDepth 100000 in
theorem pos_all (n : Nat) : ∀ (l : List Nat), (∀ x ∈ l, x < n) → pos n 0 l = sumP l
  | [], _ => rfl
  | x :: l, h => by
    rw [pos, if_pos (Or.inl (h x (List.mem_cons_self ..))), show (0 - 1 : Nat) = 0 from rfl, pos_all n l fun y hy => h y (List.mem_cons_of_mem _ hy)]
    simp [sumP]
theorem pos_le (l : List Nat) (hl : ∀ x ∈ l, x ≤ 20) {n : Nat} (hn : n ≤ 20) (i : Nat) : pos n i l ≤ sumP l := by
  rw [← pos_all 21 l fun x hx => by have := hl x hx; omega]
  exact pos_lines l (by omega) i

/-- Where the code of number i lies, of 2^20. -/
def lie (l : List Nat) (i : Nat) : Nat := pos (l.getD i 0) i l
/-- The code of number i, as a number. -/
def codeN (l : List Nat) (i : Nat) : Nat := lie l i / pw (l.getD i 0)
/-- Lengths that may be. -/
structure Fits (l : List Nat) : Prop where
  low : ∀ x ∈ l, 1 ≤ x
  high : ∀ x ∈ l, x ≤ 20
  sum : sumP l ≤ 1048576
theorem get_mem {l : List Nat} {i : Nat} (h : i < l.length) : l.getD i 0 ∈ l := by
  rw [List.getD_eq_getElem?_getD, List.getElem?_eq_getElem h]
  exact List.getElem_mem h
theorem Fits.one {l : List Nat} (h : Fits l) {i : Nat} (hi : i < l.length) : 1 ≤ l.getD i 0 ∧ l.getD i 0 ≤ 20 := ⟨h.low _ (get_mem hi), h.high _ (get_mem hi)⟩
theorem code_lie {l : List Nat} (h : Fits l) {i : Nat} (hi : i < l.length) : codeN l i * pw (l.getD i 0) = lie l i :=
  Nat.div_mul_cancel (pos_dvd _ (h.one hi).2 l i)
theorem lie_next {l : List Nat} {i : Nat} (hi : i < l.length) : pos (l.getD i 0) (i + 1) l = lie l i + pw (l.getD i 0) := by
  rw [pos_step _ l i hi, if_pos rfl]
  rfl
set_option maxRecDepth 100000 in
theorem lie_apart {l : List Nat} {i j : Nat} (hi : i < l.length) (h : l.getD i 0 < l.getD j 0 ∨ (l.getD i 0 = l.getD j 0 ∧ i < j)) : lie l i + pw (l.getD i 0) ≤ lie l j := by
  rw [← lie_next hi]
  rcases h with h | ⟨h, hij⟩
  · exact Nat.le_trans (pos_lines l h (i + 1)) (pos_row _ l (by omega))
  · unfold lie
    rw [← h]
    exact pos_row _ l (by omega)
theorem lie_in {l : List Nat} (h : Fits l) {i : Nat} (hi : i < l.length) : lie l i + pw (l.getD i 0) ≤ sumP l := by
  rw [← lie_next hi]
  exact pos_le l h.high (h.one hi).2 _
theorem code_lt {l : List Nat} (h : Fits l) {i : Nat} (hi : i < l.length) : codeN l i < 2 ^ l.getD i 0 := by
  have h1 := lie_in h hi
  have h2 := h.sum
  have h3 := code_lie h hi
  have h4 := pw_whole (h.one hi).2
  have h5 := pw_pos (l.getD i 0)
  refine Nat.lt_of_mul_lt_mul_right (a := pw (l.getD i 0)) ?_
  omega
/-- The first n bits of a code. -/
theorem code_top {l : List Nat} (h : Fits l) {i n : Nat} (hi : i < l.length) (hn : n ≤ l.getD i 0) : codeN l i / 2 ^ (l.getD i 0 - n) = lie l i / pw n := by
  rw [codeN, Nat.div_div_eq_div_mul, ← pw_split hn (h.one hi).2]
end Go.Proofs.Ytmgmgmbpldboiaa
namespace Go.Proofs.Ytmgmgmbpldboiaa

theorem pos_none : ∀ (l : List Nat) , pos 0 0 l = 0
  | [] => rfl
  | x :: l => by
    rw [pos, if_neg (show ¬ (x < 0 ∨ (x = 0 ∧ 0 < 0)) by omega), show (0 - 1 : Nat) = 0 from rfl, pos_none l]
/-- Place p of 2^20 lies in the code of number i. -/
def Lies (l : List Nat) (p i : Nat) : Prop := i < l.length ∧ lie l i ≤ p ∧ p < lie l i + pw (l.getD i 0)
theorem lies_row (l : List Nat) (m p : Nat) (h0 : p < pos m 0 l → ∃ i, Lies l p i) : ∀ k, k ≤ l.length → p < pos m k l → ∃ i, Lies l p i
  | 0, _, h => h0 h
  | k + 1, hk, h => by
    by_cases hp : p < pos m k l
    · exact lies_row l m p h0 k (by omega) hp
    · rw [pos_step m l k (by omega)] at h
      by_cases he : l.getD k 0 = m
      · rw [if_pos he] at h
        refine ⟨k, by omega, ?_, ?_⟩
        · rw [lie, he]
          omega
        · rw [lie, he]
          exact h
      · rw [if_neg he] at h
        omega
theorem lies_below (l : List Nat) (p : Nat) : ∀ m, p < pos m 0 l → ∃ i, Lies l p i
  | 0, h => by
    rw [pos_none] at h
    omega
  | m + 1, h => lies_row l m p (lies_below l p m) l.length (Nat.le_refl _) (by rw [pos_up m l _ (Nat.le_refl _)]; exact h)
theorem lies_some {l : List Nat} (h : Fits l) {p : Nat} (hp : p < sumP l) : ∃ i, Lies l p i := by
  refine lies_below l p 21 ?_
  rw [pos_all 21 l fun x hx => by have := h.high x hx; omega]
  exact hp
theorem lies_one {l : List Nat} {p i j : Nat} (hi : Lies l p i) (hj : Lies l p j) : i = j := by
  obtain ⟨a1, a2, a3⟩ := hi
  obtain ⟨b1, b2, b3⟩ := hj
  have key : ∀ {i j : Nat}, i < l.length → j < l.length → (l.getD i 0 < l.getD j 0 ∨ (l.getD i 0 = l.getD j 0 ∧ i < j)) → lie l j ≤ p → p < lie l i + pw (l.getD i 0) → False := by
    intro i j hi _ ho h1 h2
    have := lie_apart hi ho
    omega
  by_cases he : i = j
  · exact he
  · exfalso
    by_cases h1 : l.getD i 0 < l.getD j 0 ∨ (l.getD i 0 = l.getD j 0 ∧ i < j)
    · exact key a1 b1 h1 b2 a3
    · exact key b1 a1 (by omega) a2 b3
/-- The code of number i is v, of n bits. -/
def Is (l : List Nat) (n v i : Nat) : Prop := i < l.length ∧ l.getD i 0 = n ∧ codeN l i = v
/-- The code of number i begins with v, of n bits. -/
def Begin (l : List Nat) (n v i : Nat) : Prop := i < l.length ∧ n ≤ l.getD i 0 ∧ codeN l i / 2 ^ (l.getD i 0 - n) = v
theorem Is.begin {l : List Nat} {n v i : Nat} (h : Is l n v i) : Begin l n v i := by
  obtain ⟨h1, h2, h3⟩ := h
  refine ⟨h1, by omega, ?_⟩
  rw [h2, Nat.sub_self, Nat.pow_zero, Nat.div_one, h3]
theorem Begin.is {l : List Nat} {n v i : Nat} (h : Begin l n v i) (hn : l.getD i 0 = n) : Is l n v i := by
  obtain ⟨h1, h2, h3⟩ := h
  refine ⟨h1, hn, ?_⟩
  rw [hn, Nat.sub_self, Nat.pow_zero, Nat.div_one] at h3
  exact h3
/-- A code that begins with v lies in v's part. -/
theorem begin_lie {l : List Nat} (h : Fits l) {n v i : Nat} (hb : Begin l n v i) : v * pw n ≤ lie l i ∧ lie l i + pw (l.getD i 0) ≤ (v + 1) * pw n := by
  obtain ⟨h1, h2, h3⟩ := hb
  have h20 := (h.one h1).2
  rw [code_top h h1 h2] at h3
  have hd := Nat.div_add_mod (lie l i) (pw n)
  have hm := Nat.mod_lt (lie l i) (pw_pos n)
  rw [h3] at hd
  obtain ⟨q, hq⟩ := pos_dvd (l.getD i 0) h20 l i
  have hq' : lie l i = pw (l.getD i 0) * q := hq
  have hs := pw_split h2 h20
  refine ⟨by rw [Nat.mul_comm]; omega, ?_⟩
  have h5 : pw (l.getD i 0) * q < pw (l.getD i 0) * ((v + 1) * 2 ^ (l.getD i 0 - n)) := by
    rw [← Nat.mul_assoc, Nat.mul_comm (pw _) (v + 1), Nat.mul_assoc, ← hs, ← hq', Nat.add_mul, Nat.one_mul, Nat.mul_comm v]
    omega
  have h6 := Nat.lt_of_mul_lt_mul_left h5
  rw [hq', show pw (l.getD i 0) * q + pw (l.getD i 0) = pw (l.getD i 0) * (q + 1) by rw [Nat.mul_add, Nat.mul_one], hs, Nat.mul_comm (v + 1), Nat.mul_assoc,
    Nat.mul_comm (2 ^ _) (v + 1)]
  exact Nat.mul_le_mul_left _ h6
theorem begin_of_lie {l : List Nat} (h : Fits l) {n v i : Nat} (hi : i < l.length) (hn : n ≤ l.getD i 0) (h1 : v * pw n ≤ lie l i) (h2 : lie l i < (v + 1) * pw n) : Begin l n v i := by
  refine ⟨hi, hn, ?_⟩
  rw [code_top h hi hn]
  refine Nat.div_eq_of_lt_le h1 h2
/-- What is read as a code begins no other one, and no other one begins it. -/
theorem is_apart {l : List Nat} (h : Fits l) {n v i m j : Nat} (hi : Is l n v i) (hm : n ≤ m) {u : Nat} (hu : u / 2 ^ (m - n) = v) (hm20 : m ≤ 20) (hj : Begin l m u j) : i = j := by
  have a := begin_lie h hi.begin
  have b := begin_lie h hj
  have hp := pw_pos (l.getD j 0)
  have hq := pw_pos (l.getD i 0)
  have hs := pw_split hm hm20
  have hd := Nat.div_add_mod u (2 ^ (m - n))
  have hml := Nat.mod_lt u (Nat.two_pow_pos (m - n))
  rw [hu] at hd
  have e1 : v * pw n ≤ u * pw m := by
    rw [hs, Nat.mul_comm (pw m), ← Nat.mul_assoc]
    refine Nat.mul_le_mul_right _ ?_
    rw [Nat.mul_comm]
    omega
  have e2 : (u + 1) * pw m ≤ (v + 1) * pw n := by
    rw [hs, Nat.mul_comm (pw m), ← Nat.mul_assoc]
    refine Nat.mul_le_mul_right _ ?_
    rw [Nat.add_mul, Nat.one_mul, Nat.mul_comm v]
    omega
  refine lies_one (l := l) (p := lie l j) ⟨hi.1, ?_, ?_⟩ ⟨hj.1, Nat.le_refl _, by omega⟩
  · have := code_lie h hi.1
    rw [hi.2.1, hi.2.2] at this
    omega
  · have := code_lie h hi.1
    rw [hi.2.1, hi.2.2] at this
    rw [hi.2.1, ← this, ← Nat.succ_mul]
    have e3 : lie l j < (u + 1) * pw m := by omega
    exact Nat.lt_of_lt_of_le e3 e2
/-- With which n bits a code begins, if none is one already. -/
theorem begin_some {l : List Nat} (h : Fits l) {n v : Nat} (hn : n ≤ 20) (h0 : ∀ k, k < n → ∀ i, ¬ Is l k (v / 2 ^ (n - k)) i) : (∃ i, Begin l n v i) ↔ v * pw n < sumP l := by
  constructor
  · rintro ⟨i, hi⟩
    have a := begin_lie h hi
    have b := lie_in h hi.1
    have := pw_pos (l.getD i 0)
    omega
  · intro hp
    obtain ⟨i, hi, h1, h2⟩ := lies_some h hp
    refine ⟨i, ?_⟩
    have h20 := (h.one hi).2
    by_cases hk : l.getD i 0 < n
    · exfalso
      refine h0 _ hk i ⟨hi, rfl, ?_⟩
      have hs := pw_split (Nat.le_of_lt hk) hn
      rw [← code_lie h hi] at h1 h2
      rw [hs] at h1 h2
      symm
      have hc : ∀ c : Nat, c * (pw n * 2 ^ (n - l.getD i 0)) = (c * 2 ^ (n - l.getD i 0)) * pw n := fun c => by
        rw [Nat.mul_comm (pw n), Nat.mul_assoc]
      refine Nat.div_eq_of_lt_le ?_ ?_
      · rw [hc] at h1
        exact Nat.le_of_mul_le_mul_right h1 (pw_pos n)
      · have h3 : v * pw n < (codeN l i + 1) * (pw n * 2 ^ (n - l.getD i 0)) := by
          rw [Nat.add_mul, Nat.one_mul]
          exact h2
        rw [hc] at h3
        exact Nat.lt_of_mul_lt_mul_right h3
    · have hk : n ≤ l.getD i 0 := by omega
      have hs := pw_split hk h20
      have hl := code_lie h hi
      have he : lie l i = v * pw n := by
        have hv : v * pw n = (v * 2 ^ (l.getD i 0 - n)) * pw (l.getD i 0) := by
          rw [hs, Nat.mul_assoc, Nat.mul_comm (2 ^ _)]
        rw [hv] at h1 h2 ⊢
        rw [← hl] at h1 h2 ⊢
        have h3 := Nat.le_of_mul_le_mul_right h1 (pw_pos _)
        have h4 : v * 2 ^ (l.getD i 0 - n) * pw (l.getD i 0) < (codeN l i + 1) * pw (l.getD i 0) := by
          rw [Nat.add_mul, Nat.one_mul]
          exact h2
        have h5 := Nat.lt_of_mul_lt_mul_right h4
        rw [show codeN l i = v * 2 ^ (l.getD i 0 - n) by omega]
      refine begin_of_lie h hi hk (by omega) ?_
      rw [he, Nat.add_mul, Nat.one_mul]
      have := pw_pos n
      omega
end Go.Proofs.Ytmgmgmbpldboiaa
