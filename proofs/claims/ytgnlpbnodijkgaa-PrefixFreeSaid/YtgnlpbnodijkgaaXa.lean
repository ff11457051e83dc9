/- Codes by their lengths: plain: symbols by their lengths; the first code of each length; which symbol's code stands there. No conditions. -/
import Derived.Test.YtgnlpbnodijkgaaOd
import Derived.Test.YtgnlpbnodijkgaaHb
namespace Go.Proofs.Ytgnlpbnodijkgaa

/-- How many codes have k bits; how many have fewer; how many of k bits stand below number i. -/
def cntL (l : List Nat) (k : Nat) : Nat := l.countP fun x => x == k
def plcL (l : List Nat) (k : Nat) : Nat := l.countP fun x => decide (x < k)
def rnkL (l : List Nat) (k i : Nat) : Nat := (l.take i).countP fun x => x == k
/-- Where symbol s stands, by its length. -/
def idxL (l : List Nat) (s : Nat) : Nat := plcL l (l.getD s 0) + rnkL l (l.getD s 0) s

theorem take_snoc_nat (l : List Nat) (q : Nat) (h : q < l.length) : l.take (q + 1) = l.take q ++ [l.getD q 0] := by
  rw [List.take_add_one, List.getElem?_eq_getElem h, List.getD_eq_getElem?_getD, List.getElem?_eq_getElem h]
  rfl
theorem rnk_zero (l : List Nat) (k : Nat) : rnkL l k 0 = 0 := rfl
theorem rnk_step (l : List Nat) (k i : Nat) (h : i < l.length) : rnkL l k (i + 1) = rnkL l k i + if l.getD i 0 = k then 1 else 0 := by
  unfold rnkL
  rw [take_snoc_nat l i h, List.countP_append]
  congr 1
  rw [List.countP_cons, List.countP_nil, Nat.zero_add]
  by_cases e : l.getD i 0 = k
  · rw [if_pos e, if_pos (by rw [e]; exact beq_self_eq_true k)]
  · rw [if_neg e, if_neg (by rw [beq_iff_eq]; exact e)]
theorem rnk_all (l : List Nat) (k : Nat) : rnkL l k l.length = cntL l k := by
  unfold rnkL cntL
  rw [List.take_length]
theorem rnk_mono (l : List Nat) (k : Nat) {i j : Nat} (h : i ≤ j) (hj : j ≤ l.length) : rnkL l k i ≤ rnkL l k j := by
  induction j with
  | zero =>
    rw [show i = 0 by omega]
    exact Nat.le_refl _
  | succ j ih =>
    by_cases e : i = j + 1
    · rw [e]
      exact Nat.le_refl _
    · have h1 := ih (by omega) (by omega)
      rw [rnk_step l k j (by omega)]
      omega
theorem rnk_lt (l : List Nat) {i j : Nat} (h : i < j) (hj : j ≤ l.length) : rnkL l (l.getD i 0) i < rnkL l (l.getD i 0) j := by
  have h1 := rnk_step l (l.getD i 0) i (by omega)
  rw [if_pos rfl] at h1
  have h2 := rnk_mono l (l.getD i 0) (show i + 1 ≤ j by omega) hj
  omega
theorem rnk_le (l : List Nat) (k i : Nat) : rnkL l k i ≤ l.length := by
  unfold rnkL
  have h1 := List.countP_le_length (p := fun x => x == k) (l := l.take i)
  rw [List.length_take] at h1
  omega
theorem plc_zero (l : List Nat) : plcL l 0 = 0 := by
  unfold plcL
  rw [List.countP_eq_zero]
  intro x _
  rw [decide_eq_true_iff]
  omega
theorem plc_up (l : List Nat) (k : Nat) : plcL l (k + 1) = plcL l k + cntL l k := by
  unfold plcL cntL
  induction l with
  | nil => rfl
  | cons x l ih =>
    rw [List.countP_cons, List.countP_cons, List.countP_cons, ih]
    by_cases h1 : x < k
    · rw [if_pos (decide_eq_true (by omega)), if_pos (decide_eq_true h1), if_neg (by rw [beq_iff_eq]; omega)]
      omega
    · by_cases h2 : x = k
      · rw [if_pos (decide_eq_true (by omega)), if_neg (by rw [decide_eq_true_iff]; omega), if_pos (by rw [beq_iff_eq]; exact h2)]
        omega
      · rw [if_neg (by rw [decide_eq_true_iff]; omega), if_neg (by rw [decide_eq_true_iff]; omega), if_neg (by rw [beq_iff_eq]; exact h2)]
        omega
theorem plc_mono (l : List Nat) {a b : Nat} (h : a ≤ b) : plcL l a ≤ plcL l b := by
  induction h with
  | refl => exact Nat.le_refl _
  | step h ih =>
    rw [plc_up]
    omega
theorem plc_le (l : List Nat) (k : Nat) : plcL l k ≤ l.length := List.countP_le_length
theorem cnt_le (l : List Nat) (k : Nat) : cntL l k ≤ l.length := List.countP_le_length
theorem idx_row {l : List Nat} {s : Nat} (h : s < l.length) : plcL l (l.getD s 0) ≤ idxL l s ∧ idxL l s < plcL l (l.getD s 0 + 1) := by
  have h1 := rnk_lt l h (Nat.le_refl _)
  rw [rnk_all] at h1
  rw [plc_up]
  unfold idxL
  omega
theorem idx_lt {l : List Nat} {s : Nat} (h : s < l.length) : idxL l s < l.length := by
  have h1 := (idx_row h).2
  have h2 := plc_le l (l.getD s 0 + 1)
  omega
theorem idx_one {l : List Nat} {s t : Nat} (hs : s < l.length) (ht : t < l.length) (h : idxL l s = idxL l t) : s = t := by
  have a := idx_row hs
  have b := idx_row ht
  by_cases e : l.getD s 0 = l.getD t 0
  · by_cases e1 : s < t
    · have h1 := rnk_lt l e1 (Nat.le_of_lt ht)
      unfold idxL at h
      rw [← e] at h
      omega
    · by_cases e2 : t < s
      · have h1 := rnk_lt l e2 (Nat.le_of_lt hs)
        unfold idxL at h
        rw [e] at h
        omega
      · omega
  · by_cases e1 : l.getD s 0 < l.getD t 0
    · have := plc_mono l (show l.getD s 0 + 1 ≤ l.getD t 0 by omega)
      omega
    · have := plc_mono l (show l.getD t 0 + 1 ≤ l.getD s 0 by omega)
      omega
theorem idx_onto {l : List Nat} {i : Nat} (h : i < l.length) : ∃ s, s < l.length ∧ idxL l s = i := by
  have hp := perm_of_nodup ((List.range l.length).map (idxL l)) l.length (by
    unfold List.Nodup
    rw [List.pairwise_map]
    refine List.Pairwise.imp_of_mem ?_ (List.nodup_range (n := l.length))
    intro a b ha hb hab e
    exact hab (idx_one (List.mem_range.1 ha) (List.mem_range.1 hb) e)) (by
    intro x hx
    obtain ⟨s, hs, rfl⟩ := List.mem_map.1 hx
    exact idx_lt (List.mem_range.1 hs)) (by rw [List.length_map, List.length_range])
  obtain ⟨s, hs, e⟩ := List.mem_map.1 (hp.mem_iff.2 (List.mem_range.2 h))
  exact ⟨s, List.mem_range.1 hs, e⟩
/-- Who stands in a row of one length. -/
theorem idx_of_row {l : List Nat} {s k : Nat} (hs : s < l.length) (h1 : plcL l k ≤ idxL l s) (h2 : idxL l s < plcL l (k + 1)) : l.getD s 0 = k := by
  have a := idx_row hs
  by_cases e1 : l.getD s 0 < k
  · have := plc_mono l (show l.getD s 0 + 1 ≤ k by omega)
    omega
  · by_cases e2 : k < l.getD s 0
    · have := plc_mono l (show k + 1 ≤ l.getD s 0 by omega)
      omega
    · omega
/-- Symbols by their lengths. -/
def SymOk (l : List Nat) (F : Nat → Nat) (i : Nat) : Prop := ∀ s, s < i → F (idxL l s) = s
theorem SymOk.step {l : List Nat} {F : Nat → Nat} {i : Nat} (h : SymOk l F i) (hi : i < l.length) : SymOk l (fun j => if j = idxL l i then i else F j) (i + 1) := by
  intro s hs
  show (if idxL l s = idxL l i then i else F (idxL l s)) = s
  by_cases e : s = i
  · subst e
    rw [if_pos rfl]
  · rw [if_neg (fun h2 => e (idx_one (by omega) hi h2))]
    exact h s (by omega)
theorem SymOk.get {l : List Nat} {F : Nat → Nat} (h : SymOk l F l.length) {i : Nat} (hi : i < l.length) : F i < l.length ∧ idxL l (F i) = i := by
  obtain ⟨s, hs, rfl⟩ := idx_onto hi
  rw [h s hs]
  exact ⟨hs, rfl⟩

/-- The first code of each length. -/
theorem cd_row (l : List Nat) (k : Nat) : ∀ i, i ≤ l.length → cd l k i = cd l k 0 + rnkL l k i
  | 0, _ => rfl
  | i + 1, h => by
    have ih := cd_row l k i (by omega)
    rw [rnk_step l k i (by omega)]
    by_cases e : l.getD i 0 = k
    · rw [cd_put (by omega) e, if_pos e, ih]
      omega
    · rw [cd_skip (by omega) e, if_neg e, ih]
      rfl
theorem cd_next (l : List Nat) {k : Nat} (hk : k < 20) : cd l (k + 1) 0 = (cd l k 0 + cntL l k) * 2 := by
  rw [cd_up (Nat.le_refl l.length) hk, cd_row l k l.length (Nat.le_refl _), rnk_all]
  omega
theorem cd_nought (l : List Nat) : cd l 0 0 = 0 := by
  unfold cd
  rw [pos_none, Nat.zero_div]
theorem code_row {l : List Nat} {s : Nat} (hs : s < l.length) : codeN l s = cd l (l.getD s 0) 0 + rnkL l (l.getD s 0) s := by
  rw [← cd_code (n := l.getD s 0) (i := s) rfl, cd_row l _ s (by omega)]
theorem code_idx {l : List Nat} {s : Nat} (hs : s < l.length) : codeN l s + plcL l (l.getD s 0) = cd l (l.getD s 0) 0 + idxL l s := by
  rw [code_row hs]
  unfold idxL
  omega
/-- Behind all codes, of 2^20. -/
theorem cd_last {l : List Nat} (h : Fits l) : cd l 20 0 + cntL l 20 = sumP l := by
  rw [← rnk_all, ← cd_row l 20 l.length (Nat.le_refl _)]
  unfold cd
  rw [pos_up 20 l l.length (Nat.le_refl _), pos_all 21 l fun x hx => by have := h.high x hx; omega]
  show sumP l / 2 ^ (20 - 20) = _
  rw [Nat.sub_self, Nat.pow_zero, Nat.div_one]

/-- What is no shorter code stands behind them. -/
theorem first_le {l bs : List Nat} (h : Fits l) (hb : Bit01 bs) {n : Nat} (hn : n ≤ bs.length) (h20 : n ≤ 20) (hc : Clear l bs n) (hs : val (bs.take n) * pw n < sumP l) : cd l n 0 ≤ val (bs.take n) := by
  obtain ⟨i, hi⟩ := (clear_begin h hb hn h20 hc).2 hs
  have a := begin_lie h hi
  have b : pos n 0 l ≤ lie l i := by
    unfold lie
    rcases Nat.lt_or_ge n (l.getD i 0) with h1 | h1
    · exact Nat.le_trans (pos_lines l h1 0) (pos_row _ l (Nat.zero_le _))
    · have := hi.2.1
      rw [show l.getD i 0 = n by omega]
      exact pos_row n l (Nat.zero_le _)
  have hp := pw_pos (l.getD i 0)
  have hd : cd l n 0 * pw n = pos n 0 l := Nat.div_mul_cancel (pos_dvd n h20 l 0)
  have h3 : cd l n 0 * pw n < (val (bs.take n) + 1) * pw n := by omega
  have := Nat.lt_of_mul_lt_mul_right h3
  omega
/-- Which symbol's code stands there. -/
theorem at_row {l : List Nat} {F : Nat → Nat} (h : Fits l) (hF : SymOk l F l.length) {n v : Nat} (h1 : cd l n 0 ≤ v) (h2 : v - cd l n 0 < cntL l n) : plcL l n + (v - cd l n 0) < l.length ∧ isAt l n v = some (F (plcL l n + (v - cd l n 0))) := by
  have hp := plc_up l n
  have hle := plc_le l (n + 1)
  have hlt : plcL l n + (v - cd l n 0) < l.length := by omega
  refine ⟨hlt, isAt_some h ?_⟩
  obtain ⟨hs, hi⟩ := hF.get hlt
  generalize F (plcL l n + (v - cd l n 0)) = s at *
  have hk : l.getD s 0 = n := idx_of_row hs (by omega) (by omega)
  have hcode := code_idx hs
  rw [hk] at hcode
  exact ⟨hs, hk, by omega⟩
theorem at_none {l : List Nat} {n v : Nat} (h2 : cntL l n ≤ v - cd l n 0) : isAt l n v = none := by
  cases e : isAt l n v with
  | none => rfl
  | some s =>
    exfalso
    obtain ⟨h3, h4, h5⟩ := isAt_is e
    have h6 := code_row h3
    have h7 := rnk_lt l h3 (Nat.le_refl _)
    rw [rnk_all] at h7
    rw [h4] at h6 h7
    omega
theorem at_beyond {l : List Nat} (h : Fits l) {n v : Nat} (hs : ¬ v * pw n < sumP l) : isAt l n v = none := by
  cases e : isAt l n v with
  | none => rfl
  | some s =>
    exfalso
    have h3 := isAt_is e
    have h4 := begin_lie h h3.begin
    have h5 := lie_in h h3.1
    have := pw_pos (l.getD s 0)
    omega
end Go.Proofs.Ytgnlpbnodijkgaa
