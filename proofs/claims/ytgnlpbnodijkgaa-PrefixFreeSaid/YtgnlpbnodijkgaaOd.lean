/- Codes by their lengths: plain, the rest: what the document answers; the table as it grows. Written ahead of stage 9. -/
import Derived.Test.YtgnlpbnodijkgaaOc
import Derived.Test.YtgnlpbnodijkgaaYe
namespace Go.Proofs.Ytgnlpbnodijkgaa

/-- Lengths as numbers. -/
def nl (L : List Int) : List Nat := L.map Int.toNat
theorem nl_length (L : List Int) : (nl L).length = L.length := List.length_map _
theorem nl_get (L : List Int) (i : Nat) : (nl L).getD i 0 = (L.getD i 0).toNat := by
  unfold nl
  rw [List.getD_eq_getElem?_getD, List.getD_eq_getElem?_getD, List.getElem?_map]
  cases L[i]? <;> rfl
theorem sum_nl (L : List Int) : sumP (nl L) = kraftL L := by
  unfold sumP nl kraftL pw
  rw [List.map_map]
  rfl
theorem fits_of {L : List Int} (h : LenOk L) : Fits (nl L) := by
  obtain ⟨_, _, h3, h4⟩ := h
  refine ⟨fun x hx => ?_, fun x hx => ?_, by rw [sum_nl]; exact h4⟩
  · obtain ⟨y, hy, rfl⟩ := List.mem_map.1 hx
    have := h3 y hy
    omega
  · obtain ⟨y, hy, rfl⟩ := List.mem_map.1 hx
    have := h3 y hy
    omega

theorem ite_iff {α : Type} {p q : Prop} [Decidable p] [Decidable q] (h : p ↔ q) (a b : α) : (if p then a else b) = if q then a else b := by
  by_cases hq : q
  · rw [if_pos hq, if_pos (h.2 hq)]
  · rw [if_neg hq, if_neg (fun k => hq (h.1 k))]
/-- What stands in the table when lengths below n, and those of n below number i, are done. -/
def tabC (l : List Nat) (n i j : Nat) : List Nat := if l.getD j 0 < n ∨ (l.getD j 0 = n ∧ j < i) then codeB l j else []
theorem tabC_skip {l : List Nat} {n i : Nat} (h : l.getD i 0 ≠ n) (j : Nat) : tabC l n (i + 1) j = tabC l n i j := by
  unfold tabC
  by_cases e : j = i
  · subst e
    have h1 : ¬ (l.getD j 0 = n ∧ j < j + 1) := fun k => h k.1
    have h2 : ¬ (l.getD j 0 = n ∧ j < j) := fun k => h k.1
    simp only [h1, h2, or_false]
  · exact ite_iff (by omega) _ _
theorem tabC_put {l : List Nat} {n i : Nat} (h : l.getD i 0 = n) (j : Nat) : tabC l n (i + 1) j = if j = i then codeB l i else tabC l n i j := by
  unfold tabC
  by_cases e : j = i
  · subst e
    rw [if_pos rfl, if_pos (Or.inr ⟨h, by omega⟩)]
  · rw [if_neg e]
    exact ite_iff (by omega) _ _
theorem tabC_up {l : List Nat} {n i j : Nat} (h : j < i) : tabC l n i j = tabC l (n + 1) 0 j := by
  unfold tabC
  exact ite_iff (by omega) _ _
theorem tabC_none {l : List Nat} (h : Fits l) {j : Nat} (hj : j < l.length) : tabC l 1 0 j = [] := by
  unfold tabC
  have := (h.one hj).1
  rw [if_neg (by omega)]
theorem tabC_all {l : List Nat} (h : Fits l) {j : Nat} (hj : j < l.length) : tabC l 21 0 j = codeB l j := by
  unfold tabC
  have := (h.one hj).2
  rw [if_pos (by omega)]

/-- The code that is next. -/
def cd (l : List Nat) (n i : Nat) : Nat := pos n i l / pw n
theorem cd_start {l : List Nat} (h : Fits l) : cd l 1 0 = 0 := by
  unfold cd
  rw [pos_zero l h.low, Nat.zero_div]
theorem cd_put {l : List Nat} {n i : Nat} (hi : i < l.length) (h : l.getD i 0 = n) : cd l n (i + 1) = cd l n i + 1 := by
  unfold cd
  rw [pos_step n l i hi, if_pos h, Nat.add_div_right _ (pw_pos n)]
theorem cd_skip {l : List Nat} {n i : Nat} (hi : i < l.length) (h : l.getD i 0 ≠ n) : cd l n (i + 1) = cd l n i := by
  unfold cd
  rw [pos_step n l i hi, if_neg h, Nat.add_zero]
theorem cd_code {l : List Nat} {n i : Nat} (h : l.getD i 0 = n) : cd l n i = codeN l i := by
  unfold cd codeN lie
  rw [h]
theorem cd_up {l : List Nat} {n i : Nat} (hi : l.length ≤ i) (hn : n < 20) : cd l (n + 1) 0 = 2 * cd l n i := by
  unfold cd
  rw [← pos_up n l i hi]
  have h1 := pw_split (n := n) (x := n + 1) (by omega) (by omega)
  rw [show n + 1 - n = 1 by omega, Nat.pow_one] at h1
  obtain ⟨k, hk⟩ := pos_dvd n (by omega) l i
  have hp := pw_pos n
  have hp1 := pw_pos (n + 1)
  rw [hk, Nat.mul_div_cancel_left k hp, h1, Nat.mul_assoc, Nat.mul_div_cancel_left _ hp1]
theorem cd_le {l : List Nat} (h : Fits l) {n : Nat} (hn : n ≤ 20) (i : Nat) : cd l n i ≤ 1048576 := by
  unfold cd
  have h1 := pos_le l h.high hn i
  have h2 := h.sum
  exact Nat.le_trans (Nat.div_le_self _ _) (by omega)

/-- What Codes answers. -/
def codesAns (L : List Int) : List Nat × Nat := if LenOk L then ((List.range L.length).map (codeN (nl L)), 0) else ([], 80)
/-- The bits of symbols, one behind the other. -/
def putB (l : List Nat) (list : List Int) : List Nat := list.flatMap fun x => codeB l x.toNat
theorem putB_snoc (l : List Nat) (a : List Int) (x : Int) : putB l (a ++ [x]) = putB l a ++ codeB l x.toNat := by
  unfold putB
  rw [List.flatMap_append]
  simp
/-- What Encode answers, as bits. -/
def putAns (L list : List Int) : List Nat × Nat := if LenOk L then (if ∀ x ∈ list, 0 ≤ x ∧ x < (L.length : Int) then (putB (nl L) list, 0) else ([], 60)) else ([], 80)
/-- So many symbols, from a bit on, behind what there is. -/
def allF (l bs : List Nat) (en : Int) : Nat → Nat → List Nat → List Nat × Nat × Nat
  | 0, at', out => (out, at', 0)
  | k + 1, at', out => match nextL l (bs.drop at') with
    | .hit i => if (i : Int) = en then (out ++ [i], at' + l.getD i 0, 0) else allF l bs en k (at' + l.getD i 0) (out ++ [i])
    | .short => ([], 0, 10)
    | .code => ([], 0, 90)
/-- What All answers. -/
def allAns (L : List Int) (bs : List Nat) (at' n en : Int) : List Nat × Nat × Nat := if LenOk L then (if at' < 0 ∨ (bs.length : Int) < at' ∨ n < 0 then ([], 0, 2) else allF (nl L) bs en n.toNat at'.toNat []) else ([], 0, 80)
/-- What Decode answers. -/
def decAns (L : List Int) (bs : List Nat) (at' : Int) : Nat × Nat × Nat :=
  if LenOk L then (if at' < 0 ∨ (bs.length : Int) < at' then (0, 0, 2) else match nextL (nl L) (bs.drop at'.toNat) with
    | .hit i => (i, at'.toNat + (nl L).getD i 0, 0)
    | .short => (0, 0, 10)
    | .code => (0, 0, 90)) else (0, 0, 80)

theorem bit01_codeB (l : List Nat) (i : Nat) : Bit01 (codeB l i) := bit01_bitsN _ _
theorem codeB_length (l : List Nat) (i : Nat) : (codeB l i).length = l.getD i 0 := bitsN_length _ _
theorem bit01_putB (l : List Nat) (list : List Int) : Bit01 (putB l list) := by
  intro b hb
  obtain ⟨x, _, hx⟩ := List.mem_flatMap.1 hb
  exact bit01_codeB l x.toNat b hx

/-- What is put is read again. -/
theorem all_put {l : List Nat} (h : Fits l) (rest : List Nat) (hr : Bit01 rest) : ∀ (list : List Int) (pre : List Nat) (out : List Nat), (∀ x ∈ list, 0 ≤ x ∧ x < (l.length : Int)) →
    allF l (pre ++ putB l list ++ rest) (-1) list.length pre.length out = (out ++ list.map Int.toNat, pre.length + (putB l list).length, 0)
  | [], pre, out, _ => by
    simp [allF, putB]
  | x :: list, pre, out, hx => by
    have hx0 := hx x (List.mem_cons_self ..)
    have hi : x.toNat < l.length := by omega
    have e : pre ++ putB l (x :: list) ++ rest = (pre ++ codeB l x.toNat) ++ putB l list ++ rest := by
      simp [putB]
    have hd : (pre ++ putB l (x :: list) ++ rest).drop pre.length = codeB l x.toNat ++ (putB l list ++ rest) := by
      rw [e, List.append_assoc, List.append_assoc, List.drop_left]
    have hn : nextL l ((pre ++ putB l (x :: list) ++ rest).drop pre.length) = .hit x.toNat := by
      rw [hd]
      exact next_code h hi _ ((bit01_putB l list).append hr)
    rw [List.length_cons, allF, hn]
    show (if (x.toNat : Int) = -1 then _ else _) = _
    rw [if_neg (by omega), e]
    have hl : pre.length + l.getD x.toNat 0 = (pre ++ codeB l x.toNat).length := by
      rw [List.length_append, codeB_length]
    rw [hl, all_put h rest hr list (pre ++ codeB l x.toNat) (out ++ [x.toNat]) fun y hy => hx y (List.mem_cons_of_mem _ hy)]
    simp [putB, Nat.add_assoc]

theorem nextF_code {l bs : List Nat} (hf : sumP l = 1048576) (hb : Bit01 bs) : ∀ k n, 1 ≤ n → n + k ≤ 21 → nextF l bs k n = .code → n + k ≤ bs.length + 1 ∨ k = 0
  | 0, n, _, _, _ => Or.inr rfl
  | k + 1, n, h1, h20, h => by
    rw [nextF] at h
    by_cases hn : bs.length < n
    · rw [if_pos hn] at h
      cases h
    · rw [if_neg hn] at h
      cases hi : isAt l n (val (bs.take n)) with
      | some i =>
        rw [hi] at h
        cases h
      | none =>
        rw [hi] at h
        have hv : val (bs.take n) < 2 ^ n := by
          have := val_lt (bs.take n) (hb.take n)
          rw [List.length_take, Nat.min_eq_left (by omega)] at this
          exact this
        have hw := pw_whole (x := n) (by omega)
        have hlt : val (bs.take n) * pw n < sumP l := by
          rw [hf, ← hw]
          exact Nat.mul_lt_mul_of_pos_right hv (pw_pos n)
        have h' : nextF l bs k (n + 1) = .code := by
          have h2 : (if val (bs.take n) * pw n < sumP l then nextF l bs k (n + 1) else .code) = Nx.code := h
          rw [if_pos hlt] at h2
          exact h2
        rcases nextF_code hf hb k (n + 1) (by omega) (by omega) h' with h3 | h3
        · exact Or.inl (by omega)
        · exact Or.inl (by omega)
/-- Of full lengths there are no bits with which no code begins. -/
theorem next_full_code {l bs : List Nat} (h : Fits l) (hb : Bit01 bs) (hf : sumP l = 1048576) : nextL l bs ≠ .code := by
  intro hc
  have h1 := nextF_code hf hb 20 1 (Nat.le_refl _) (by omega) hc
  obtain ⟨i, hi⟩ := next_full h hb hf (M := 20) h.high (by omega) (Nat.le_refl _) (by omega)
  rw [hc] at hi
  cases hi

end Go.Proofs.Ytgnlpbnodijkgaa
