/- Codes by their lengths: plain. What a code takes of 2^20: codes lie one behind the other. Written ahead of stage 9. -/
import Derived.Test.YtgnlpbnodijkgaaM
namespace Go.Proofs.Ytgnlpbnodijkgaa

/-- What a code of length x takes, of 2^20. -/
def pw (x : Nat) : Nat := 2 ^ (20 - x)
theorem pw_pos (x : Nat) : 0 < pw x := Nat.two_pow_pos _
theorem pw_split {n x : Nat} (h : n ≤ x) (hx : x ≤ 20) : pw n = pw x * 2 ^ (x - n) := by
  unfold pw
  rw [← Nat.pow_add]
  congr 1
  omega
theorem pw_dvd {n x : Nat} (h : n ≤ x) (hx : x ≤ 20) : pw x ∣ pw n := ⟨_, pw_split h hx⟩
theorem pw_whole {x : Nat} (hx : x ≤ 20) : 2 ^ x * pw x = 1048576 := by
  unfold pw
  rw [← Nat.pow_add, show x + (20 - x) = 20 by omega]
def sumP (l : List Nat) : Nat := (l.map pw).sum
/-- What is taken by the codes that are shorter than n, and by those of n bits whose number is below i. -/
def pos (n : Nat) : Nat → List Nat → Nat
  | _, [] => 0
  | i, x :: l => (if x < n ∨ (x = n ∧ 0 < i) then pw x else 0) + pos n (i - 1) l
theorem pos_zero : ∀ (l : List Nat), (∀ x ∈ l, 1 ≤ x) → pos 1 0 l = 0
  | [], _ => rfl
  | x :: l, h => by
    have hx := h x (List.mem_cons_self ..)
    rw [pos, if_neg (by omega), pos_zero l fun y hy => h y (List.mem_cons_of_mem _ hy)]
theorem pos_step (n : Nat) : ∀ (l : List Nat) (i : Nat), i < l.length → pos n (i + 1) l = pos n i l + if l.getD i 0 = n then pw n else 0
  | [], i, h => by simp at h
  | x :: l, 0, _ => by
    have e1 : pos n (0 + 1) (x :: l) = (if x < n ∨ (x = n ∧ 0 < 0 + 1) then pw x else 0) + pos n 0 l := rfl
    have e2 : pos n 0 (x :: l) = (if x < n ∨ (x = n ∧ 0 < 0) then pw x else 0) + pos n 0 l := rfl
    rw [e1, e2, show (x :: l).getD 0 0 = x from rfl]
    by_cases hx : x = n
    · subst hx
      rw [if_pos (show x < x ∨ (x = x ∧ 0 < 0 + 1) by omega), if_neg (show ¬ (x < x ∨ (x = x ∧ 0 < 0)) by omega), if_pos rfl]
      omega
    · rw [if_neg hx]
      by_cases hl : x < n
      · rw [if_pos (show x < n ∨ (x = n ∧ 0 < 0 + 1) by omega), if_pos (show x < n ∨ (x = n ∧ 0 < 0) by omega)]
        omega
      · rw [if_neg (show ¬ (x < n ∨ (x = n ∧ 0 < 0 + 1)) by omega), if_neg (show ¬ (x < n ∨ (x = n ∧ 0 < 0)) by omega)]
        omega
  | x :: l, i + 1, h => by
    have e1 : pos n (i + 1 + 1) (x :: l) = (if x < n ∨ (x = n ∧ 0 < i + 1 + 1) then pw x else 0) + pos n (i + 1) l := rfl
    have e2 : pos n (i + 1) (x :: l) = (if x < n ∨ (x = n ∧ 0 < i + 1) then pw x else 0) + pos n i l := rfl
    rw [e1, e2, show (x :: l).getD (i + 1) 0 = l.getD i 0 from rfl, pos_step n l i (by simpa using h)]
    by_cases hx : x < n ∨ x = n
    · rw [if_pos (show x < n ∨ (x = n ∧ 0 < i + 1 + 1) by omega), if_pos (show x < n ∨ (x = n ∧ 0 < i + 1) by omega)]
      omega
    · rw [if_neg (show ¬ (x < n ∨ (x = n ∧ 0 < i + 1 + 1)) by omega), if_neg (show ¬ (x < n ∨ (x = n ∧ 0 < i + 1)) by omega)]
      omega
theorem pos_up (n : Nat) : ∀ (l : List Nat) (i : Nat), l.length ≤ i → pos n i l = pos (n + 1) 0 l
  | [], _, _ => rfl
  | x :: l, i, h => by
    have h' : l.length + 1 ≤ i := by simpa using h
    rw [pos, pos, pos_up n l (i - 1) (by omega), show (0 - 1 : Nat) = 0 from rfl]
    by_cases hx : x < n ∨ x = n
    · rw [if_pos (show x < n ∨ (x = n ∧ 0 < i) by omega), if_pos (show x < n + 1 ∨ (x = n + 1 ∧ 0 < 0) by omega)]
    · rw [if_neg (show ¬ (x < n ∨ (x = n ∧ 0 < i)) by omega), if_neg (show ¬ (x < n + 1 ∨ (x = n + 1 ∧ 0 < 0)) by omega)]
theorem pos_dvd (n : Nat) (hn : n ≤ 20) : ∀ (l : List Nat) (i : Nat), pw n ∣ pos n i l
  | [], _ => ⟨0, rfl⟩
  | x :: l, i => by
    rw [pos]
    refine Nat.dvd_add ?_ (pos_dvd n hn l _)
    split
    · exact pw_dvd (by omega) hn
    · exact ⟨0, rfl⟩
theorem pos_row (n : Nat) (l : List Nat) {i j : Nat} (h : i ≤ j) : pos n i l ≤ pos n j l := by
  induction h with
  | refl => exact Nat.le_refl _
  | step h ih =>
    rename_i m
    refine Nat.le_trans ih ?_
    by_cases hm : m < l.length
    · rw [pos_step n l m hm]
      omega
    · rw [pos_up n l m (by omega), pos_up n l (m + 1) (by omega)]
      exact Nat.le_refl _
theorem pos_lines (l : List Nat) {n m : Nat} (h : n < m) (i : Nat) : pos n i l ≤ pos m 0 l := by
  induction h with
  | refl =>
    rw [← pos_up n l (max i l.length) (by omega)]
    exact pos_row n l (by omega)
  | step h ih =>
    rename_i k
    refine Nat.le_trans ih ?_
    rw [← pos_up k l l.length (by omega)]
    exact pos_row k l (by omega)
theorem pos_all (n : Nat) : ∀ (l : List Nat), (∀ x ∈ l, x < n) → pos n 0 l = sumP l
  | [], _ => rfl
  | x :: l, h => by
    rw [pos, if_pos (Or.inl (h x (List.mem_cons_self ..))), show (0 - 1 : Nat) = 0 from rfl, pos_all n l fun y hy => h y (List.mem_cons_of_mem _ hy)]
    simp [sumP]
theorem pos_le (l : List Nat) (hl : ∀ x ∈ l, x ≤ 20) {n : Nat} (hn : n ≤ 20) (i : Nat) : pos n i l ≤ sumP l := by
  rw [← pos_all 21 l fun x hx => by have := hl x hx; omega]
  exact pos_lines l (by omega) i

/-- Where the code of number i lies, of 2^20. -/
def lie (l : List Nat) (i : Nat) : Nat := pos (l.getD i 0) i l
/-- The code of number i, as a number. -/
def codeN (l : List Nat) (i : Nat) : Nat := lie l i / pw (l.getD i 0)
/-- Lengths that may be. -/
structure Fits (l : List Nat) : Prop where
  low : ∀ x ∈ l, 1 ≤ x
  high : ∀ x ∈ l, x ≤ 20
  sum : sumP l ≤ 1048576
theorem get_mem {l : List Nat} {i : Nat} (h : i < l.length) : l.getD i 0 ∈ l := by
  rw [List.getD_eq_getElem?_getD, List.getElem?_eq_getElem h]
  exact List.getElem_mem h
theorem Fits.one {l : List Nat} (h : Fits l) {i : Nat} (hi : i < l.length) : 1 ≤ l.getD i 0 ∧ l.getD i 0 ≤ 20 := ⟨h.low _ (get_mem hi), h.high _ (get_mem hi)⟩
theorem code_lie {l : List Nat} (h : Fits l) {i : Nat} (hi : i < l.length) : codeN l i * pw (l.getD i 0) = lie l i :=
  Nat.div_mul_cancel (pos_dvd _ (h.one hi).2 l i)
theorem lie_next {l : List Nat} {i : Nat} (hi : i < l.length) : pos (l.getD i 0) (i + 1) l = lie l i + pw (l.getD i 0) := by
  rw [pos_step _ l i hi, if_pos rfl]
  rfl
theorem lie_apart {l : List Nat} {i j : Nat} (hi : i < l.length) (h : l.getD i 0 < l.getD j 0 ∨ (l.getD i 0 = l.getD j 0 ∧ i < j)) : lie l i + pw (l.getD i 0) ≤ lie l j := by
  rw [← lie_next hi]
  rcases h with h | ⟨h, hij⟩
  · exact Nat.le_trans (pos_lines l h (i + 1)) (pos_row _ l (by omega))
  · unfold lie
    rw [← h]
    exact pos_row _ l (by omega)
theorem lie_in {l : List Nat} (h : Fits l) {i : Nat} (hi : i < l.length) : lie l i + pw (l.getD i 0) ≤ sumP l := by
  rw [← lie_next hi]
  exact pos_le l h.high (h.one hi).2 _
theorem code_lt {l : List Nat} (h : Fits l) {i : Nat} (hi : i < l.length) : codeN l i < 2 ^ l.getD i 0 := by
  have h1 := lie_in h hi
  have h2 := h.sum
  have h3 := code_lie h hi
  have h4 := pw_whole (h.one hi).2
  have h5 := pw_pos (l.getD i 0)
  refine Nat.lt_of_mul_lt_mul_right (a := pw (l.getD i 0)) ?_
  omega
/-- The first n bits of a code. -/
theorem code_top {l : List Nat} (h : Fits l) {i n : Nat} (hi : i < l.length) (hn : n ≤ l.getD i 0) : codeN l i / 2 ^ (l.getD i 0 - n) = lie l i / pw n := by
  rw [codeN, Nat.div_div_eq_div_mul, ← pw_split hn (h.one hi).2]
end Go.Proofs.Ytgnlpbnodijkgaa
/- Codes by their lengths: plain: each place that is taken lies in one code; what begins a code, what is one; bits that are read. -/
namespace Go.Proofs.Ytgnlpbnodijkgaa

theorem pos_none : ∀ (l : List Nat) , pos 0 0 l = 0
  | [] => rfl
  | x :: l => by
    rw [pos, if_neg (show ¬ (x < 0 ∨ (x = 0 ∧ 0 < 0)) by omega), show (0 - 1 : Nat) = 0 from rfl, pos_none l]
/-- Place p of 2^20 lies in the code of number i. -/
def Lies (l : List Nat) (p i : Nat) : Prop := i < l.length ∧ lie l i ≤ p ∧ p < lie l i + pw (l.getD i 0)
theorem lies_row (l : List Nat) (m p : Nat) (h0 : p < pos m 0 l → ∃ i, Lies l p i) : ∀ k, k ≤ l.length → p < pos m k l → ∃ i, Lies l p i
  | 0, _, h => h0 h
  | k + 1, hk, h => by
    by_cases hp : p < pos m k l
    · exact lies_row l m p h0 k (by omega) hp
    · rw [pos_step m l k (by omega)] at h
      by_cases he : l.getD k 0 = m
      · rw [if_pos he] at h
        refine ⟨k, by omega, ?_, ?_⟩
        · rw [lie, he]
          omega
        · rw [lie, he]
          exact h
      · rw [if_neg he] at h
        omega
theorem lies_below (l : List Nat) (p : Nat) : ∀ m, p < pos m 0 l → ∃ i, Lies l p i
  | 0, h => by
    rw [pos_none] at h
    omega
  | m + 1, h => lies_row l m p (lies_below l p m) l.length (Nat.le_refl _) (by rw [pos_up m l _ (Nat.le_refl _)]; exact h)
theorem lies_some {l : List Nat} (h : Fits l) {p : Nat} (hp : p < sumP l) : ∃ i, Lies l p i := by
  refine lies_below l p 21 ?_
  rw [pos_all 21 l fun x hx => by have := h.high x hx; omega]
  exact hp
theorem lies_one {l : List Nat} {p i j : Nat} (hi : Lies l p i) (hj : Lies l p j) : i = j := by
  obtain ⟨a1, a2, a3⟩ := hi
  obtain ⟨b1, b2, b3⟩ := hj
  have key : ∀ {i j : Nat}, i < l.length → j < l.length → (l.getD i 0 < l.getD j 0 ∨ (l.getD i 0 = l.getD j 0 ∧ i < j)) → lie l j ≤ p → p < lie l i + pw (l.getD i 0) → False := by
    intro i j hi _ ho h1 h2
    have := lie_apart hi ho
    omega
  by_cases he : i = j
  · exact he
  · exfalso
    by_cases h1 : l.getD i 0 < l.getD j 0 ∨ (l.getD i 0 = l.getD j 0 ∧ i < j)
    · exact key a1 b1 h1 b2 a3
    · exact key b1 a1 (by omega) a2 b3
/-- The code of number i is v, of n bits. -/
def Is (l : List Nat) (n v i : Nat) : Prop := i < l.length ∧ l.getD i 0 = n ∧ codeN l i = v
/-- The code of number i begins with v, of n bits. -/
def Begin (l : List Nat) (n v i : Nat) : Prop := i < l.length ∧ n ≤ l.getD i 0 ∧ codeN l i / 2 ^ (l.getD i 0 - n) = v
theorem Is.begin {l : List Nat} {n v i : Nat} (h : Is l n v i) : Begin l n v i := by
  obtain ⟨h1, h2, h3⟩ := h
  refine ⟨h1, by omega, ?_⟩
  rw [h2, Nat.sub_self, Nat.pow_zero, Nat.div_one, h3]
theorem Begin.is {l : List Nat} {n v i : Nat} (h : Begin l n v i) (hn : l.getD i 0 = n) : Is l n v i := by
  obtain ⟨h1, h2, h3⟩ := h
  refine ⟨h1, hn, ?_⟩
  rw [hn, Nat.sub_self, Nat.pow_zero, Nat.div_one] at h3
  exact h3
/-- A code that begins with v lies in v's part. -/
theorem begin_lie {l : List Nat} (h : Fits l) {n v i : Nat} (hb : Begin l n v i) : v * pw n ≤ lie l i ∧ lie l i + pw (l.getD i 0) ≤ (v + 1) * pw n := by
  obtain ⟨h1, h2, h3⟩ := hb
  have h20 := (h.one h1).2
  rw [code_top h h1 h2] at h3
  have hd := Nat.div_add_mod (lie l i) (pw n)
  have hm := Nat.mod_lt (lie l i) (pw_pos n)
  rw [h3] at hd
  obtain ⟨q, hq⟩ := pos_dvd (l.getD i 0) h20 l i
  have hq' : lie l i = pw (l.getD i 0) * q := hq
  have hs := pw_split h2 h20
  refine ⟨by rw [Nat.mul_comm]; omega, ?_⟩
  have h5 : pw (l.getD i 0) * q < pw (l.getD i 0) * ((v + 1) * 2 ^ (l.getD i 0 - n)) := by
    rw [← Nat.mul_assoc, Nat.mul_comm (pw _) (v + 1), Nat.mul_assoc, ← hs, ← hq', Nat.add_mul, Nat.one_mul, Nat.mul_comm v]
    omega
  have h6 := Nat.lt_of_mul_lt_mul_left h5
  rw [hq', show pw (l.getD i 0) * q + pw (l.getD i 0) = pw (l.getD i 0) * (q + 1) by rw [Nat.mul_add, Nat.mul_one], hs, Nat.mul_comm (v + 1), Nat.mul_assoc,
    Nat.mul_comm (2 ^ _) (v + 1)]
  exact Nat.mul_le_mul_left _ h6
theorem begin_of_lie {l : List Nat} (h : Fits l) {n v i : Nat} (hi : i < l.length) (hn : n ≤ l.getD i 0) (h1 : v * pw n ≤ lie l i) (h2 : lie l i < (v + 1) * pw n) : Begin l n v i := by
  refine ⟨hi, hn, ?_⟩
  rw [code_top h hi hn]
  refine Nat.div_eq_of_lt_le h1 h2
/-- What is read as a code begins no other one, and no other one begins it. -/
theorem is_apart {l : List Nat} (h : Fits l) {n v i m j : Nat} (hi : Is l n v i) (hm : n ≤ m) {u : Nat} (hu : u / 2 ^ (m - n) = v) (hm20 : m ≤ 20) (hj : Begin l m u j) : i = j := by
  have a := begin_lie h hi.begin
  have b := begin_lie h hj
  have hp := pw_pos (l.getD j 0)
  have hq := pw_pos (l.getD i 0)
  have hs := pw_split hm hm20
  have hd := Nat.div_add_mod u (2 ^ (m - n))
  have hml := Nat.mod_lt u (Nat.two_pow_pos (m - n))
  rw [hu] at hd
  have e1 : v * pw n ≤ u * pw m := by
    rw [hs, Nat.mul_comm (pw m), ← Nat.mul_assoc]
    refine Nat.mul_le_mul_right _ ?_
    rw [Nat.mul_comm]
    omega
  have e2 : (u + 1) * pw m ≤ (v + 1) * pw n := by
    rw [hs, Nat.mul_comm (pw m), ← Nat.mul_assoc]
    refine Nat.mul_le_mul_right _ ?_
    rw [Nat.add_mul, Nat.one_mul, Nat.mul_comm v]
    omega
  refine lies_one (l := l) (p := lie l j) ⟨hi.1, ?_, ?_⟩ ⟨hj.1, Nat.le_refl _, by omega⟩
  · have := code_lie h hi.1
    rw [hi.2.1, hi.2.2] at this
    omega
  · have := code_lie h hi.1
    rw [hi.2.1, hi.2.2] at this
    rw [hi.2.1, ← this, ← Nat.succ_mul]
    have e3 : lie l j < (u + 1) * pw m := by omega
    exact Nat.lt_of_lt_of_le e3 e2
/-- With which n bits a code begins, if none is one already. -/
theorem begin_some {l : List Nat} (h : Fits l) {n v : Nat} (hn : n ≤ 20) (h0 : ∀ k, k < n → ∀ i, ¬ Is l k (v / 2 ^ (n - k)) i) : (∃ i, Begin l n v i) ↔ v * pw n < sumP l := by
  constructor
  · rintro ⟨i, hi⟩
    have a := begin_lie h hi
    have b := lie_in h hi.1
    have := pw_pos (l.getD i 0)
    omega
  · intro hp
    obtain ⟨i, hi, h1, h2⟩ := lies_some h hp
    refine ⟨i, ?_⟩
    have h20 := (h.one hi).2
    by_cases hk : l.getD i 0 < n
    · exfalso
      refine h0 _ hk i ⟨hi, rfl, ?_⟩
      have hs := pw_split (Nat.le_of_lt hk) hn
      rw [← code_lie h hi] at h1 h2
      rw [hs] at h1 h2
      symm
      have hc : ∀ c : Nat, c * (pw n * 2 ^ (n - l.getD i 0)) = (c * 2 ^ (n - l.getD i 0)) * pw n := fun c => by
        rw [Nat.mul_comm (pw n), Nat.mul_assoc]
      refine Nat.div_eq_of_lt_le ?_ ?_
      · rw [hc] at h1
        exact Nat.le_of_mul_le_mul_right h1 (pw_pos n)
      · have h3 : v * pw n < (codeN l i + 1) * (pw n * 2 ^ (n - l.getD i 0)) := by
          rw [Nat.add_mul, Nat.one_mul]
          exact h2
        rw [hc] at h3
        exact Nat.lt_of_mul_lt_mul_right h3
    · have hk : n ≤ l.getD i 0 := by omega
      have hs := pw_split hk h20
      have hl := code_lie h hi
      have he : lie l i = v * pw n := by
        have hv : v * pw n = (v * 2 ^ (l.getD i 0 - n)) * pw (l.getD i 0) := by
          rw [hs, Nat.mul_assoc, Nat.mul_comm (2 ^ _)]
        rw [hv] at h1 h2 ⊢
        rw [← hl] at h1 h2 ⊢
        have h3 := Nat.le_of_mul_le_mul_right h1 (pw_pos _)
        have h4 : v * 2 ^ (l.getD i 0 - n) * pw (l.getD i 0) < (codeN l i + 1) * pw (l.getD i 0) := by
          rw [Nat.add_mul, Nat.one_mul]
          exact h2
        have h5 := Nat.lt_of_mul_lt_mul_right h4
        rw [show codeN l i = v * 2 ^ (l.getD i 0 - n) by omega]
      refine begin_of_lie h hi hk (by omega) ?_
      rw [he, Nat.add_mul, Nat.one_mul]
      have := pw_pos n
      omega
/-- Which v of n bits are codes: those of one row. -/
theorem is_some {l : List Nat} (h : Fits l) {n v : Nat} : (∃ i, Is l n v i) ↔ pos n 0 l ≤ v * pw n ∧ v * pw n < pos (n + 1) 0 l := by
  constructor
  · rintro ⟨i, h1, h2, h3⟩
    have a := code_lie h h1
    have b := lie_next h1
    have c := pos_row n l (show 0 ≤ i by omega)
    have d := pos_row n l (show i + 1 ≤ l.length by omega)
    rw [pos_up n l _ (Nat.le_refl _)] at d
    rw [h2] at a b
    rw [h3] at a
    have := pw_pos n
    unfold lie at a b
    rw [h2] at a b
    omega
  · rintro ⟨h1, h2⟩
    have key : ∀ k, k ≤ l.length → v * pw n < pos n k l → ∃ i, Is l n v i := by
      intro k
      induction k with
      | zero =>
        intro _ h3
        omega
      | succ k ih =>
        intro hk h3
        by_cases hp : v * pw n < pos n k l
        · exact ih (by omega) hp
        · rw [pos_step n l k (by omega)] at h3
          by_cases he : l.getD k 0 = n
          · rw [if_pos he] at h3
            refine ⟨k, by omega, he, ?_⟩
            have a := code_lie h (show k < l.length by omega)
            unfold lie at a
            rw [he] at a
            rw [← a] at h3 hp
            have h4 : v * pw n < (codeN l k + 1) * pw n := by
              rw [Nat.add_mul, Nat.one_mul]
              exact h3
            have h5 := Nat.lt_of_mul_lt_mul_right h4
            have h6 : codeN l k * pw n ≤ v * pw n := by omega
            have h7 := Nat.le_of_mul_le_mul_right h6 (pw_pos n)
            omega
          · rw [if_neg he] at h3
            omega
    refine key l.length (Nat.le_refl _) ?_
    rw [pos_up n l _ (Nat.le_refl _)]
    exact h2
end Go.Proofs.Ytgnlpbnodijkgaa
/- Codes by their lengths: plain: the next symbol of bits; symbols in codes are read again; full lengths read any bits. -/
namespace Go.Proofs.Ytgnlpbnodijkgaa

theorem val_top (bs : List Nat) (hb : Bit01 bs) {k n : Nat} (hk : k ≤ n) (hn : n ≤ bs.length) : val (bs.take n) / 2 ^ (n - k) = val (bs.take k) := by
  have h1 : bs.take n = bs.take k ++ (bs.take n).drop k := by
    have := List.take_append_drop k (bs.take n)
    rw [List.take_take, Nat.min_eq_left hk] at this
    exact this.symm
  have h2 : ((bs.take n).drop k).length = n - k := by
    rw [List.length_drop, List.length_take]
    omega
  have h3 := val_lt _ ((hb.take n).drop k)
  rw [h2] at h3
  rw [h1, val_append, h2, Nat.mul_comm, Nat.mul_add_div (Nat.two_pow_pos _), Nat.div_eq_of_lt h3, Nat.add_zero]
/-- The symbol whose code is v, of n bits. -/
def isAt (l : List Nat) (n v : Nat) : Option Nat := (List.range l.length).find? fun i => l.getD i 0 == n && codeN l i == v
theorem isAt_none {l : List Nat} {n v : Nat} (h : isAt l n v = none) : ∀ i, ¬ Is l n v i := by
  rintro i ⟨h1, h2, h3⟩
  have := List.find?_eq_none.1 h i (List.mem_range.2 h1)
  rw [h2, h3] at this
  simp at this
theorem isAt_is {l : List Nat} {n v i : Nat} (h : isAt l n v = some i) : Is l n v i := by
  have h1 := List.find?_some h
  have h2 := List.mem_of_find?_eq_some h
  simp only [Bool.and_eq_true, beq_iff_eq] at h1
  exact ⟨List.mem_range.1 h2, h1.1, h1.2⟩
theorem is_one {l : List Nat} (h : Fits l) {n v i j : Nat} (hi : Is l n v i) (hj : Is l n v j) : i = j := by
  refine is_apart h hi (Nat.le_refl n) (u := v) (by rw [Nat.sub_self, Nat.pow_zero, Nat.div_one]) ?_ hj.begin
  have := (h.one hi.1).2
  rw [hi.2.1] at this
  exact this
theorem isAt_some {l : List Nat} (h : Fits l) {n v i : Nat} (hi : Is l n v i) : isAt l n v = some i := by
  cases he : isAt l n v with
  | none => exact absurd hi (isAt_none he i)
  | some j => rw [is_one h hi (isAt_is he)]
/-- What is read. -/
inductive Nx where
  | hit (i : Nat)
  | short
  | code
def nextF (l bs : List Nat) : Nat → Nat → Nx
  | 0, _ => .code
  | k + 1, n => if bs.length < n then .short else match isAt l n (val (bs.take n)) with
    | some i => .hit i
    | none => if val (bs.take n) * pw n < sumP l then nextF l bs k (n + 1) else .code
/-- The next symbol of bits, from their begin on. -/
def nextL (l bs : List Nat) : Nx := nextF l bs 20 1
/-- No code of below n bits stands at the begin. -/
def Clear (l bs : List Nat) (n : Nat) : Prop := ∀ k, 1 ≤ k → k < n → ∀ i, ¬ Is l k (val (bs.take k)) i
theorem Clear.up {l bs : List Nat} {n : Nat} (h : Clear l bs n) (h1 : isAt l n (val (bs.take n)) = none) : Clear l bs (n + 1) := by
  intro k hk hkn i
  by_cases he : k = n
  · subst he
    exact isAt_none h1 i
  · exact h k hk (by omega) i
theorem no_nought {l : List Nat} (h : Fits l) (v i : Nat) : ¬ Is l 0 v i := by
  rintro ⟨h1, h2, _⟩
  have := (h.one h1).1
  omega
/-- With n bits that stand there some code begins. -/
theorem clear_begin {l bs : List Nat} (h : Fits l) (hb : Bit01 bs) {n : Nat} (hn : n ≤ bs.length) (h20 : n ≤ 20) (hc : Clear l bs n) :
    (∃ i, Begin l n (val (bs.take n)) i) ↔ val (bs.take n) * pw n < sumP l := by
  refine begin_some h h20 fun k hk i => ?_
  rw [val_top bs hb (Nat.le_of_lt hk) hn]
  by_cases h0 : k = 0
  · subst h0
    exact no_nought h _ i
  · exact hc k (by omega) hk i
/-- A symbol's code at the begin is read. -/
theorem nextF_hit {l bs : List Nat} (h : Fits l) (hb : Bit01 bs) {i : Nat} (hi : i < l.length) (hl : l.getD i 0 ≤ bs.length) (hv : val (bs.take (l.getD i 0)) = codeN l i) :
    ∀ k n, n ≤ l.getD i 0 → l.getD i 0 < n + k → nextF l bs k n = .hit i
  | 0, n, h1, h2 => by omega
  | k + 1, n, h1, h2 => by
    have his : Is l (l.getD i 0) (val (bs.take (l.getD i 0))) i := ⟨hi, rfl, hv.symm⟩
    rw [nextF, if_neg (by omega)]
    by_cases he : n = l.getD i 0
    · subst he
      rw [isAt_some h his]
    · have hlt : n < l.getD i 0 := by omega
      have hbg : Begin l n (val (bs.take n)) i := by
        refine ⟨hi, h1, ?_⟩
        rw [← hv, val_top bs hb h1 hl]
      cases hj : isAt l n (val (bs.take n)) with
      | some j =>
        exfalso
        have hij := is_apart h (isAt_is hj) h1 (val_top bs hb h1 hl) (h.one hi).2 his.begin
        have := (isAt_is hj).2.1
        rw [hij] at this
        omega
      | none =>
        have a := begin_lie h hbg
        have b := lie_in h hi
        have := pw_pos (l.getD i 0)
        show (if _ < _ then _ else _) = _
        rw [if_pos (by omega)]
        exact nextF_hit h hb hi hl hv k (n + 1) (by omega) (by omega)
theorem next_hit {l bs : List Nat} (h : Fits l) (hb : Bit01 bs) {i : Nat} (hi : i < l.length) (hl : l.getD i 0 ≤ bs.length) (hv : val (bs.take (l.getD i 0)) = codeN l i) :
    nextL l bs = .hit i := nextF_hit h hb hi hl hv 20 1 (h.one hi).1 (by have := (h.one hi).2; omega)
/-- The code of a symbol, as bits. -/
def codeB (l : List Nat) (i : Nat) : List Nat := bitsN (codeN l i) (l.getD i 0)
theorem next_code {l : List Nat} (h : Fits l) {i : Nat} (hi : i < l.length) (rest : List Nat) (hr : Bit01 rest) : nextL l (codeB l i ++ rest) = .hit i := by
  have hlen : (codeB l i).length = l.getD i 0 := bitsN_length _ _
  have hb : Bit01 (codeB l i ++ rest) := Bit01.append (bit01_bitsN _ _) hr
  have ht : (codeB l i ++ rest).take (l.getD i 0) = codeB l i := List.take_left' hlen
  refine next_hit (bs := codeB l i ++ rest) h hb hi (by rw [List.length_append, hlen]; omega) ?_
  rw [ht, codeB, val_bitsN, Nat.mod_eq_of_lt (code_lt h hi)]
/-- What is read stands there. -/
theorem nextF_is {l bs : List Nat} {i : Nat} : ∀ k n, nextF l bs k n = .hit i → l.getD i 0 ≤ bs.length ∧ Is l (l.getD i 0) (val (bs.take (l.getD i 0))) i
  | 0, n, h => by simp [nextF] at h
  | k + 1, n, h => by
    rw [nextF] at h
    by_cases hn : bs.length < n
    · rw [if_pos hn] at h
      cases h
    · rw [if_neg hn] at h
      cases hj : isAt l n (val (bs.take n)) with
      | some j =>
        rw [hj] at h
        have hji : j = i := by
          injection h
        subst hji
        have h2 := isAt_is hj
        have h3 := h2.2.1
        subst h3
        exact ⟨by omega, h2⟩
      | none =>
        rw [hj] at h
        by_cases hs : val (bs.take n) * pw n < sumP l
        · have h' : nextF l bs k (n + 1) = .hit i := by
            rw [← h]
            exact (if_pos hs).symm
          exact nextF_is k (n + 1) h'
        · have h' : Nx.code = .hit i := by
            rw [← h]
            exact (if_neg hs).symm
          cases h'
/-- Full lengths of at most M bits read a symbol, if so many bits stand there. -/
theorem nextF_full {l bs : List Nat} (h : Fits l) (hb : Bit01 bs) (hf : sumP l = 1048576) {M : Nat} (hM : ∀ x ∈ l, x ≤ M) (hM20 : M ≤ 20) (hbs : M ≤ bs.length) :
    ∀ k n, 1 ≤ n → n ≤ M + 1 → M < n + k → Clear l bs n → n ≤ M → ∃ i, nextF l bs k n = .hit i
  | 0, n, _, h2, h3, _, h4 => by
    omega
  | k + 1, n, h1, h2, h3, hc, h4 => by
    have hnM : n ≤ M := h4
    rw [nextF, if_neg (by omega)]
    cases hj : isAt l n (val (bs.take n)) with
    | some j => exact ⟨j, rfl⟩
    | none =>
      have hv := val_lt _ (hb.take n)
      rw [List.length_take, Nat.min_eq_left (by omega)] at hv
      have hw := pw_whole (show n ≤ 20 by omega)
      have hs : val (bs.take n) * pw n < sumP l := by
        rw [hf, ← hw]
        exact Nat.mul_lt_mul_of_pos_right hv (pw_pos n)
      show ∃ i, (if _ < _ then _ else _) = _
      rw [if_pos hs]
      have hc' := hc.up hj
      refine nextF_full h hb hf hM hM20 hbs k (n + 1) (by omega) (by omega) (by omega) hc' ?_
      by_cases he : n = M
      · exfalso
        obtain ⟨i, hi⟩ := (clear_begin h hb (show n ≤ bs.length by omega) (by omega) hc).2 hs
        have h5 := hM _ (get_mem hi.1)
        have h6 := hi.2.1
        exact isAt_none hj i (hi.is (by omega))
      · omega
theorem next_full {l bs : List Nat} (h : Fits l) (hb : Bit01 bs) (hf : sumP l = 1048576) {M : Nat} (hM : ∀ x ∈ l, x ≤ M) (hM1 : 1 ≤ M) (hM20 : M ≤ 20) (hbs : M ≤ bs.length) :
    ∃ i, nextL l bs = .hit i :=
  nextF_full h hb hf hM hM20 hbs 20 1 (Nat.le_refl _) (by omega) (by omega) (fun k h1 h2 => by omega) hM1
end Go.Proofs.Ytgnlpbnodijkgaa
