/- Runs of one byte: plain: a byte more, how long, and back. -/
import Derived.Test.YtihmlhkjafajmaaEd
namespace Go.Proofs.Ytihmlhkjafajmaa

/-- What a run of k of x is written as. -/
def pc (x : UInt8) (k : Nat) : List UInt8 := if k < 4 then List.replicate k x else List.replicate 4 x ++ [UInt8.ofNat (k - 4)]
theorem pc_length (x : UInt8) (k : Nat) : (pc x k).length = if k < 4 then k else 5 := by
  unfold pc
  split <;> simp
theorem runN_rep (x : UInt8) (l : List UInt8) : ∀ (k m : Nat), k ≤ m → (k = m ∨ l.head? ≠ some x) → runN x m (List.replicate k x ++ l) = k
  | 0, 0, _, _ => rfl
  | 0, m + 1, _, h => by
    cases l with
    | nil => rfl
    | cons y l =>
      have hy : ¬ y = x := fun e => by
        rcases h with h | h
        · omega
        · exact h (by rw [e]; rfl)
      show runN x (m + 1) (y :: l) = 0
      rw [runN, if_neg hy]
  | k + 1, 0, h, _ => by omega
  | k + 1, m + 1, h, h2 => by
    show runN x (m + 1) (x :: (List.replicate k x ++ l)) = k + 1
    rw [runN, if_pos rfl, runN_rep x l k m (by omega) (by rcases h2 with h2 | h2; exact .inl (by omega); exact .inr h2)]
theorem take_rep (x : UInt8) (l : List UInt8) (k j : Nat) (h : j ≤ k) : (List.replicate k x ++ l).take j = List.replicate j x := by
  rw [List.take_append_of_le_length (by rw [List.length_replicate]; exact h), List.take_replicate, Nat.min_eq_left h]
theorem enc_rep (x : UInt8) (l : List UInt8) (k : Nat) (h1 : 1 ≤ k) (h2 : k ≤ 255) (h3 : k = 255 ∨ l.head? ≠ some x) : encL (List.replicate k x ++ l) = pc x k ++ encL l := by
  obtain ⟨j, rfl⟩ : ∃ j, k = j + 1 := ⟨k - 1, by omega⟩
  have hr : headRun (List.replicate (j + 1) x ++ l) = j + 1 := by
    show runN x 254 (List.replicate j x ++ l) + 1 = j + 1
    rw [runN_rep x l j 254 (by omega) (by rcases h3 with h3 | h3; exact .inl (by omega); exact .inr h3)]
  have hne : List.replicate (j + 1) x ++ l ≠ [] := by simp
  rw [encL_step _ hne, hr, List.drop_left' (List.length_replicate ..)]
  congr 1
  unfold pieceL pc
  split
  · rw [take_rep _ _ _ _ (Nat.le_refl _)]
  · rw [take_rep _ _ _ _ (by omega)]
/-- What is written, when a run of k of x has been read. -/
def encK (x : UInt8) (k : Nat) (l : List UInt8) : List UInt8 := encL (List.replicate k x ++ l)
theorem encK_nil (x : UInt8) (k : Nat) (h1 : 1 ≤ k) (h2 : k ≤ 255) : encK x k [] = pc x k := by
  unfold encK
  rw [enc_rep x [] k h1 h2 (.inr (by simp)), encL_nil, List.append_nil]
theorem encK_same (x : UInt8) (k : Nat) (l : List UInt8) : encK x k (x :: l) = encK x (k + 1) l := by
  unfold encK
  rw [List.replicate_succ', List.append_assoc]
  rfl
theorem encK_other (x y : UInt8) (k : Nat) (l : List UInt8) (h1 : 1 ≤ k) (h2 : k ≤ 255) (h : y ≠ x ∨ k = 255) : encK x k (y :: l) = pc x k ++ encK y 1 l := by
  unfold encK
  rw [enc_rep x (y :: l) k h1 h2 (by rcases h with h | h; exact .inr (fun e => h (Option.some.inj e)); exact .inl h)]
  rfl
theorem encL_encK (x : UInt8) (l : List UInt8) : encL (x :: l) = encK x 1 l := rfl

/-- A byte more makes it as long, or one or two bytes longer. -/
theorem encK_snoc (b : UInt8) (l : List UInt8) : ∀ (x : UInt8) (k : Nat), 1 ≤ k → k ≤ 255 → (encK x k l).length ≤ (encK x k (l ++ [b])).length ∧ (encK x k (l ++ [b])).length ≤ (encK x k l).length + 2 := by
  induction l with
  | nil =>
    intro x k h1 h2
    rw [encK_nil x k h1 h2]
    show _ ≤ (encK x k [b]).length ∧ (encK x k [b]).length ≤ _
    by_cases h : b = x ∧ k < 255
    · obtain ⟨rfl, h3⟩ := h
      rw [encK_same, encK_nil _ _ (by omega) (by omega), pc_length, pc_length]
      split <;> split <;> omega
    · rw [encK_other x b k [] h1 h2 (by by_cases e : b = x; exact .inr (by have : ¬ k < 255 := fun q => h ⟨e, q⟩; omega); exact .inl e), encK_nil b 1 (by omega) (by omega), List.length_append, pc_length, pc_length]
      split <;> simp
  | cons y l ih =>
    intro x k h1 h2
    by_cases h : y = x ∧ k < 255
    · obtain ⟨rfl, h3⟩ := h
      rw [List.cons_append, encK_same, encK_same]
      exact ih y (k + 1) (by omega) (by omega)
    · have ho : y ≠ x ∨ k = 255 := by by_cases e : y = x; exact .inr (by have : ¬ k < 255 := fun q => h ⟨e, q⟩; omega); exact .inl e
      rw [List.cons_append, encK_other x y k _ h1 h2 ho, encK_other x y k _ h1 h2 ho, List.length_append, List.length_append]
      have := ih y 1 (by omega) (by omega)
      omega
theorem encL_snoc (l : List UInt8) (b : UInt8) : (encL l).length ≤ (encL (l ++ [b])).length ∧ (encL (l ++ [b])).length ≤ (encL l).length + 2 := by
  cases l with
  | nil =>
    show 0 ≤ (encL [b]).length ∧ (encL [b]).length ≤ 0 + 2
    rw [encL_encK, encK_nil _ _ (by omega) (by omega), pc_length]
    simp
  | cons x l =>
    rw [List.cons_append, encL_encK, encL_encK]
    exact encK_snoc b l x 1 (by omega) (by omega)
theorem encL_take (l : List UInt8) (m : Nat) : (encL (l.take m)).length ≤ (encL (l.take (m + 1))).length := by
  by_cases h : m < l.length
  · rw [List.take_succ_eq_append_getElem h]
    exact (encL_snoc _ _).1
  · rw [List.take_of_length_le (by omega), List.take_of_length_le (by omega)]
    exact Nat.le_refl _
theorem encL_take_le (l : List UInt8) (m : Nat) : ∀ n, m ≤ n → (encL (l.take m)).length ≤ (encL (l.take n)).length := by
  intro n h
  induction n with
  | zero =>
    obtain rfl : m = 0 := by omega
    exact Nat.le_refl _
  | succ n ih =>
    by_cases e : m = n + 1
    · rw [e]; exact Nat.le_refl _
    · exact Nat.le_trans (ih (by omega)) (encL_take l n)
/-- At most a quarter longer. -/
theorem encK_long (l : List UInt8) : ∀ (x : UInt8) (k : Nat), 1 ≤ k → k ≤ 255 → 4 * (encK x k l).length ≤ 5 * (k + l.length) := by
  induction l with
  | nil =>
    intro x k h1 h2
    rw [encK_nil x k h1 h2, pc_length]
    split <;> simp <;> omega
  | cons y l ih =>
    intro x k h1 h2
    by_cases h : y = x ∧ k < 255
    · obtain ⟨rfl, h3⟩ := h
      rw [encK_same]
      have := ih y (k + 1) (by omega) (by omega)
      rw [List.length_cons]
      omega
    · have ho : y ≠ x ∨ k = 255 := by by_cases e : y = x; exact .inr (by have : ¬ k < 255 := fun q => h ⟨e, q⟩; omega); exact .inl e
      rw [encK_other x y k _ h1 h2 ho, List.length_append, pc_length, List.length_cons]
      have := ih y 1 (by omega) (by omega)
      split <;> omega
theorem encL_long (l : List UInt8) : (encL l).length ≤ l.length + l.length / 4 := by
  cases l with
  | nil => exact Nat.le_refl _
  | cons x l =>
    have := encK_long l x 1 (by omega) (by omega)
    rw [encL_encK, List.length_cons]
    omega

theorem encK_head (l : List UInt8) : ∀ (x : UInt8) (k : Nat), 1 ≤ k → k ≤ 255 → (encK x k l).head? = some x := by
  have hp : ∀ (x : UInt8) (k : Nat) (r : List UInt8), 1 ≤ k → (pc x k ++ r).head? = some x := by
    intro x k r h1
    obtain ⟨j, rfl⟩ : ∃ j, k = j + 1 := ⟨k - 1, by omega⟩
    unfold pc
    split <;> rfl
  induction l with
  | nil =>
    intro x k h1 h2
    have := hp x k [] h1
    rw [List.append_nil] at this
    rw [encK_nil x k h1 h2, this]
  | cons y l ih =>
    intro x k h1 h2
    by_cases h : y = x ∧ k < 255
    · obtain ⟨rfl, h3⟩ := h
      rw [encK_same]
      exact ih y (k + 1) (by omega) (by omega)
    · have ho : y ≠ x ∨ k = 255 := by by_cases e : y = x; exact .inr (by have : ¬ k < 255 := fun q => h ⟨e, q⟩; omega); exact .inl e
      rw [encK_other x y k _ h1 h2 ho]
      exact hp x k _ h1
theorem sameN_rep (x : UInt8) (k : Nat) (r : List UInt8) (h1 : 1 ≤ k) (h4 : k ≤ 4) (h : k = 4 ∨ r.head? ≠ some x) : sameN (List.replicate k x ++ r) = k := by
  obtain ⟨j, rfl⟩ : ∃ j, k = j + 1 := ⟨k - 1, by omega⟩
  show 1 + runN x 3 (List.replicate j x ++ r) = j + 1
  rw [runN_rep x r j 3 (by omega) (by rcases h with h | h; exact .inl (by omega); exact .inr h)]
  omega
/-- A short run is read. -/
theorem dec_short (x : UInt8) (r : List UInt8) (hr : r.head? ≠ some x) : ∀ (k : Nat) (o : List UInt8), k < 4 → o.length + k ≤ 262144 → decL o (List.replicate k x ++ r) = decL (o ++ List.replicate k x) r
  | 0, o, _, _ => by simp
  | k + 1, o, h, hl => by
    have hs := sameN_rep x (k + 1) r (by omega) (by omega) (.inr hr)
    show decL o (x :: (List.replicate k x ++ r)) = _
    rw [decL_cons, if_pos (by show sameN (List.replicate (k + 1) x ++ r) < 4; omega), if_neg (by omega), dec_short x r hr k (o ++ [x]) (by omega) (by rw [List.length_append, List.length_singleton]; omega), List.append_assoc]
    rfl
theorem dec_long (x : UInt8) (r : List UInt8) (k : Nat) (o : List UInt8) (h4 : 4 ≤ k) (h : k ≤ 255) (hl : o.length + k ≤ 262144) : decL o (pc x k ++ r) = decL (o ++ List.replicate k x) r := by
  have hc : (UInt8.ofNat (k - 4)).toNat = k - 4 := by
    rw [UInt8.toNat_ofNat']
    exact Nat.mod_eq_of_lt (by omega)
  have hp : pc x k ++ r = x :: x :: x :: x :: UInt8.ofNat (k - 4) :: r := by
    unfold pc
    rw [if_neg (by omega)]
    rfl
  have hs : sameN (x :: x :: x :: x :: UInt8.ofNat (k - 4) :: r) = 4 := sameN_rep x 4 (UInt8.ofNat (k - 4) :: r) (by omega) (by omega) (.inl rfl)
  have hg : ((x :: x :: x :: UInt8.ofNat (k - 4) :: r).getD 3 0).toNat = k - 4 := hc
  have ht : (x :: x :: x :: x :: UInt8.ofNat (k - 4) :: r).take 4 = List.replicate 4 x := rfl
  have hd : (x :: x :: x :: UInt8.ofNat (k - 4) :: r).drop 4 = r := rfl
  have hn : (x :: x :: x :: UInt8.ofNat (k - 4) :: r).length = r.length + 4 := rfl
  rw [hp, decL_cons, hs, if_neg (by omega), if_neg (by omega), hn, if_neg (by omega), hg, if_neg (by omega), ht, hd, List.append_assoc, List.replicate_append_replicate, show 4 + (k - 4) = k by omega]
theorem dec_piece (x : UInt8) (r : List UInt8) (k : Nat) (o : List UInt8) (h : k ≤ 255) (hl : o.length + k ≤ 262144) (hr : 4 ≤ k ∨ r.head? ≠ some x) : decL o (pc x k ++ r) = decL (o ++ List.replicate k x) r := by
  by_cases h4 : 4 ≤ k
  · exact dec_long x r k o h4 h hl
  · have hr' : r.head? ≠ some x := by rcases hr with hr | hr; exact absurd hr h4; exact hr
    rw [show pc x k = List.replicate k x by unfold pc; rw [if_pos (by omega)]]
    exact dec_short x r hr' k o (by omega) hl
theorem dec_encK (l : List UInt8) : ∀ (x : UInt8) (k : Nat) (o : List UInt8), 1 ≤ k → k ≤ 255 → o.length + k + l.length ≤ 262144 → decL o (encK x k l) = (o ++ List.replicate k x ++ l, 0) := by
  induction l with
  | nil =>
    intro x k o h1 h2 h3
    have := dec_piece x [] k o h2 (by simpa using h3) (.inr (by simp))
    rw [List.append_nil] at this
    rw [encK_nil x k h1 h2, this, decL_nil, List.append_nil]
  | cons y l ih =>
    intro x k o h1 h2 h3
    rw [List.length_cons] at h3
    by_cases h : y = x ∧ k < 255
    · obtain ⟨rfl, h4⟩ := h
      rw [encK_same, ih y (k + 1) o (by omega) (by omega) (by omega), List.replicate_succ']
      simp
    · have ho : y ≠ x ∨ k = 255 := by by_cases e : y = x; exact .inr (by have : ¬ k < 255 := fun q => h ⟨e, q⟩; omega); exact .inl e
      rw [encK_other x y k _ h1 h2 ho, dec_piece x _ k o h2 (by omega) (by
        rcases ho with ho | ho
        · exact .inr (by rw [encK_head l y 1 (by omega) (by omega)]; exact fun e => ho (Option.some.inj e))
        · exact .inl (by omega)), ih y 1 _ (by omega) (by omega) (by rw [List.length_append, List.length_replicate]; omega)]
      simp
/-- What was written is read as it was. -/
theorem dec_enc (l : List UInt8) (h : l.length ≤ 262144) : decL [] (encL l) = (l, 0) := by
  cases l with
  | nil => rfl
  | cons x l =>
    rw [List.length_cons] at h
    rw [encL_encK, dec_encK l x 1 [] (by omega) (by omega) (by simp; omega)]
    rfl

theorem dec_errR (n : Nat) : ∀ (o l : List UInt8), (decR n o l).2 ≤ 30 := by
  induction n with
  | zero => intro o l; simp [decR]
  | succ n ih =>
    intro o l
    cases l with
    | nil => simp [decR]
    | cons x l =>
      unfold decR
      repeat' split
      all_goals first | exact ih _ _ | simp
theorem dec_err (o l : List UInt8) : (decL o l).2 ≤ 30 := dec_errR _ _ _

/-- n is how much fits. -/
def IsFit (l : List UInt8) (most : Int) (n : Nat) : Prop := n ≤ l.length ∧ (∀ m, 1 ≤ m → m ≤ n → ((encL (l.take m)).length : Int) ≤ most) ∧ (n < l.length → most < (encL (l.take (n + 1))).length)
theorem isFit_one {l : List UInt8} {most : Int} {n m : Nat} (h : IsFit l most n) (k : IsFit l most m) : n = m := by
  rcases Nat.lt_trichotomy n m with e | e | e
  · have h1 := h.2.2 (by have := k.1; omega)
    have h2 := k.2.1 (n + 1) (by omega) (by omega)
    omega
  · exact e
  · have h1 := k.2.2 (by have := h.1; omega)
    have h2 := h.2.1 (m + 1) (by omega) (by omega)
    omega
theorem isFit_all {l : List UInt8} {most : Int} (h : ((encL l).length : Int) ≤ most) : IsFit l most l.length := by
  refine ⟨Nat.le_refl _, fun m _ hm => ?_, fun h => by omega⟩
  have := encL_take_le l m l.length hm
  rw [List.take_of_length_le (Nat.le_refl l.length)] at this
  omega

end Go.Proofs.Ytihmlhkjafajmaa
