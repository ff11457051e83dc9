/- M Ua: texts laid together, what is not used left out. -/

namespace Go.Proofs.Ytmgmgmbpldboiaa

/-- The n lowest bits of v, the highest first. -/
def bitsN (v : Nat) : Nat → List Nat
  | 0 => []
  | n + 1 => bitsN (v / 2) n ++ [v % 2]

/-- A row of bits as a number, the first one the highest. -/
def val (l : List Nat) : Nat := l.foldl (fun a b => 2 * a + b) 0

set_option maxRecDepth 100000 in
theorem bitsN_length (n : Nat) : ∀ v, (bitsN v n).length = n := by
  induction n with
  | zero => intro v; rfl
  | succ n ih => intro v; simp [bitsN, ih]

set_option maxRecDepth 100000 in
theorem bitsN_add (b : Nat) : ∀ v a, bitsN v (a + b) = bitsN (v / 2 ^ b) a ++ bitsN v b := by
  induction b with
  | zero => intro v a; simp [bitsN]
  | succ b ih =>
    intro v a
    show bitsN v (a + b + 1) = _
    rw [bitsN, ih, bitsN, ← List.append_assoc, Nat.div_div_eq_div_mul, Nat.pow_succ, Nat.mul_comm]

set_option maxRecDepth 100000 in
theorem val_snoc (l : List Nat) (b : Nat) : val (l ++ [b]) = 2 * val l + b := by simp [val]

theorem snoc_ind {p : List Nat → Prop} (h0 : p []) (h1 : ∀ m b, p m → p (m ++ [b])) : ∀ l, p l := by
  have H : ∀ r : List Nat, p r.reverse := by
    intro r
    induction r with
    | nil => exact h0
    | cons b r ih => rw [List.reverse_cons]; exact h1 _ _ ih
  intro l
  have := H l.reverse
  rwa [List.reverse_reverse] at this

set_option maxRecDepth 100000 in
theorem val_append (m : List Nat) : ∀ l, val (l ++ m) = val l * 2 ^ m.length + val m := by
  refine snoc_ind (p := fun m => ∀ l, val (l ++ m) = val l * 2 ^ m.length + val m) ?_ ?_ m
  · intro l; simp [val]
  · intro m b ih l
    rw [← List.append_assoc, val_snoc, ih, val_snoc]
    simp [Nat.pow_succ]
    rw [Nat.mul_add, ← Nat.mul_assoc, Nat.add_assoc]
    congr 1
    rw [Nat.mul_comm 2 (val l), Nat.mul_assoc, Nat.mul_comm 2]

set_option maxRecDepth 100000 in
theorem val_bitsN (n : Nat) : ∀ v, val (bitsN v n) = v % 2 ^ n := by
  induction n with
  | zero => intro v; simp [bitsN, val, Nat.mod_one]
  | succ n ih =>
    intro v
    rw [bitsN, val_snoc, ih, Nat.pow_succ, Nat.mul_comm (2 ^ n) 2, Nat.mod_mul]
    omega

def Bit01 (l : List Nat) : Prop := ∀ b ∈ l, b < 2

set_option maxRecDepth 100000 in
theorem bit01_bitsN (n : Nat) : ∀ v, Bit01 (bitsN v n) := by
  induction n with
  | zero => intro v b h; simp [bitsN] at h
  | succ n ih =>
    intro v b h
    simp [bitsN] at h
    rcases h with h | h
    · exact ih _ b h
    · subst h; omega

set_option maxRecDepth 100000 in
theorem Bit01.append {a b : List Nat} (ha : Bit01 a) (hb : Bit01 b) : Bit01 (a ++ b) := by
  intro x hx
  rcases List.mem_append.1 hx with h | h
  · exact ha x h
  · exact hb x h

theorem Bit01.left {a b : List Nat} (h : Bit01 (a ++ b)) : Bit01 a := fun x hx => h x (List.mem_append_left _ hx)
theorem Bit01.right {a b : List Nat} (h : Bit01 (a ++ b)) : Bit01 b := fun x hx => h x (List.mem_append_right _ hx)
theorem Bit01.take {a : List Nat} (h : Bit01 a) (n : Nat) : Bit01 (a.take n) := fun x hx => h x (List.mem_of_mem_take hx)
theorem Bit01.drop {a : List Nat} (h : Bit01 a) (n : Nat) : Bit01 (a.drop n) := fun x hx => h x (List.mem_of_mem_drop hx)

set_option maxRecDepth 100000 in
theorem val_lt (l : List Nat) : Bit01 l → val l < 2 ^ l.length := by
  refine snoc_ind (p := fun l => Bit01 l → val l < 2 ^ l.length) ?_ ?_ l
  · intro _; simp [val]
  · intro m b ih h
    have h1 := ih h.left
    have h2 := h b (by simp)
    rw [val_snoc]
    simp [Nat.pow_succ]
    omega

set_option maxRecDepth 100000 in
theorem bitsN_val (l : List Nat) : Bit01 l → bitsN (val l) l.length = l := by
  refine snoc_ind (p := fun l => Bit01 l → bitsN (val l) l.length = l) ?_ ?_ l
  · intro _; rfl
  · intro m b ih h
    have h1 := ih h.left
    have h2 := h b (by simp)
    rw [List.length_append, List.length_singleton, bitsN, val_snoc, show (2 * val m + b) / 2 = val m by omega, h1, show (2 * val m + b) % 2 = b by omega]

/-- Bits as bytes, the last byte filled up with 0 bits. -/
def packN : Nat → List Nat → List UInt8
  | 0, _ => []
  | k + 1, l => if l = [] then [] else UInt8.ofNat (val (l.take 8) * 2 ^ (8 - l.length)) :: packN k (l.drop 8)

def pack (l : List Nat) : List UInt8 := packN l.length l

set_option maxRecDepth 100000 in
theorem packN_nil (k : Nat) : packN k [] = [] := by cases k <;> simp [packN]

set_option maxRecDepth 100000 in
theorem packN_more (k : Nat) : ∀ (l : List Nat), l.length ≤ k → packN k l = pack l := by
  suffices H : ∀ (k j : Nat) (l : List Nat), l.length ≤ k → l.length ≤ j → packN k l = packN j l from fun l h => H k l.length l h (Nat.le_refl _)
  intro k
  induction k with
  | zero =>
    intro j l h h'
    have : l = [] := List.eq_nil_of_length_eq_zero (by omega)
    subst this
    rw [packN_nil, packN_nil]
  | succ k ih =>
    intro j l h h'
    cases j with
    | zero =>
      have : l = [] := List.eq_nil_of_length_eq_zero (by omega)
      subst this
      rw [packN_nil, packN_nil]
    | succ j =>
      by_cases e : l = []
      · subst e; rw [packN_nil, packN_nil]
      · have hp : 0 < l.length := List.length_pos_iff.2 e
        simp only [packN, e, if_false]
        rw [ih j (l.drop 8) (by simp; omega) (by simp; omega)]

theorem pack_nil : pack [] = [] := rfl

set_option maxRecDepth 100000 in
theorem pack_step (l : List Nat) (h : l ≠ []) : pack l = UInt8.ofNat (val (l.take 8) * 2 ^ (8 - l.length)) :: pack (l.drop 8) := by
  have hp : 0 < l.length := List.length_pos_iff.2 h
  rw [← packN_more (l.length + 1) l (by omega)]
  simp only [packN, h, if_false]
  rw [packN_more _ _ (by simp)]

theorem pack_short (l : List Nat) (h : 0 < l.length) (h8 : l.length ≤ 8) : pack l = [UInt8.ofNat (val l * 2 ^ (8 - l.length))] := by
  rw [pack_step l (List.length_pos_iff.1 h), List.take_of_length_le h8, List.drop_of_length_le h8, pack_nil]

set_option maxRecDepth 100000 in
theorem pack_cons8 (a b : List Nat) (h : a.length = 8) : pack (a ++ b) = UInt8.ofNat (val a) :: pack b := by
  rw [pack_step (a ++ b) (by intro e; have := congrArg List.length e; rw [List.length_append, List.length_nil] at this; omega), List.take_append_of_le_length (by omega), List.take_of_length_le (by omega), List.drop_append_of_le_length (by omega), List.drop_of_length_le (by omega)]
  simp [h]

set_option maxRecDepth 100000 in
theorem pack_append (k : Nat) : ∀ a b : List Nat, a.length = 8 * k → pack (a ++ b) = pack a ++ pack b := by
  induction k with
  | zero =>
    intro a b h
    have : a = [] := List.eq_nil_of_length_eq_zero (by omega)
    subst this
    rfl
  | succ k ih =>
    intro a b h
    have e : a = a.take 8 ++ a.drop 8 := (List.take_append_drop 8 a).symm
    have h1 : (a.take 8).length = 8 := by simp; omega
    have h2 : (a.drop 8).length = 8 * k := by simp; omega
    rw [e, List.append_assoc, pack_cons8 _ _ h1, pack_cons8 _ _ h1, ih _ _ h2, List.cons_append]

set_option maxRecDepth 100000 in
theorem pack_length (l : List Nat) : (pack l).length = (l.length + 7) / 8 := by
  have H : ∀ (n : Nat) (l : List Nat), l.length ≤ n → (pack l).length = (l.length + 7) / 8 := by
    intro n
    induction n with
    | zero =>
      intro l h
      have : l = [] := List.eq_nil_of_length_eq_zero (by omega)
      subst this; rfl
    | succ n ih =>
      intro l h
      by_cases e : l = []
      · subst e; rfl
      · have hp : 0 < l.length := List.length_pos_iff.2 e
        rw [pack_step l e, List.length_cons, ih _ (by simp; omega)]
        simp; omega
  exact H l.length l (Nat.le_refl _)

set_option maxRecDepth 100000 in
/-- A row's last, unfilled byte: the full ones, and what is left. -/
theorem pack_split (l : List Nat) : pack l = pack (l.take (8 * (l.length / 8))) ++ pack (l.drop (8 * (l.length / 8))) := by
  conv => lhs; rw [← List.take_append_drop (8 * (l.length / 8)) l]
  exact pack_append (l.length / 8) _ _ (by simp; omega)

theorem or_shift (a b s : Nat) (h : b < 2 ^ s) : (a * 2 ^ s) ||| b = a * 2 ^ s + b := by
  rw [Nat.mul_comm, Nat.two_pow_add_eq_or_of_lt h]

set_option maxRecDepth 100000 in
/-- More bits, no more than the last byte has room for, begun anew where it is full: the byte that they go into. -/
theorem pack_more (l m : List Nat) (hm : 0 < m.length) (hr : l.length % 8 + m.length ≤ 8) (hb : Bit01 m) :
    pack (l ++ m) = pack (l.take (8 * (l.length / 8))) ++ [UInt8.ofNat ((val (l.drop (8 * (l.length / 8))) * 2 ^ (8 - l.length % 8)) ||| (val m * 2 ^ (8 - l.length % 8 - m.length)))] := by
  have e : l ++ m = l.take (8 * (l.length / 8)) ++ (l.drop (8 * (l.length / 8)) ++ m) := by rw [← List.append_assoc, List.take_append_drop]
  have hl : (l.drop (8 * (l.length / 8)) ++ m).length = l.length % 8 + m.length := by simp; omega
  rw [e, pack_append (l.length / 8) _ _ (by simp; omega), pack_short (l.drop (8 * (l.length / 8)) ++ m) (by omega) (by omega), val_append, hl]
  congr 3
  have hv := val_lt m hb
  generalize val (List.drop (8 * (l.length / 8)) l) = R
  generalize val m = M at *
  generalize hr' : l.length % 8 = r at *
  generalize m.length = k at *
  have e1 : 8 - r = k + (8 - r - k) := by omega
  have hlt : M * 2 ^ (8 - r - k) < 2 ^ (8 - r) := by
    conv => rhs; rw [e1, Nat.pow_add]
    exact Nat.mul_lt_mul_of_pos_right hv (Nat.two_pow_pos _)
  rw [or_shift _ _ _ hlt, Nat.add_mul]
  conv => rhs; lhs; rw [e1, Nat.pow_add]
  rw [show 8 - (r + k) = 8 - r - k by omega, Nat.mul_assoc]

/-- A text's bits. -/
def bitsB (l : List UInt8) : List Nat := l.flatMap fun c => bitsN c.toNat 8

theorem bitsB_nil : bitsB [] = [] := rfl
theorem bitsB_cons (c : UInt8) (l : List UInt8) : bitsB (c :: l) = bitsN c.toNat 8 ++ bitsB l := rfl
set_option maxRecDepth 100000 in
theorem bitsB_append (a b : List UInt8) : bitsB (a ++ b) = bitsB a ++ bitsB b := by simp [bitsB]
theorem bitsB_length (l : List UInt8) : (bitsB l).length = 8 * l.length := by
  induction l with
  | nil => rfl
  | cons c l ih => rw [bitsB_cons, List.length_append, bitsN_length, ih, List.length_cons]; omega
set_option maxRecDepth 100000 in
theorem bit01_bitsB (l : List UInt8) : Bit01 (bitsB l) := by
  induction l with
  | nil => intro b h; simp [bitsB] at h
  | cons c l ih => rw [bitsB_cons]; exact (bit01_bitsN _ _).append ih

set_option maxRecDepth 100000 in
theorem bitsN_get (n : Nat) : ∀ v i, i < n → (bitsN v n)[i]? = some (v / 2 ^ (n - 1 - i) % 2) := by
  induction n with
  | zero => intro v i h; omega
  | succ n ih =>
    intro v i h
    rw [bitsN]
    by_cases h1 : i < n
    · rw [List.getElem?_append_left (by rw [bitsN_length]; exact h1), ih _ _ h1, Nat.div_div_eq_div_mul, show n + 1 - 1 - i = (n - 1 - i) + 1 by omega, Nat.pow_succ, Nat.mul_comm]
    · obtain rfl : i = n := by omega
      rw [List.getElem?_append_right (by rw [bitsN_length]; exact Nat.le_refl _), bitsN_length]
      simp

set_option maxRecDepth 100000 in
theorem bitsB_get (l : List UInt8) : ∀ i, i < 8 * l.length → (bitsB l)[i]? = some ((l.getD (i / 8) 0).toNat / 2 ^ (7 - i % 8) % 2) := by
  induction l with
  | nil => intro i h; simp at h
  | cons c l ih =>
    intro i h
    rw [bitsB_cons]
    by_cases h8 : i < 8
    · rw [List.getElem?_append_left (by rw [bitsN_length]; exact h8), bitsN_get _ _ _ h8, show i / 8 = 0 by omega, show i % 8 = i by omega]
      rfl
    · rw [List.getElem?_append_right (by rw [bitsN_length]; omega), bitsN_length, ih (i - 8) (by rw [List.length_cons] at h; omega), show i / 8 = (i - 8) / 8 + 1 by omega, show (i - 8) % 8 = i % 8 by omega]
      rfl

theorem bitsN_zero (n : Nat) : bitsN 0 n = List.replicate n 0 := by
  induction n with
  | zero => rfl
  | succ n ih => rw [bitsN, Nat.zero_div, ih, Nat.zero_mod, List.replicate_succ']

theorem bitsN_shift (v k n : Nat) : bitsN (v * 2 ^ k) (n + k) = bitsN v n ++ List.replicate k 0 := by
  rw [bitsN_add, Nat.mul_div_cancel _ (Nat.two_pow_pos k)]
  congr 1
  have : ∀ (k v : Nat), bitsN (v * 2 ^ k) k = List.replicate k 0 := by
    intro k
    induction k with
    | zero => intro v; rfl
    | succ k ih =>
      intro v
      rw [bitsN, Nat.pow_succ, ← Nat.mul_assoc, Nat.mul_div_cancel _ (by omega), ih, Nat.mul_mod_left, List.replicate_succ']
  exact this k v

set_option maxRecDepth 100000 in
/-- What bits are read out of a row's bytes: the row, filled up with 0 bits. -/
theorem bitsB_pack (L : List Nat) : Bit01 L → bitsB (pack L) = L ++ List.replicate (8 * ((L.length + 7) / 8) - L.length) 0 := by
  have H : ∀ (n : Nat) (L : List Nat), L.length ≤ n → Bit01 L → bitsB (pack L) = L ++ List.replicate (8 * ((L.length + 7) / 8) - L.length) 0 := by
    intro n
    induction n with
    | zero =>
      intro L h _
      have : L = [] := List.eq_nil_of_length_eq_zero (by omega)
      subst this; rfl
    | succ n ih =>
      intro L h hb
      by_cases h8 : L.length ≤ 8
      · by_cases h0 : L.length = 0
        · have : L = [] := List.eq_nil_of_length_eq_zero h0
          subst this; rfl
        · have hv := val_lt L hb
          have hlt : val L * 2 ^ (8 - L.length) < 256 := by
            have h2 : (256 : Nat) = 2 ^ L.length * 2 ^ (8 - L.length) := by rw [← Nat.pow_add, show L.length + (8 - L.length) = 8 by omega]
            rw [h2]
            exact Nat.mul_lt_mul_of_pos_right hv (Nat.two_pow_pos _)
          rw [pack_short L (by omega) h8, bitsB_cons, bitsB_nil, List.append_nil, UInt8.toNat_ofNat', Nat.mod_eq_of_lt hlt]
          have h3 := bitsN_shift (val L) (8 - L.length) L.length
          rw [show L.length + (8 - L.length) = 8 by omega, bitsN_val L hb] at h3
          rw [h3]
          congr 2
          omega
      · have e : L = L.take 8 ++ L.drop 8 := (List.take_append_drop 8 L).symm
        have h1 : (L.take 8).length = 8 := by simp; omega
        have hb1 : Bit01 (L.take 8) := hb.take 8
        have hv := val_lt _ hb1
        rw [h1] at hv
        have h3 := bitsN_val _ hb1
        rw [h1] at h3
        conv => lhs; rw [e]
        rw [pack_cons8 _ _ h1, bitsB_cons, UInt8.toNat_ofNat', Nat.mod_eq_of_lt hv, h3, ih _ (by simp; omega) (hb.drop 8), ← List.append_assoc, ← e, List.length_drop]
        congr 2
        omega
  exact H L.length L (Nat.le_refl _)

end Go.Proofs.Ytmgmgmbpldboiaa
namespace Go.Proofs.Ytmgmgmbpldboiaa

/-- What stands at a place is moved to the front. -/
def moveF (l : List Nat) (k : Nat) : List Nat := l.getD k 0 :: (l.take k ++ l.drop (k + 1))
/-- A number's place. -/
def placeOf : List Nat → Nat → Nat
  | [], _ => 0
  | y :: l, x => if y = x then 0 else placeOf l x + 1
set_option maxRecDepth 100000 in
theorem place_lt : ∀ (l : List Nat) (x : Nat), x ∈ l → placeOf l x < l.length ∧ l.getD (placeOf l x) 0 = x
  | [], x, h => by cases h
  | y :: l, x, h => by
    by_cases e : y = x
    · subst e
      simp [placeOf]
    · have hx : x ∈ l := by
        rcases List.mem_cons.1 h with h | h
        · exact absurd h.symm e
        · exact h
      have ih := place_lt l x hx
      rw [placeOf, if_neg e, List.length_cons]
      exact ⟨by omega, ih.2⟩
theorem moveF_length {l : List Nat} {k : Nat} (hk : k < l.length) : (moveF l k).length = l.length := by
  unfold moveF
  rw [List.length_cons, List.length_append, List.length_take, List.length_drop]
  omega
/-- The first T ones are all those below T. -/
def Low (T : Nat) (l : List Nat) : Prop := T ≤ l.length ∧ ∀ x, x < T → placeOf l x < T ∧ x ∈ l
set_option maxRecDepth 100000 in
theorem place_take : ∀ (l : List Nat) (T x : Nat), x ∈ l.take T → placeOf l x < T
  | [], T, x, h => by simp at h
  | y :: l, 0, x, h => by simp at h
  | y :: l, T + 1, x, h => by
    by_cases e : y = x
    · rw [placeOf, if_pos e]
      omega
    · rw [List.take_succ_cons] at h
      rcases List.mem_cons.1 h with h | h
      · exact absurd h.symm e
      · rw [placeOf, if_neg e]
        have := place_take l T x h
        omega
set_option maxRecDepth 100000 in
theorem take_place : ∀ (l : List Nat) (T x : Nat), x ∈ l → placeOf l x < T → x ∈ l.take T
  | [], T, x, h, _ => by cases h
  | y :: l, 0, x, _, h => by omega
  | y :: l, T + 1, x, h, hp => by
    rw [List.take_succ_cons]
    by_cases e : y = x
    · rw [e]
      exact List.mem_cons_self ..
    · rcases List.mem_cons.1 h with h | h
      · exact absurd h.symm e
      · rw [placeOf, if_neg e] at hp
        exact List.mem_cons_of_mem _ (take_place l T x h (by omega))
set_option maxRecDepth 100000 in
theorem Low.move {T : Nat} {l : List Nat} (h : Low T l) {x : Nat} (hx : x < T) : Low T (moveF l (placeOf l x)) := by
  obtain ⟨h1, h2⟩ := h
  have hp := place_lt l x (h2 x hx).2
  have hpT := (h2 x hx).1
  refine ⟨by rw [moveF_length hp.1]; exact h1, fun y hy => ?_⟩
  have hmem : y ∈ (moveF l (placeOf l x)).take T := by
    unfold moveF
    rw [hp.2]
    obtain ⟨S, rfl⟩ : ∃ S, T = S + 1 := ⟨T - 1, by omega⟩
    rw [List.take_succ_cons]
    by_cases e : y = x
    · rw [e]
      exact List.mem_cons_self ..
    · refine List.mem_cons_of_mem _ ?_
      have hy2 := take_place l (S + 1) y (h2 y hy).2 (h2 y hy).1
      rw [List.take_append, List.length_take, Nat.min_eq_left (by omega), List.take_take, Nat.min_eq_right (by omega)]
      have e2 : l.take (S + 1) = l.take (placeOf l x) ++ (x :: (l.drop (placeOf l x + 1)).take (S - placeOf l x)) := by
        have h3 : S + 1 = placeOf l x + (1 + (S - placeOf l x)) := by omega
        conv => lhs; rw [h3, List.take_add]
        congr 1
        rw [List.drop_eq_getElem_cons hp.1, Nat.add_comm 1, List.take_succ_cons]
        congr 1
        have := hp.2
        rw [List.getD_eq_getElem?_getD, List.getElem?_eq_getElem hp.1] at this
        exact this
      rw [e2] at hy2
      rcases List.mem_append.1 hy2 with h3 | h3
      · exact List.mem_append_left _ h3
      · rcases List.mem_cons.1 h3 with h3 | h3
        · exact absurd h3 e
        · exact List.mem_append_right _ h3
  exact ⟨place_take _ _ _ hmem, List.mem_of_mem_take hmem⟩
set_option maxRecDepth 100000 in
theorem low_six {T : Nat} (h : T ≤ 6) : Low T [0, 1, 2, 3, 4, 5] := by
  refine ⟨h, fun x hx => ?_⟩
  have : x = 0 ∨ x = 1 ∨ x = 2 ∨ x = 3 ∨ x = 4 ∨ x = 5 := by omega
  rcases this with rfl | rfl | rfl | rfl | rfl | rfl <;> exact ⟨by simp [placeOf]; try omega, by simp⟩

/-- Picks as bits. -/
def putPicks : List Nat → List Nat → List Nat
  | _, [] => []
  | o, x :: r => List.replicate (placeOf o x) 1 ++ 0 :: putPicks (moveF o (placeOf o x)) r
/-- A place out of bits. -/
inductive Pl where
  | hit (n : Nat)
  | short
  | bad
end Go.Proofs.Ytmgmgmbpldboiaa
