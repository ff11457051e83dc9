/- M Ua S I: texts laid together, what is not used left out. -/
import Derived.Test.YtmgmgmbpldboiaaGreatRows
import Derived.WalkKit
import Derived.WalkLawsBesides
import Derived.WalkSpells
import Derived.Below
import Derived.Maps.AppendAt
import Derived.Deep.Draws
import Derived.LoopTactic
import Derived.Deep.LoopGhost
import Derived.Lib.Hide
import Derived.Outline
import Derived.RegionTactic
import Derived.BigRegion
import Derived.BigQuiet
import Derived.Deep.QuietTactic
import Derived.Deep.DeepFit
import Derived.OwnWalk
import Derived.Laws.AppendOwn
import Derived.IntWalk
import Derived.Deep.DeepCutAuto
import Derived.Deep.RegionHeld3
import Derived.StillTailTactics
import Derived.Laws.BitsAllLaws
import Derived.Laws.IdiomStrings
import Derived.Laws.BytesArg
import Derived.Laws.StructEq
import Derived.Deep.AppendLies
namespace Go.Proofs.YtmgmgmbpldboiaaGreat

/-- The n lowest bits of v, the highest first. -/
def bitsN (v : Nat) : Nat → List Nat
  | 0 => []
  | n + 1 => bitsN (v / 2) n ++ [v % 2]

/-- A row of bits as a number, the first one the highest. -/
def val (l : List Nat) : Nat := l.foldl (fun a b => 2 * a + b) 0

set_option maxRecDepth 100000 in
theorem bitsN_length (n : Nat) : ∀ v, (bitsN v n).length = n := by
  induction n with
  | zero => intro v; rfl
  | succ n ih => intro v; simp [bitsN, ih]

set_option maxRecDepth 100000 in
theorem bitsN_add (b : Nat) : ∀ v a, bitsN v (a + b) = bitsN (v / 2 ^ b) a ++ bitsN v b := by
  induction b with
  | zero => intro v a; simp [bitsN]
  | succ b ih =>
    intro v a
    show bitsN v (a + b + 1) = _
    rw [bitsN, ih, bitsN, ← List.append_assoc, Nat.div_div_eq_div_mul, Nat.pow_succ, Nat.mul_comm]

set_option maxRecDepth 100000 in
theorem val_snoc (l : List Nat) (b : Nat) : val (l ++ [b]) = 2 * val l + b := by simp [val]

theorem snoc_ind {p : List Nat → Prop} (h0 : p []) (h1 : ∀ m b, p m → p (m ++ [b])) : ∀ l, p l := by
  have H : ∀ r : List Nat, p r.reverse := by
    intro r
    induction r with
    | nil => exact h0
    | cons b r ih => rw [List.reverse_cons]; exact h1 _ _ ih
  intro l
  have := H l.reverse
  rwa [List.reverse_reverse] at this

set_option maxRecDepth 100000 in
theorem val_append (m : List Nat) : ∀ l, val (l ++ m) = val l * 2 ^ m.length + val m := by
  refine snoc_ind (p := fun m => ∀ l, val (l ++ m) = val l * 2 ^ m.length + val m) ?_ ?_ m
  · intro l; simp [val]
  · intro m b ih l
    rw [← List.append_assoc, val_snoc, ih, val_snoc]
    simp [Nat.pow_succ]
    rw [Nat.mul_add, ← Nat.mul_assoc, Nat.add_assoc]
    congr 1
    rw [Nat.mul_comm 2 (val l), Nat.mul_assoc, Nat.mul_comm 2]

set_option maxRecDepth 100000 in
theorem val_bitsN (n : Nat) : ∀ v, val (bitsN v n) = v % 2 ^ n := by
  induction n with
  | zero => intro v; simp [bitsN, val, Nat.mod_one]
  | succ n ih =>
    intro v
    rw [bitsN, val_snoc, ih, Nat.pow_succ, Nat.mul_comm (2 ^ n) 2, Nat.mod_mul]
    omega

def Bit01 (l : List Nat) : Prop := ∀ b ∈ l, b < 2

set_option maxRecDepth 100000 in
theorem bit01_bitsN (n : Nat) : ∀ v, Bit01 (bitsN v n) := by
  induction n with
  | zero => intro v b h; simp [bitsN] at h
  | succ n ih =>
    intro v b h
    simp [bitsN] at h
    rcases h with h | h
    · exact ih _ b h
    · subst h; omega

set_option maxRecDepth 100000 in
theorem Bit01.append {a b : List Nat} (ha : Bit01 a) (hb : Bit01 b) : Bit01 (a ++ b) := by
  intro x hx
  rcases List.mem_append.1 hx with h | h
  · exact ha x h
  · exact hb x h

theorem Bit01.left {a b : List Nat} (h : Bit01 (a ++ b)) : Bit01 a := fun x hx => h x (List.mem_append_left _ hx)
theorem Bit01.right {a b : List Nat} (h : Bit01 (a ++ b)) : Bit01 b := fun x hx => h x (List.mem_append_right _ hx)
theorem Bit01.take {a : List Nat} (h : Bit01 a) (n : Nat) : Bit01 (a.take n) := fun x hx => h x (List.mem_of_mem_take hx)
theorem Bit01.drop {a : List Nat} (h : Bit01 a) (n : Nat) : Bit01 (a.drop n) := fun x hx => h x (List.mem_of_mem_drop hx)

set_option maxRecDepth 100000 in
theorem val_lt (l : List Nat) : Bit01 l → val l < 2 ^ l.length := by
  refine snoc_ind (p := fun l => Bit01 l → val l < 2 ^ l.length) ?_ ?_ l
  · intro _; simp [val]
  · intro m b ih h
    have h1 := ih h.left
    have h2 := h b (by simp)
    rw [val_snoc]
    simp [Nat.pow_succ]
    omega

set_option maxRecDepth 100000 in
theorem bitsN_val (l : List Nat) : Bit01 l → bitsN (val l) l.length = l := by
  refine snoc_ind (p := fun l => Bit01 l → bitsN (val l) l.length = l) ?_ ?_ l
  · intro _; rfl
  · intro m b ih h
    have h1 := ih h.left
    have h2 := h b (by simp)
    rw [List.length_append, List.length_singleton, bitsN, val_snoc, show (2 * val m + b) / 2 = val m by omega, h1, show (2 * val m + b) % 2 = b by omega]

/-- Bits as bytes, the last byte filled up with 0 bits. -/
def packN : Nat → List Nat → List UInt8
  | 0, _ => []
  | k + 1, l => if l = [] then [] else UInt8.ofNat (val (l.take 8) * 2 ^ (8 - l.length)) :: packN k (l.drop 8)

def pack (l : List Nat) : List UInt8 := packN l.length l

set_option maxRecDepth 100000 in
theorem packN_nil (k : Nat) : packN k [] = [] := by cases k <;> simp [packN]

set_option maxRecDepth 100000 in
theorem packN_more (k : Nat) : ∀ (l : List Nat), l.length ≤ k → packN k l = pack l := by
  suffices H : ∀ (k j : Nat) (l : List Nat), l.length ≤ k → l.length ≤ j → packN k l = packN j l from fun l h => H k l.length l h (Nat.le_refl _)
  intro k
  induction k with
  | zero =>
    intro j l h h'
    have : l = [] := List.eq_nil_of_length_eq_zero (by omega)
    subst this
    rw [packN_nil, packN_nil]
  | succ k ih =>
    intro j l h h'
    cases j with
    | zero =>
      have : l = [] := List.eq_nil_of_length_eq_zero (by omega)
      subst this
      rw [packN_nil, packN_nil]
    | succ j =>
      by_cases e : l = []
      · subst e; rw [packN_nil, packN_nil]
      · have hp : 0 < l.length := List.length_pos_iff.2 e
        simp only [packN, e, if_false]
        rw [ih j (l.drop 8) (by simp; omega) (by simp; omega)]

theorem pack_nil : pack [] = [] := rfl

set_option maxRecDepth 100000 in
theorem pack_step (l : List Nat) (h : l ≠ []) : pack l = UInt8.ofNat (val (l.take 8) * 2 ^ (8 - l.length)) :: pack (l.drop 8) := by
  have hp : 0 < l.length := List.length_pos_iff.2 h
  rw [← packN_more (l.length + 1) l (by omega)]
  simp only [packN, h, if_false]
  rw [packN_more _ _ (by simp)]

theorem pack_short (l : List Nat) (h : 0 < l.length) (h8 : l.length ≤ 8) : pack l = [UInt8.ofNat (val l * 2 ^ (8 - l.length))] := by
  rw [pack_step l (List.length_pos_iff.1 h), List.take_of_length_le h8, List.drop_of_length_le h8, pack_nil]

set_option maxRecDepth 100000 in
theorem pack_cons8 (a b : List Nat) (h : a.length = 8) : pack (a ++ b) = UInt8.ofNat (val a) :: pack b := by
  rw [pack_step (a ++ b) (by intro e; have := congrArg List.length e; rw [List.length_append, List.length_nil] at this; omega), List.take_append_of_le_length (by omega), List.take_of_length_le (by omega), List.drop_append_of_le_length (by omega), List.drop_of_length_le (by omega)]
  simp [h]

set_option maxRecDepth 100000 in
theorem pack_append (k : Nat) : ∀ a b : List Nat, a.length = 8 * k → pack (a ++ b) = pack a ++ pack b := by
  induction k with
  | zero =>
    intro a b h
    have : a = [] := List.eq_nil_of_length_eq_zero (by omega)
    subst this
    rfl
  | succ k ih =>
    intro a b h
    have e : a = a.take 8 ++ a.drop 8 := (List.take_append_drop 8 a).symm
    have h1 : (a.take 8).length = 8 := by simp; omega
    have h2 : (a.drop 8).length = 8 * k := by simp; omega
    rw [e, List.append_assoc, pack_cons8 _ _ h1, pack_cons8 _ _ h1, ih _ _ h2, List.cons_append]

set_option maxRecDepth 100000 in
theorem pack_length (l : List Nat) : (pack l).length = (l.length + 7) / 8 := by
  have H : ∀ (n : Nat) (l : List Nat), l.length ≤ n → (pack l).length = (l.length + 7) / 8 := by
    intro n
    induction n with
    | zero =>
      intro l h
      have : l = [] := List.eq_nil_of_length_eq_zero (by omega)
      subst this; rfl
    | succ n ih =>
      intro l h
      by_cases e : l = []
      · subst e; rfl
      · have hp : 0 < l.length := List.length_pos_iff.2 e
        rw [pack_step l e, List.length_cons, ih _ (by simp; omega)]
        simp; omega
  exact H l.length l (Nat.le_refl _)

set_option maxRecDepth 100000 in
/-- A row's last, unfilled byte: the full ones, and what is left. -/
theorem pack_split (l : List Nat) : pack l = pack (l.take (8 * (l.length / 8))) ++ pack (l.drop (8 * (l.length / 8))) := by
  conv => lhs; rw [← List.take_append_drop (8 * (l.length / 8)) l]
  exact pack_append (l.length / 8) _ _ (by simp; omega)

theorem or_shift (a b s : Nat) (h : b < 2 ^ s) : (a * 2 ^ s) ||| b = a * 2 ^ s + b := by
  rw [Nat.mul_comm, Nat.two_pow_add_eq_or_of_lt h]

set_option maxRecDepth 100000 in
/-- More bits, no more than the last byte has room for, begun anew where it is full: the byte that they go into. -/
theorem pack_more (l m : List Nat) (hm : 0 < m.length) (hr : l.length % 8 + m.length ≤ 8) (hb : Bit01 m) :
    pack (l ++ m) = pack (l.take (8 * (l.length / 8))) ++ [UInt8.ofNat ((val (l.drop (8 * (l.length / 8))) * 2 ^ (8 - l.length % 8)) ||| (val m * 2 ^ (8 - l.length % 8 - m.length)))] := by
  have e : l ++ m = l.take (8 * (l.length / 8)) ++ (l.drop (8 * (l.length / 8)) ++ m) := by rw [← List.append_assoc, List.take_append_drop]
  have hl : (l.drop (8 * (l.length / 8)) ++ m).length = l.length % 8 + m.length := by simp; omega
  rw [e, pack_append (l.length / 8) _ _ (by simp; omega), pack_short (l.drop (8 * (l.length / 8)) ++ m) (by omega) (by omega), val_append, hl]
  congr 3
  have hv := val_lt m hb
  generalize val (List.drop (8 * (l.length / 8)) l) = R
  generalize val m = M at *
  generalize hr' : l.length % 8 = r at *
  generalize m.length = k at *
  have e1 : 8 - r = k + (8 - r - k) := by omega
  have hlt : M * 2 ^ (8 - r - k) < 2 ^ (8 - r) := by
    conv => rhs; rw [e1, Nat.pow_add]
    exact Nat.mul_lt_mul_of_pos_right hv (Nat.two_pow_pos _)
  rw [or_shift _ _ _ hlt, Nat.add_mul]
  conv => rhs; lhs; rw [e1, Nat.pow_add]
  rw [show 8 - (r + k) = 8 - r - k by omega, Nat.mul_assoc]

/-- A text's bits. -/
def bitsB (l : List UInt8) : List Nat := l.flatMap fun c => bitsN c.toNat 8

theorem bitsB_nil : bitsB [] = [] := rfl
theorem bitsB_cons (c : UInt8) (l : List UInt8) : bitsB (c :: l) = bitsN c.toNat 8 ++ bitsB l := rfl
set_option maxRecDepth 100000 in
theorem bitsB_append (a b : List UInt8) : bitsB (a ++ b) = bitsB a ++ bitsB b := by simp [bitsB]
theorem bitsB_length (l : List UInt8) : (bitsB l).length = 8 * l.length := by
  induction l with
  | nil => rfl
  | cons c l ih => rw [bitsB_cons, List.length_append, bitsN_length, ih, List.length_cons]; omega
set_option maxRecDepth 100000 in
theorem bit01_bitsB (l : List UInt8) : Bit01 (bitsB l) := by
  induction l with
  | nil => intro b h; simp [bitsB] at h
  | cons c l ih => rw [bitsB_cons]; exact (bit01_bitsN _ _).append ih

set_option maxRecDepth 100000 in
theorem bitsN_get (n : Nat) : ∀ v i, i < n → (bitsN v n)[i]? = some (v / 2 ^ (n - 1 - i) % 2) := by
  induction n with
  | zero => intro v i h; omega
  | succ n ih =>
    intro v i h
    rw [bitsN]
    by_cases h1 : i < n
    · rw [List.getElem?_append_left (by rw [bitsN_length]; exact h1), ih _ _ h1, Nat.div_div_eq_div_mul, show n + 1 - 1 - i = (n - 1 - i) + 1 by omega, Nat.pow_succ, Nat.mul_comm]
    · obtain rfl : i = n := by omega
      rw [List.getElem?_append_right (by rw [bitsN_length]; exact Nat.le_refl _), bitsN_length]
      simp

set_option maxRecDepth 100000 in
theorem bitsB_get (l : List UInt8) : ∀ i, i < 8 * l.length → (bitsB l)[i]? = some ((l.getD (i / 8) 0).toNat / 2 ^ (7 - i % 8) % 2) := by
  induction l with
  | nil => intro i h; simp at h
  | cons c l ih =>
    intro i h
    rw [bitsB_cons]
    by_cases h8 : i < 8
    · rw [List.getElem?_append_left (by rw [bitsN_length]; exact h8), bitsN_get _ _ _ h8, show i / 8 = 0 by omega, show i % 8 = i by omega]
      rfl
    · rw [List.getElem?_append_right (by rw [bitsN_length]; omega), bitsN_length, ih (i - 8) (by rw [List.length_cons] at h; omega), show i / 8 = (i - 8) / 8 + 1 by omega, show (i - 8) % 8 = i % 8 by omega]
      rfl

theorem bitsN_zero (n : Nat) : bitsN 0 n = List.replicate n 0 := by
  induction n with
  | zero => rfl
  | succ n ih => rw [bitsN, Nat.zero_div, ih, Nat.zero_mod, List.replicate_succ']

theorem bitsN_shift (v k n : Nat) : bitsN (v * 2 ^ k) (n + k) = bitsN v n ++ List.replicate k 0 := by
  rw [bitsN_add, Nat.mul_div_cancel _ (Nat.two_pow_pos k)]
  congr 1
  have : ∀ (k v : Nat), bitsN (v * 2 ^ k) k = List.replicate k 0 := by
    intro k
    induction k with
    | zero => intro v; rfl
    | succ k ih =>
      intro v
      rw [bitsN, Nat.pow_succ, ← Nat.mul_assoc, Nat.mul_div_cancel _ (by omega), ih, Nat.mul_mod_left, List.replicate_succ']
  exact this k v

set_option maxRecDepth 100000 in
/-- What bits are read out of a row's bytes: the row, filled up with 0 bits. -/
theorem bitsB_pack (L : List Nat) : Bit01 L → bitsB (pack L) = L ++ List.replicate (8 * ((L.length + 7) / 8) - L.length) 0 := by
  have H : ∀ (n : Nat) (L : List Nat), L.length ≤ n → Bit01 L → bitsB (pack L) = L ++ List.replicate (8 * ((L.length + 7) / 8) - L.length) 0 := by
    intro n
    induction n with
    | zero =>
      intro L h _
      have : L = [] := List.eq_nil_of_length_eq_zero (by omega)
      subst this; rfl
    | succ n ih =>
      intro L h hb
      by_cases h8 : L.length ≤ 8
      · by_cases h0 : L.length = 0
        · have : L = [] := List.eq_nil_of_length_eq_zero h0
          subst this; rfl
        · have hv := val_lt L hb
          have hlt : val L * 2 ^ (8 - L.length) < 256 := by
            have h2 : (256 : Nat) = 2 ^ L.length * 2 ^ (8 - L.length) := by rw [← Nat.pow_add, show L.length + (8 - L.length) = 8 by omega]
            rw [h2]
            exact Nat.mul_lt_mul_of_pos_right hv (Nat.two_pow_pos _)
          rw [pack_short L (by omega) h8, bitsB_cons, bitsB_nil, List.append_nil, UInt8.toNat_ofNat', Nat.mod_eq_of_lt hlt]
          have h3 := bitsN_shift (val L) (8 - L.length) L.length
          rw [show L.length + (8 - L.length) = 8 by omega, bitsN_val L hb] at h3
          rw [h3]
          congr 2
          omega
      · have e : L = L.take 8 ++ L.drop 8 := (List.take_append_drop 8 L).symm
        have h1 : (L.take 8).length = 8 := by simp; omega
        have hb1 : Bit01 (L.take 8) := hb.take 8
        have hv := val_lt _ hb1
        rw [h1] at hv
        have h3 := bitsN_val _ hb1
        rw [h1] at h3
        conv => lhs; rw [e]
        rw [pack_cons8 _ _ h1, bitsB_cons, UInt8.toNat_ofNat', Nat.mod_eq_of_lt hv, h3, ih _ (by simp; omega) (hb.drop 8), ← List.append_assoc, ← e, List.length_drop]
        congr 2
        omega
  exact H L.length L (Nat.le_refl _)

end Go.Proofs.YtmgmgmbpldboiaaGreat
namespace Go.Proofs.YtmgmgmbpldboiaaGreat

/-- What stands at a place is moved to the front. -/
def moveF (l : List Nat) (k : Nat) : List Nat := l.getD k 0 :: (l.take k ++ l.drop (k + 1))
/-- A number's place. -/
def placeOf : List Nat → Nat → Nat
  | [], _ => 0
  | y :: l, x => if y = x then 0 else placeOf l x + 1
set_option maxRecDepth 100000 in
theorem place_lt : ∀ (l : List Nat) (x : Nat), x ∈ l → placeOf l x < l.length ∧ l.getD (placeOf l x) 0 = x
  | [], x, h => by cases h
  | y :: l, x, h => by
    by_cases e : y = x
    · subst e
      simp [placeOf]
    · have hx : x ∈ l := by
        rcases List.mem_cons.1 h with h | h
        · exact absurd h.symm e
        · exact h
      have ih := place_lt l x hx
      rw [placeOf, if_neg e, List.length_cons]
      exact ⟨by omega, ih.2⟩
theorem moveF_length {l : List Nat} {k : Nat} (hk : k < l.length) : (moveF l k).length = l.length := by
  unfold moveF
  rw [List.length_cons, List.length_append, List.length_take, List.length_drop]
  omega
/-- The first T ones are all those below T. -/
def Low (T : Nat) (l : List Nat) : Prop := T ≤ l.length ∧ ∀ x, x < T → placeOf l x < T ∧ x ∈ l
set_option maxRecDepth 100000 in
theorem place_take : ∀ (l : List Nat) (T x : Nat), x ∈ l.take T → placeOf l x < T
  | [], T, x, h => by simp at h
  | y :: l, 0, x, h => by simp at h
  | y :: l, T + 1, x, h => by
    by_cases e : y = x
    · rw [placeOf, if_pos e]
      omega
    · rw [List.take_succ_cons] at h
      rcases List.mem_cons.1 h with h | h
      · exact absurd h.symm e
      · rw [placeOf, if_neg e]
        have := place_take l T x h
        omega
set_option maxRecDepth 100000 in
theorem take_place : ∀ (l : List Nat) (T x : Nat), x ∈ l → placeOf l x < T → x ∈ l.take T
  | [], T, x, h, _ => by cases h
  | y :: l, 0, x, _, h => by omega
  | y :: l, T + 1, x, h, hp => by
    rw [List.take_succ_cons]
    by_cases e : y = x
    · rw [e]
      exact List.mem_cons_self ..
    · rcases List.mem_cons.1 h with h | h
      · exact absurd h.symm e
      · rw [placeOf, if_neg e] at hp
        exact List.mem_cons_of_mem _ (take_place l T x h (by omega))
set_option maxRecDepth 100000 in
theorem Low.move {T : Nat} {l : List Nat} (h : Low T l) {x : Nat} (hx : x < T) : Low T (moveF l (placeOf l x)) := by
  obtain ⟨h1, h2⟩ := h
  have hp := place_lt l x (h2 x hx).2
  have hpT := (h2 x hx).1
  refine ⟨by rw [moveF_length hp.1]; exact h1, fun y hy => ?_⟩
  have hmem : y ∈ (moveF l (placeOf l x)).take T := by
    unfold moveF
    rw [hp.2]
    obtain ⟨S, rfl⟩ : ∃ S, T = S + 1 := ⟨T - 1, by omega⟩
    rw [List.take_succ_cons]
    by_cases e : y = x
    · rw [e]
      exact List.mem_cons_self ..
    · refine List.mem_cons_of_mem _ ?_
      have hy2 := take_place l (S + 1) y (h2 y hy).2 (h2 y hy).1
      rw [List.take_append, List.length_take, Nat.min_eq_left (by omega), List.take_take, Nat.min_eq_right (by omega)]
      have e2 : l.take (S + 1) = l.take (placeOf l x) ++ (x :: (l.drop (placeOf l x + 1)).take (S - placeOf l x)) := by
        have h3 : S + 1 = placeOf l x + (1 + (S - placeOf l x)) := by omega
        conv => lhs; rw [h3, List.take_add]
        congr 1
        rw [List.drop_eq_getElem_cons hp.1, Nat.add_comm 1, List.take_succ_cons]
        congr 1
        have := hp.2
        rw [List.getD_eq_getElem?_getD, List.getElem?_eq_getElem hp.1] at this
        exact this
      rw [e2] at hy2
      rcases List.mem_append.1 hy2 with h3 | h3
      · exact List.mem_append_left _ h3
      · rcases List.mem_cons.1 h3 with h3 | h3
        · exact absurd h3 e
        · exact List.mem_append_right _ h3
  exact ⟨place_take _ _ _ hmem, List.mem_of_mem_take hmem⟩
set_option maxRecDepth 100000 in
theorem low_six {T : Nat} (h : T ≤ 6) : Low T [0, 1, 2, 3, 4, 5] := by
  refine ⟨h, fun x hx => ?_⟩
  have : x = 0 ∨ x = 1 ∨ x = 2 ∨ x = 3 ∨ x = 4 ∨ x = 5 := by omega
  rcases this with rfl | rfl | rfl | rfl | rfl | rfl <;> exact ⟨by simp [placeOf]; try omega, by simp⟩

/-- Picks as bits. -/
def putPicks : List Nat → List Nat → List Nat
  | _, [] => []
  | o, x :: r => List.replicate (placeOf o x) 1 ++ 0 :: putPicks (moveF o (placeOf o x)) r
/-- A place out of bits. -/
inductive Pl where
  | hit (n : Nat)
  | short
  | bad
def placeL : List Nat → Nat → Nat → Pl
  | [], _, _ => .short
  | b :: bs, n, most => if b = 0 then .hit n else if n + 1 = most then .bad else placeL bs (n + 1) most
/-- So many picks out of bits, from a place on. -/
def takePicks (bits : List Nat) (T : Nat) : Nat → List Nat → Nat → List Nat → List Nat × Nat × Nat
  | 0, _, p, out => (out, p, 0)
  | k + 1, o, p, out => match placeL (bits.drop p) 0 T with
    | .hit n => takePicks bits T k (moveF o n) (p + n + 1) (out ++ [o.getD n 0])
    | .short => ([], 0, 10)
    | .bad => ([], 0, 110)
theorem placeL_hit : ∀ (k n most : Nat) (rest : List Nat), n + k < most → placeL (List.replicate k 1 ++ 0 :: rest) n most = .hit (n + k)
  | 0, n, most, rest, h => by
    rw [List.replicate_zero, List.nil_append, placeL, if_pos rfl]
    rfl
  | k + 1, n, most, rest, h => by
    rw [List.replicate_succ, List.cons_append, placeL, if_neg (by omega), if_neg (by omega), placeL_hit k (n + 1) most rest (by omega)]
    congr 1
    omega
set_option maxRecDepth 100000 in
/-- Picks that were put are read again. -/
theorem picks_back (T : Nat) : ∀ (picks o pre rest out : List Nat), Low T o → (∀ x ∈ picks, x < T) →
    takePicks (pre ++ putPicks o picks ++ rest) T picks.length o pre.length out = (out ++ picks, pre.length + (putPicks o picks).length, 0)
  | [], o, pre, rest, out, _, _ => by simp [takePicks, putPicks]
  | x :: picks, o, pre, rest, out, ho, hx => by
    have hxT := hx x (List.mem_cons_self ..)
    have hp := ho.2 x hxT
    have hl := place_lt o x hp.2
    obtain ⟨k, hk⟩ : ∃ k, k = placeOf o x := ⟨_, rfl⟩
    have e : pre ++ putPicks o (x :: picks) ++ rest = (pre ++ (List.replicate k 1 ++ [0])) ++ putPicks (moveF o k) picks ++ rest := by
      rw [putPicks, ← hk]
      simp
    have hd : (pre ++ putPicks o (x :: picks) ++ rest).drop pre.length = List.replicate k 1 ++ 0 :: (putPicks (moveF o k) picks ++ rest) := by
      rw [e]
      simp
    rw [List.length_cons, takePicks, hd, placeL_hit k 0 T _ (by omega)]
    show takePicks _ T picks.length (moveF o (0 + k)) (pre.length + (0 + k) + 1) (out ++ [o.getD (0 + k) 0]) = _
    rw [Nat.zero_add, e]
    have hlen : pre.length + k + 1 = (pre ++ (List.replicate k 1 ++ [0])).length := by
      simp only [List.length_append, List.length_replicate, List.length_cons, List.length_nil]
      omega
    rw [hlen, picks_back T picks (moveF o k) _ rest _ (by rw [hk]; exact ho.move hxT) (fun y hy => hx y (List.mem_cons_of_mem _ hy)), hk, hl.2, ← hk]
    rw [putPicks, ← hk]
    simp only [List.length_append, List.length_replicate, List.length_cons, List.length_nil, List.append_assoc, List.cons_append, List.nil_append, Prod.mk.injEq, true_and, and_true]
    omega

end Go.Proofs.YtmgmgmbpldboiaaGreat
namespace Go.Proofs.YtmgmgmbpldboiaaGreat
open Go.RowKit

/-- Block g holds just the cells cs, none of them frozen. -/
def Blk (w : World) (g : Nat) (t : TypeId) (cs : Array Value) : Prop := w.heap[g]? = some (.cells cs t (0, 0))

theorem blk_lt {w : World} {g : Nat} {t : TypeId} {cs : Array Value} (h : Blk w g t cs) : g < w.heap.size := (Array.getElem?_eq_some_iff.1 h).1
theorem blk_cell {w : World} {g : Nat} {t : TypeId} {cs : Array Value} (h : Blk w g t cs) (i : Nat) : w.cell? ⟨g, i, none⟩ = cs[i]? := cell_of_row w g i cs t (0, 0) h
theorem blk_frozen {w : World} {g : Nat} {t : TypeId} {cs : Array Value} (h : Blk w g t cs) (i : Nat) : w.frozen? ⟨g, i, none⟩ = false := frozen_of_row w g i cs t h
theorem blk_new (w : World) (t : TypeId) (cs : Array Value) : Blk (w.alloc (.cells cs t)) w.heap.size t cs := heap_alloc_new w _
theorem blk_set {w : World} {g : Nat} {t : TypeId} {cs : Array Value} (h : Blk w g t cs) (i : Nat) (u : Value) : Blk (w.setCell ⟨g, i, none⟩ u) g t (cs.setIfInBounds i u) := heap_setCell_same w g i cs t u h

/-- From w to w': below B, and outside the blocks ps and the blocks of the types ts, nothing has turned. -/
structure Step (B : Nat) (ps : List Nat) (ts : List TypeId) (w w' : World) : Prop where
  below : Below B w w'
  keep : ∀ k cs t fr, w.heap[k]? = some (.cells cs t fr) → k ∉ ps → t ∉ ts → w'.heap[k]? = some (.cells cs t fr)

section
variable {B : Nat} {ps : List Nat} {ts : List TypeId} {w w' w'' : World}
theorem Step.refl (B : Nat) (ps : List Nat) (ts : List TypeId) (w : World) : Step B ps ts w w := ⟨Below.refl _ _, fun _ _ _ _ h _ _ => h⟩
theorem Step.trans (h : Step B ps ts w w') (k : Step B ps ts w' w'') : Step B ps ts w w'' :=
  ⟨h.below.trans k.below, fun i cs t fr hh hp ht => k.keep i cs t fr (h.keep i cs t fr hh hp ht) hp ht⟩
theorem Step.mono {B' : Nat} {ps' : List Nat} {ts' : List TypeId} (h : Step B ps ts w w') (hB : B' ≤ B) (hp : ∀ k ∈ ps, k ∈ ps') (ht : ∀ t ∈ ts, t ∈ ts') : Step B' ps' ts' w w' :=
  ⟨h.below.mono hB, fun i cs t fr hh hp' ht' => h.keep i cs t fr hh (fun x => hp' (hp _ x)) (fun x => ht' (ht _ x))⟩
/-- A second step that writes besides only what is new since the first one began. -/
theorem Step.after {B' : Nat} {ps' : List Nat} {ts' : List TypeId} (h : Step B ps ts w w') (k : Step B' ps' ts' w' w'') (hB : B ≤ B') (hp : ∀ i ∈ ps', i ∈ ps ∨ w.heap.size ≤ i) (ht : ∀ t ∈ ts', t ∈ ts) : Step B ps ts w w'' :=
  ⟨h.below.trans (k.below.mono hB), fun i cs t fr hh hi ht' => k.keep i cs t fr (h.keep i cs t fr hh hi ht')
    (fun e => (hp i e).elim hi (fun g => by have := (Array.getElem?_eq_some_iff.1 hh).1; omega)) (fun e => ht' (ht t e))⟩
theorem Step.size (h : Step B ps ts w w') : w.heap.size ≤ w'.heap.size := h.below.size
theorem Step.drew (h : Step B ps ts w w') : Step B ps ts w w'.drew := ⟨h.below.drew, h.keep⟩
theorem Step.drewN (h : Step B ps ts w w') (n : Nat) : Step B ps ts w (w'.drewN n) := ⟨⟨h.below.os, h.below.tape, h.below.output, h.below.size, h.below.block⟩, h.keep⟩
theorem Step.alloc (h : Step B ps ts w w') (hB : B ≤ w'.heap.size) (o : Obj) : Step B ps ts w (w'.alloc o) :=
  ⟨h.below.alloc hB o, fun i cs t fr hh hp ht => by
    have := h.keep i cs t fr hh hp ht
    exact (Below.heap_alloc w' o i (Array.getElem?_eq_some_iff.1 this).1).trans this⟩
theorem Step.set (h : Step B ps ts w w') {p : Addr} (hB : B ≤ p.block) (hp : p.block ∈ ps) (u : Value) : Step B ps ts w (w'.setCell p u) :=
  ⟨h.below.setCell hB u, fun i cs t fr hh hi ht => by
    rw [Below.heap_setCell w' p u i (fun e => hi (e ▸ hp))]
    exact h.keep i cs t fr hh hi ht⟩
/-- A store into a block of a type that may be written. -/
theorem Step.setT (h : Step B ps ts w w') {p : Addr} (hB : B ≤ p.block) {cs : Array Value} {t : TypeId} {fr : Nat × Nat} (hb : w'.heap[p.block]? = some (.cells cs t fr)) (hp : t ∈ ts) (u : Value) : Step B ps ts w (w'.setCell p u) :=
  ⟨h.below.setCell hB u, fun i cs' t' fr' hh hi ht => by
    have hk := h.keep i cs' t' fr' hh hi ht
    by_cases e : i = p.block
    · subst e
      rw [hb] at hk
      injection hk with hk
      injection hk with _ h2
      exact absurd (h2 ▸ hp) ht
    · rw [Below.heap_setCell w' p u i e]
      exact hk⟩
/-- An append to a row of a type that may be written. -/
theorem Step.grown (h : Step B ps ts w w') {row : Option Nat} (hg : w'.grownBy w'' row) (hB : B ≤ w'.heap.size)
    (hr : ∀ k, row = some k → B ≤ k ∧ ∃ cs t fr, w'.heap[k]? = some (.cells cs t fr) ∧ t ∈ ts) : Step B ps ts w w'' :=
  ⟨h.below.grown hg hB (fun k hk => (hr k hk).1), fun i cs t fr hh hi ht => by
    have hk := h.keep i cs t fr hh hi ht
    rw [hg.block i (Array.getElem?_eq_some_iff.1 hk).1 ?_]
    · exact hk
    · intro e
      obtain ⟨_, cs', t', fr', hb, ht'⟩ := hr i e.symm
      rw [hb] at hk
      injection hk with hk
      injection hk with _ h2
      exact ht (h2 ▸ ht')⟩
theorem Step.blk (h : Step B ps ts w w') {g : Nat} {t : TypeId} {cs : Array Value} (hb : Blk w g t cs) (hp : g ∉ ps) (ht : t ∉ ts) : Blk w' g t cs := h.keep _ _ _ _ hb hp ht
set_option maxRecDepth 100000 in
theorem Step.row (h : Step B ps ts w w') {base : Nat} {t : TypeId} {size n : Nat} {v : Value} {xs : List Value} (hr : w.ownsRow base t size v n xs) (hp : ∀ k, v.ownBlock = some k → k ∉ ps) (ht : t ∉ ts) : w'.ownsRow base t size v n xs := by
  refine ⟨hr.1, ?_⟩
  rcases hr.2 with h1 | ⟨g, cap, cur, hv, hg, hh, rest⟩
  · exact .inl h1
  · exact .inr ⟨g, cap, cur, hv, hg, h.keep _ _ _ _ hh (hp g (by rw [hv]; rfl)) ht, rest⟩
end

set_option maxRecDepth 100000 in
theorem row_blk {w : World} {base : Nat} {e : TypeId} {size n : Nat} {v : Value} {xs : List Value} (h : w.ownsRow base e size v n xs) :
    ∀ k, v.ownBlock = some k → base ≤ k ∧ ∃ cs t fr, w.heap[k]? = some (.cells cs t fr) ∧ t ∈ [e] := by
  intro k hk
  rcases h.2 with ⟨rfl, _⟩ | ⟨g, cap, cur, rfl, hb, hg, _⟩
  · simp [Value.ownBlock] at hk
  · simp [Value.ownBlock] at hk
    subst hk
    exact ⟨hb, cur, e, (0, 0), hg, by simp⟩

set_option maxRecDepth 100000 in
/-- Two rows, or a row and a block, of unlike types lie apart. -/
theorem row_ne {w : World} {base : Nat} {e t : TypeId} {size n g : Nat} {v : Value} {xs : List Value} {cs : Array Value} (h : w.ownsRow base e size v n xs) (hg : Blk w g t cs) (hne : e ≠ t) : ∀ k, v.ownBlock = some k → k ≠ g := by
  intro k hk he
  obtain ⟨_, cs', t', fr', hb, ht⟩ := row_blk h k hk
  subst he
  unfold Blk at hg
  rw [hg] at hb
  injection hb with hb
  injection hb with _ h2
  simp at ht
  exact hne (by rw [← ht, ← h2])
/-- A byte as a cell. -/
def bv (c : UInt8) : Value := .int .u8 c.toNat

theorem Tryz.info5 : (Tryz.prog.info? 5).map (fun i => (i.zero, i.size, i.bytes)) = some (some (.int .u8 0), 1, 1) := by kernel_rfl
theorem Tryz.info3 : (Tryz.prog.info? 3).map (fun i => (i.zero, i.size, i.bytes)) = some (some (.int .i64 0), 1, 8) := by kernel_rfl

theorem step_of_below {w w' : World} (h : Below w.heap.size w w') : Step w.heap.size [] [] w w' :=
  ⟨h, fun k _ _ _ hh _ _ => (h.block k (Array.getElem?_eq_some_iff.1 hh).1).trans hh⟩

theorem below_drewN {B : Nat} {a w : World} (h : Below B a w) (k : Nat) : Below B a (w.drewN k) := ⟨h.os, h.tape, h.output, h.size, h.block⟩

set_option maxRecDepth 100000 in
theorem two_new (w : World) (a b : Value) (t : TypeId) : ∀ (j : Nat) (u : Value), [a, b][j]? = some u → (w.alloc (.cells #[a, b] t)).cell? ((⟨w.heap.size, 0, none⟩ : Addr).add j) = some u := by
  intro j u hu
  rw [Addr.add_lit, blk_cell (blk_new w t #[a, b])]
  simpa using hu

set_option maxRecDepth 100000 in
theorem own_slice {w : World} {B : Nat} {e : TypeId} {size n : Nat} {v : Value} {xs : List Value} (h : w.ownsRow B e size v n xs) : ∃ A cap, v = .slice A n cap ∧ n ≤ cap ∧ cap ≤ maxLen ∧ (0 < n → ∃ g, A = some ⟨g, 0, none⟩) := by
  rcases h.2 with ⟨rfl, rfl⟩ | ⟨g, cap, cur, rfl, _, _, hn, hm, _⟩
  · exact ⟨none, 0, rfl, Nat.le_refl _, by unfold maxLen; omega, fun h => by omega⟩
  · exact ⟨some ⟨g, 0, none⟩, cap, rfl, hn, hm, fun _ => ⟨g, rfl⟩⟩

end Go.Proofs.YtmgmgmbpldboiaaGreat
namespace Go.Proofs.YtmgmgmbpldboiaaGreat
open Go.RowKit

def iv (b : Nat) : Value := .int .i64 b

/-- The slice '.slice A n c' of ints holds the numbers L. -/
def IntsIn (w : World) (A : Option Addr) (n : Nat) (L : List Nat) : Prop :=
  L.length = n ∧ (0 < n → ∃ b off, A = some ⟨b, off, none⟩ ∧ ∀ i, i < n → w.cell? ⟨b, off + i, none⟩ = some (.int .i64 (L.getD i 0)))

set_option maxRecDepth 100000 in
theorem IntsIn.nil {w : World} {A : Option Addr} {n k a : Nat} {L : List Nat} (h : IntsIn w A n L) (hk : k = 0) (_hak : a + k ≤ n) : IntsIn w A k ((L.drop a).take k) := by
  have := h.1
  subst hk
  exact ⟨by simp, fun h => by omega⟩

theorem IntsIn.cut {w : World} {A : Option Addr} {n k a : Nat} {L : List Nat} (h : IntsIn w A n L) (hak : a + k ≤ n) : IntsIn w (Option.map (fun x => x.add a) A) k ((L.drop a).take k) := by
  refine ⟨by rw [List.length_take, List.length_drop, h.1]; omega, fun hk => ?_⟩
  obtain ⟨b, off, rfl, hc⟩ := h.2 (by omega)
  refine ⟨b, off + a, by rw [Option.map_some, Addr.add_lit], fun i hi => ?_⟩
  rw [Nat.add_assoc, hc (a + i) (by omega), List.getD_eq_getElem?_getD, List.getD_eq_getElem?_getD, List.getElem?_take, if_pos hi, List.getElem?_drop]

theorem IntsIn.front {w : World} {A : Option Addr} {n : Nat} {L : List Nat} (h : IntsIn w A n L) (k : Nat) (hk : k ≤ n) : IntsIn w A k (L.take k) := by
  refine ⟨by rw [List.length_take, h.1]; omega, fun h0 => ?_⟩
  obtain ⟨b, off, hA, hc⟩ := h.2 (by omega)
  refine ⟨b, off, hA, fun i hi => ?_⟩
  rw [hc i (by omega), List.getD_eq_getElem?_getD, List.getD_eq_getElem?_getD, List.getElem?_take, if_pos hi]

set_option maxRecDepth 100000 in
theorem ints_of_own {w : World} {B n cap : Nat} {A : Option Addr} {L : List Nat} (h : w.ownsRow B 3 1 (.slice A n cap) n (L.map iv)) : IntsIn w A n L := by
  have hl := h.1
  rw [List.length_map, Nat.mul_one] at hl
  refine ⟨hl, fun hn => ?_⟩
  obtain ⟨A', cap', hv, _, _, hg⟩ := own_slice h
  simp only [Value.slice.injEq] at hv
  obtain ⟨rfl, _, rfl⟩ := hv
  obtain ⟨g, rfl⟩ := hg hn
  refine ⟨g, 0, rfl, fun i hi => ?_⟩
  rw [Nat.zero_add, h.cellAt i (by omega), List.getElem?_map, List.getD_eq_getElem?_getD, List.getElem?_eq_getElem (by omega)]
  rfl

set_option maxRecDepth 100000 in
theorem append_ints (w : World) (B : Nat) (v : Value) (n : Nat) (xs : List Value) (hown : w.ownsRow B 3 1 v n xs) (A : Option Addr) (k c : Nat) (L : List Nat) (hi : IntsIn w A k L) (hnk : n + k ≤ 1000000000) (hB : B ≤ w.heap.size) :
    ∃ v' w', (Builtin.append_ #[22, 22] 22 #[v, .slice A k c]).run Tryz.prog w = .ok v' w' ∧ w'.ownsRow B 3 1 v' (n + k) (xs ++ L.map iv) ∧ w.grownBy w' v.ownBlock := by
  obtain ⟨i3, h3, hz0, hz1, hz2⟩ := info_parts Tryz.info3
  have hl := hi.1
  rcases A with _ | ad
  · have hk : k = 0 := by
      rcases Nat.eq_zero_or_pos k with h0 | h0
      · exact h0
      · obtain ⟨b, off, h, _⟩ := hi.2 h0
        cases h
    subst hk
    have hL : L = [] := List.eq_nil_of_length_eq_zero hl
    subst hL
    refine ⟨v, w, ?_, by simpa using hown, ⟨rfl, rfl, rfl, Nat.le_refl _, fun _ _ _ => rfl⟩⟩
    rcases hown.2 with ⟨rfl, rfl⟩ | ⟨g, cap, cur, rfl, _, _, hnc, _⟩
    · simp [Builtin.append_, run_underlying Tryz.underlying22, sizeOf, typeInfo, h3, Builtin.lenOf, Builtin.firstCells]
    · simp [Builtin.append_, run_underlying Tryz.underlying22, sizeOf, typeInfo, h3, Builtin.lenOf, Builtin.firstCells, hnc, storeCells]
  · have hnews : ∀ j u, (L.map iv)[j]? = some u → w.cell? (ad.add j) = some u := by
      intro j u hu
      have hjk : j < k := by
        have := (List.getElem?_eq_some_iff.1 hu).1
        rw [List.length_map] at this
        omega
      obtain ⟨b, off, he, hc⟩ := hi.2 (by omega)
      injection he with he
      subst he
      rw [Addr.add_lit, hc j hjk, ← hu, List.getElem?_map, List.getD_eq_getElem?_getD, List.getElem?_eq_getElem (by omega)]
      rfl
    obtain ⟨v', w', h1, h2, h4, _⟩ := run_append_own (P := Tryz.prog) w B 22 22 3 i3 (.int .i64 0) 1 8 Tryz.underlying22 h3 hz0 hz1 hz2 rfl (by decide) v n xs hown ad k c (L.map iv) (by rw [List.length_map, hl, Nat.mul_one]) hnews
      (fun u hu => by obtain ⟨q, _, rfl⟩ := List.mem_map.1 hu; rfl) (by unfold maxLen; omega) (by omega) hB
    exact ⟨v', w', h1, h2, h4⟩

set_option maxRecDepth 100000 in
/-- An append whose run is known, at a step of a statement whose order is open. -/
theorem step_append_run {ops : Array Oper} {o : Oper} {a : Act} {w w' : World} {K : Act → World → Prop} {Q : Exit → Act → World → Prop} {E : Prop} {v' : Value} (hgd : o.guard = none) (s x : Operand) (t : TypeId)
    (ho : o.op = .call { callee := .builtin .append, args := #[s, x], argTypes := #[t, t] }) (vs vx : Value) (hs : a.eval s = vs) (hx : a.eval x = vx)
    (hrun : (Builtin.append_ #[t, t] o.type #[vs, vx]).run Tryz.prog w = .ok v' w') (h : K (a.put o.dst v') w') :
    if Region.wanted o (yielded ops a.tmps) = true then Oper.wp Tryz.prog o a w K Q else E := by
  have hw : Region.wanted o (yielded ops a.tmps) = true := by simp [Region.wanted, hgd]
  rw [if_pos hw]
  unfold Oper.wp execOp
  simp only [ho, resolve, invoke, builtin, Sem.run_bind, Sem.run_pure, Result.andThen_ok, List.map_toArray, List.map_cons, List.map_nil, hs, hx, hrun]
  exact h

set_option maxRecDepth 100000 in
theorem bit_lt (l : List Nat) (i : Nat) (hb : Bit01 l) : l.getD i 0 < 2 := by
  rw [List.getD_eq_getElem?_getD]
  rcases h : l[i]? with _ | b
  · simp
  · exact hb b (List.mem_of_getElem? h)

theorem bit_and (c e : Nat) (hc : c < 256) : bits .and .i64 ((c : Int) / 2 ^ e) 1 = ((c / 2 ^ e % 2 : Nat) : Int) := by
  have h1 : ((c : Int) / 2 ^ e) = ((c / 2 ^ e : Nat) : Int) := by rw [Int.natCast_ediv, Int.natCast_pow]; rfl
  have hlt : c / 2 ^ e < 256 := Nat.lt_of_le_of_lt (Nat.div_le_self _ _) hc
  rw [h1]
  generalize c / 2 ^ e = d at *
  show IntKind.i64.wrap ((BitVec.ofInt 64 (d : Int) &&& BitVec.ofInt 64 1).toNat : Int) = _
  rw [BitVec.toNat_and, BitVec.ofInt_natCast, BitVec.toNat_ofNat, Nat.mod_eq_of_lt (show d < 2 ^ 64 by omega), show (BitVec.ofInt 64 1).toNat = 1 from rfl, nat_mask1, IntKind.wrap_i64]
  omega

end Go.Proofs.YtmgmgmbpldboiaaGreat
