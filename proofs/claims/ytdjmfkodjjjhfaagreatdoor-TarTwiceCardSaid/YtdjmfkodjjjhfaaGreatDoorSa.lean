/- Plain mathematics of bits: rows of bits as lists of numbers, packed into bytes. No conditions. -/
import Derived.Test.YtdjmfkodjjjhfaaGreatDoorRows
import Derived.WalkKit
import Derived.WalkLawsBesides
import Derived.WalkSpells
import Derived.Below
import Derived.Maps.AppendAt
import Derived.Deep.Draws
import Derived.LoopTactic
import Derived.Deep.LoopGhost
import Derived.Lib.Hide
import Derived.Outline
import Derived.RegionTactic
import Derived.BigRegion
import Derived.BigQuiet
import Derived.Deep.QuietTactic
import Derived.Deep.DeepFit
import Derived.OwnWalk
import Derived.Laws.AppendOwn
import Derived.IntWalk
import Derived.Deep.DeepCutAuto
import Derived.Deep.RegionHeld3
import Derived.StillTailTactics
import Derived.Laws.BitsAllLaws
import Derived.Laws.IdiomStrings
import Derived.Laws.BytesArg
import Derived.Laws.StructEq
import Derived.Deep.AppendLies
namespace Go.Proofs.YtdjmfkodjjjhfaaGreatDoor

/-- The n lowest bits of v, the highest first. -/
def bitsN (v : Nat) : Nat → List Nat
  | 0 => []
  | n + 1 => bitsN (v / 2) n ++ [v % 2]

/-- A row of bits as a number, the first one the highest. -/
def val (l : List Nat) : Nat := l.foldl (fun a b => 2 * a + b) 0

set_option maxRecDepth 100000 in
theorem bitsN_length (n : Nat) : ∀ v, (bitsN v n).length = n := by
  induction n with
  | zero => intro v; rfl
  | succ n ih => intro v; simp [bitsN, ih]

set_option maxRecDepth 100000 in
theorem bitsN_add (b : Nat) : ∀ v a, bitsN v (a + b) = bitsN (v / 2 ^ b) a ++ bitsN v b := by
  induction b with
  | zero => intro v a; simp [bitsN]
  | succ b ih =>
    intro v a
    show bitsN v (a + b + 1) = _
    rw [bitsN, ih, bitsN, ← List.append_assoc, Nat.div_div_eq_div_mul, Nat.pow_succ, Nat.mul_comm]

set_option maxRecDepth 100000 in
theorem val_snoc (l : List Nat) (b : Nat) : val (l ++ [b]) = 2 * val l + b := by simp [val]

theorem snoc_ind {p : List Nat → Prop} (h0 : p []) (h1 : ∀ m b, p m → p (m ++ [b])) : ∀ l, p l := by
  have H : ∀ r : List Nat, p r.reverse := by
    intro r
    induction r with
    | nil => exact h0
    | cons b r ih => rw [List.reverse_cons]; exact h1 _ _ ih
  intro l
  have := H l.reverse
  rwa [List.reverse_reverse] at this

set_option maxRecDepth 100000 in
theorem val_append (m : List Nat) : ∀ l, val (l ++ m) = val l * 2 ^ m.length + val m := by
  refine snoc_ind (p := fun m => ∀ l, val (l ++ m) = val l * 2 ^ m.length + val m) ?_ ?_ m
  · intro l; simp [val]
  · intro m b ih l
    rw [← List.append_assoc, val_snoc, ih, val_snoc]
    simp [Nat.pow_succ]
    rw [Nat.mul_add, ← Nat.mul_assoc, Nat.add_assoc]
    congr 1
    rw [Nat.mul_comm 2 (val l), Nat.mul_assoc, Nat.mul_comm 2]

set_option maxRecDepth 100000 in
theorem val_bitsN (n : Nat) : ∀ v, val (bitsN v n) = v % 2 ^ n := by
  induction n with
  | zero => intro v; simp [bitsN, val, Nat.mod_one]
  | succ n ih =>
    intro v
    rw [bitsN, val_snoc, ih, Nat.pow_succ, Nat.mul_comm (2 ^ n) 2, Nat.mod_mul]
    omega

def Bit01 (l : List Nat) : Prop := ∀ b ∈ l, b < 2

set_option maxRecDepth 100000 in
theorem bit01_bitsN (n : Nat) : ∀ v, Bit01 (bitsN v n) := by
  induction n with
  | zero => intro v b h; simp [bitsN] at h
  | succ n ih =>
    intro v b h
    simp [bitsN] at h
    rcases h with h | h
    · exact ih _ b h
    · subst h; omega

set_option maxRecDepth 100000 in
theorem Bit01.append {a b : List Nat} (ha : Bit01 a) (hb : Bit01 b) : Bit01 (a ++ b) := by
  intro x hx
  rcases List.mem_append.1 hx with h | h
  · exact ha x h
  · exact hb x h

theorem Bit01.left {a b : List Nat} (h : Bit01 (a ++ b)) : Bit01 a := fun x hx => h x (List.mem_append_left _ hx)
theorem Bit01.right {a b : List Nat} (h : Bit01 (a ++ b)) : Bit01 b := fun x hx => h x (List.mem_append_right _ hx)
theorem Bit01.take {a : List Nat} (h : Bit01 a) (n : Nat) : Bit01 (a.take n) := fun x hx => h x (List.mem_of_mem_take hx)
theorem Bit01.drop {a : List Nat} (h : Bit01 a) (n : Nat) : Bit01 (a.drop n) := fun x hx => h x (List.mem_of_mem_drop hx)

set_option maxRecDepth 100000 in
theorem val_lt (l : List Nat) : Bit01 l → val l < 2 ^ l.length := by
  refine snoc_ind (p := fun l => Bit01 l → val l < 2 ^ l.length) ?_ ?_ l
  · intro _; simp [val]
  · intro m b ih h
    have h1 := ih h.left
    have h2 := h b (by simp)
    rw [val_snoc]
    simp [Nat.pow_succ]
    omega

set_option maxRecDepth 100000 in
theorem bitsN_val (l : List Nat) : Bit01 l → bitsN (val l) l.length = l := by
  refine snoc_ind (p := fun l => Bit01 l → bitsN (val l) l.length = l) ?_ ?_ l
  · intro _; rfl
  · intro m b ih h
    have h1 := ih h.left
    have h2 := h b (by simp)
    rw [List.length_append, List.length_singleton, bitsN, val_snoc, show (2 * val m + b) / 2 = val m by omega, h1, show (2 * val m + b) % 2 = b by omega]

/-- Bits as bytes, the last byte filled up with 0 bits. -/
def packN : Nat → List Nat → List UInt8
  | 0, _ => []
  | k + 1, l => if l = [] then [] else UInt8.ofNat (val (l.take 8) * 2 ^ (8 - l.length)) :: packN k (l.drop 8)

def pack (l : List Nat) : List UInt8 := packN l.length l

set_option maxRecDepth 100000 in
theorem packN_nil (k : Nat) : packN k [] = [] := by cases k <;> simp [packN]

set_option maxRecDepth 100000 in
theorem packN_more (k : Nat) : ∀ (l : List Nat), l.length ≤ k → packN k l = pack l := by
  suffices H : ∀ (k j : Nat) (l : List Nat), l.length ≤ k → l.length ≤ j → packN k l = packN j l from fun l h => H k l.length l h (Nat.le_refl _)
  intro k
  induction k with
  | zero =>
    intro j l h h'
    have : l = [] := List.eq_nil_of_length_eq_zero (by omega)
    subst this
    rw [packN_nil, packN_nil]
  | succ k ih =>
    intro j l h h'
    cases j with
    | zero =>
      have : l = [] := List.eq_nil_of_length_eq_zero (by omega)
      subst this
      rw [packN_nil, packN_nil]
    | succ j =>
      by_cases e : l = []
      · subst e; rw [packN_nil, packN_nil]
      · have hp : 0 < l.length := List.length_pos_iff.2 e
        simp only [packN, e, if_false]
        rw [ih j (l.drop 8) (by simp; omega) (by simp; omega)]

theorem pack_nil : pack [] = [] := rfl

set_option maxRecDepth 100000 in
theorem pack_step (l : List Nat) (h : l ≠ []) : pack l = UInt8.ofNat (val (l.take 8) * 2 ^ (8 - l.length)) :: pack (l.drop 8) := by
  have hp : 0 < l.length := List.length_pos_iff.2 h
  rw [← packN_more (l.length + 1) l (by omega)]
  simp only [packN, h, if_false]
  rw [packN_more _ _ (by simp)]

theorem pack_short (l : List Nat) (h : 0 < l.length) (h8 : l.length ≤ 8) : pack l = [UInt8.ofNat (val l * 2 ^ (8 - l.length))] := by
  rw [pack_step l (List.length_pos_iff.1 h), List.take_of_length_le h8, List.drop_of_length_le h8, pack_nil]

set_option maxRecDepth 100000 in
theorem pack_cons8 (a b : List Nat) (h : a.length = 8) : pack (a ++ b) = UInt8.ofNat (val a) :: pack b := by
  rw [pack_step (a ++ b) (by intro e; have := congrArg List.length e; rw [List.length_append, List.length_nil] at this; omega), List.take_append_of_le_length (by omega), List.take_of_length_le (by omega), List.drop_append_of_le_length (by omega), List.drop_of_length_le (by omega)]
  simp [h]

set_option maxRecDepth 100000 in
theorem pack_append (k : Nat) : ∀ a b : List Nat, a.length = 8 * k → pack (a ++ b) = pack a ++ pack b := by
  induction k with
  | zero =>
    intro a b h
    have : a = [] := List.eq_nil_of_length_eq_zero (by omega)
    subst this
    rfl
  | succ k ih =>
    intro a b h
    have e : a = a.take 8 ++ a.drop 8 := (List.take_append_drop 8 a).symm
    have h1 : (a.take 8).length = 8 := by simp; omega
    have h2 : (a.drop 8).length = 8 * k := by simp; omega
    rw [e, List.append_assoc, pack_cons8 _ _ h1, pack_cons8 _ _ h1, ih _ _ h2, List.cons_append]

set_option maxRecDepth 100000 in
theorem pack_length (l : List Nat) : (pack l).length = (l.length + 7) / 8 := by
  have H : ∀ (n : Nat) (l : List Nat), l.length ≤ n → (pack l).length = (l.length + 7) / 8 := by
    intro n
    induction n with
    | zero =>
      intro l h
      have : l = [] := List.eq_nil_of_length_eq_zero (by omega)
      subst this; rfl
    | succ n ih =>
      intro l h
      by_cases e : l = []
      · subst e; rfl
      · have hp : 0 < l.length := List.length_pos_iff.2 e
        rw [pack_step l e, List.length_cons, ih _ (by simp; omega)]
        simp; omega
  exact H l.length l (Nat.le_refl _)

set_option maxRecDepth 100000 in
/-- A row's last, unfilled byte: the full ones, and what is left. -/
theorem pack_split (l : List Nat) : pack l = pack (l.take (8 * (l.length / 8))) ++ pack (l.drop (8 * (l.length / 8))) := by
  conv => lhs; rw [← List.take_append_drop (8 * (l.length / 8)) l]
  exact pack_append (l.length / 8) _ _ (by simp; omega)

theorem or_shift (a b s : Nat) (h : b < 2 ^ s) : (a * 2 ^ s) ||| b = a * 2 ^ s + b := by
  rw [Nat.mul_comm, Nat.two_pow_add_eq_or_of_lt h]

set_option maxRecDepth 100000 in
/-- More bits, no more than the last byte has room for, begun anew where it is full: the byte that they go into. -/
theorem pack_more (l m : List Nat) (hm : 0 < m.length) (hr : l.length % 8 + m.length ≤ 8) (hb : Bit01 m) :
    pack (l ++ m) = pack (l.take (8 * (l.length / 8))) ++ [UInt8.ofNat ((val (l.drop (8 * (l.length / 8))) * 2 ^ (8 - l.length % 8)) ||| (val m * 2 ^ (8 - l.length % 8 - m.length)))] := by
  have e : l ++ m = l.take (8 * (l.length / 8)) ++ (l.drop (8 * (l.length / 8)) ++ m) := by rw [← List.append_assoc, List.take_append_drop]
  have hl : (l.drop (8 * (l.length / 8)) ++ m).length = l.length % 8 + m.length := by simp; omega
  rw [e, pack_append (l.length / 8) _ _ (by simp; omega), pack_short (l.drop (8 * (l.length / 8)) ++ m) (by omega) (by omega), val_append, hl]
  congr 3
  have hv := val_lt m hb
  generalize val (List.drop (8 * (l.length / 8)) l) = R
  generalize val m = M at *
  generalize hr' : l.length % 8 = r at *
  generalize m.length = k at *
  have e1 : 8 - r = k + (8 - r - k) := by omega
  have hlt : M * 2 ^ (8 - r - k) < 2 ^ (8 - r) := by
    conv => rhs; rw [e1, Nat.pow_add]
    exact Nat.mul_lt_mul_of_pos_right hv (Nat.two_pow_pos _)
  rw [or_shift _ _ _ hlt, Nat.add_mul]
  conv => rhs; lhs; rw [e1, Nat.pow_add]
  rw [show 8 - (r + k) = 8 - r - k by omega, Nat.mul_assoc]

/-- A text's bits. -/
def bitsB (l : List UInt8) : List Nat := l.flatMap fun c => bitsN c.toNat 8

theorem bitsB_nil : bitsB [] = [] := rfl
theorem bitsB_cons (c : UInt8) (l : List UInt8) : bitsB (c :: l) = bitsN c.toNat 8 ++ bitsB l := rfl
set_option maxRecDepth 100000 in
theorem bitsB_append (a b : List UInt8) : bitsB (a ++ b) = bitsB a ++ bitsB b := by simp [bitsB]
theorem bitsB_length (l : List UInt8) : (bitsB l).length = 8 * l.length := by
  induction l with
  | nil => rfl
  | cons c l ih => rw [bitsB_cons, List.length_append, bitsN_length, ih, List.length_cons]; omega
set_option maxRecDepth 100000 in
theorem bit01_bitsB (l : List UInt8) : Bit01 (bitsB l) := by
  induction l with
  | nil => intro b h; simp [bitsB] at h
  | cons c l ih => rw [bitsB_cons]; exact (bit01_bitsN _ _).append ih

set_option maxRecDepth 100000 in
theorem bitsN_get (n : Nat) : ∀ v i, i < n → (bitsN v n)[i]? = some (v / 2 ^ (n - 1 - i) % 2) := by
  induction n with
  | zero => intro v i h; omega
  | succ n ih =>
    intro v i h
    rw [bitsN]
    by_cases h1 : i < n
    · rw [List.getElem?_append_left (by rw [bitsN_length]; exact h1), ih _ _ h1, Nat.div_div_eq_div_mul, show n + 1 - 1 - i = (n - 1 - i) + 1 by omega, Nat.pow_succ, Nat.mul_comm]
    · obtain rfl : i = n := by omega
      rw [List.getElem?_append_right (by rw [bitsN_length]; exact Nat.le_refl _), bitsN_length]
      simp

set_option maxRecDepth 100000 in
theorem bitsB_get (l : List UInt8) : ∀ i, i < 8 * l.length → (bitsB l)[i]? = some ((l.getD (i / 8) 0).toNat / 2 ^ (7 - i % 8) % 2) := by
  induction l with
  | nil => intro i h; simp at h
  | cons c l ih =>
    intro i h
    rw [bitsB_cons]
    by_cases h8 : i < 8
    · rw [List.getElem?_append_left (by rw [bitsN_length]; exact h8), bitsN_get _ _ _ h8, show i / 8 = 0 by omega, show i % 8 = i by omega]
      rfl
    · rw [List.getElem?_append_right (by rw [bitsN_length]; omega), bitsN_length, ih (i - 8) (by rw [List.length_cons] at h; omega), show i / 8 = (i - 8) / 8 + 1 by omega, show (i - 8) % 8 = i % 8 by omega]
      rfl

theorem bitsN_zero (n : Nat) : bitsN 0 n = List.replicate n 0 := by
  induction n with
  | zero => rfl
  | succ n ih => rw [bitsN, Nat.zero_div, ih, Nat.zero_mod, List.replicate_succ']

theorem bitsN_shift (v k n : Nat) : bitsN (v * 2 ^ k) (n + k) = bitsN v n ++ List.replicate k 0 := by
  rw [bitsN_add, Nat.mul_div_cancel _ (Nat.two_pow_pos k)]
  congr 1
  have : ∀ (k v : Nat), bitsN (v * 2 ^ k) k = List.replicate k 0 := by
    intro k
    induction k with
    | zero => intro v; rfl
    | succ k ih =>
      intro v
      rw [bitsN, Nat.pow_succ, ← Nat.mul_assoc, Nat.mul_div_cancel _ (by omega), ih, Nat.mul_mod_left, List.replicate_succ']
  exact this k v

set_option maxRecDepth 100000 in
/-- What bits are read out of a row's bytes: the row, filled up with 0 bits. -/
theorem bitsB_pack (L : List Nat) : Bit01 L → bitsB (pack L) = L ++ List.replicate (8 * ((L.length + 7) / 8) - L.length) 0 := by
  have H : ∀ (n : Nat) (L : List Nat), L.length ≤ n → Bit01 L → bitsB (pack L) = L ++ List.replicate (8 * ((L.length + 7) / 8) - L.length) 0 := by
    intro n
    induction n with
    | zero =>
      intro L h _
      have : L = [] := List.eq_nil_of_length_eq_zero (by omega)
      subst this; rfl
    | succ n ih =>
      intro L h hb
      by_cases h8 : L.length ≤ 8
      · by_cases h0 : L.length = 0
        · have : L = [] := List.eq_nil_of_length_eq_zero h0
          subst this; rfl
        · have hv := val_lt L hb
          have hlt : val L * 2 ^ (8 - L.length) < 256 := by
            have h2 : (256 : Nat) = 2 ^ L.length * 2 ^ (8 - L.length) := by rw [← Nat.pow_add, show L.length + (8 - L.length) = 8 by omega]
            rw [h2]
            exact Nat.mul_lt_mul_of_pos_right hv (Nat.two_pow_pos _)
          rw [pack_short L (by omega) h8, bitsB_cons, bitsB_nil, List.append_nil, UInt8.toNat_ofNat', Nat.mod_eq_of_lt hlt]
          have h3 := bitsN_shift (val L) (8 - L.length) L.length
          rw [show L.length + (8 - L.length) = 8 by omega, bitsN_val L hb] at h3
          rw [h3]
          congr 2
          omega
      · have e : L = L.take 8 ++ L.drop 8 := (List.take_append_drop 8 L).symm
        have h1 : (L.take 8).length = 8 := by simp; omega
        have hb1 : Bit01 (L.take 8) := hb.take 8
        have hv := val_lt _ hb1
        rw [h1] at hv
        have h3 := bitsN_val _ hb1
        rw [h1] at h3
        conv => lhs; rw [e]
        rw [pack_cons8 _ _ h1, bitsB_cons, UInt8.toNat_ofNat', Nat.mod_eq_of_lt hv, h3, ih _ (by simp; omega) (hb.drop 8), ← List.append_assoc, ← e, List.length_drop]
        congr 2
        omega
  exact H L.length L (Nat.le_refl _)

set_option maxRecDepth 100000 in
theorem pack_bitsB (l : List UInt8) : pack (bitsB l) = l := by
  induction l with
  | nil => rfl
  | cons c l ih =>
    rw [bitsB_cons, pack_cons8 _ _ (bitsN_length _ _), ih, val_bitsN]
    congr 1
    rw [Nat.mod_eq_of_lt c.toNat_lt]
    simp

end Go.Proofs.YtdjmfkodjjjhfaaGreatDoor
/- What memory holds: a block known whole; and what a call may have turned. No conditions. -/
namespace Go.Proofs.YtdjmfkodjjjhfaaGreatDoor
open Go.RowKit

/-- Block g holds just the cells cs, none of them frozen. -/
def Blk (w : World) (g : Nat) (t : TypeId) (cs : Array Value) : Prop := w.heap[g]? = some (.cells cs t (0, 0))

theorem blk_lt {w : World} {g : Nat} {t : TypeId} {cs : Array Value} (h : Blk w g t cs) : g < w.heap.size := (Array.getElem?_eq_some_iff.1 h).1
theorem blk_cell {w : World} {g : Nat} {t : TypeId} {cs : Array Value} (h : Blk w g t cs) (i : Nat) : w.cell? ⟨g, i, none⟩ = cs[i]? := cell_of_row w g i cs t (0, 0) h
theorem blk_frozen {w : World} {g : Nat} {t : TypeId} {cs : Array Value} (h : Blk w g t cs) (i : Nat) : w.frozen? ⟨g, i, none⟩ = false := frozen_of_row w g i cs t h
theorem blk_new (w : World) (t : TypeId) (cs : Array Value) : Blk (w.alloc (.cells cs t)) w.heap.size t cs := heap_alloc_new w _
theorem blk_set {w : World} {g : Nat} {t : TypeId} {cs : Array Value} (h : Blk w g t cs) (i : Nat) (u : Value) : Blk (w.setCell ⟨g, i, none⟩ u) g t (cs.setIfInBounds i u) := heap_setCell_same w g i cs t u h

/-- From w to w': below B, and outside the blocks ps and the blocks of the types ts, nothing has turned. -/
structure Step (B : Nat) (ps : List Nat) (ts : List TypeId) (w w' : World) : Prop where
  below : Below B w w'
  keep : ∀ k cs t fr, w.heap[k]? = some (.cells cs t fr) → k ∉ ps → t ∉ ts → w'.heap[k]? = some (.cells cs t fr)

section
variable {B : Nat} {ps : List Nat} {ts : List TypeId} {w w' w'' : World}
theorem Step.refl (B : Nat) (ps : List Nat) (ts : List TypeId) (w : World) : Step B ps ts w w := ⟨Below.refl _ _, fun _ _ _ _ h _ _ => h⟩
theorem Step.trans (h : Step B ps ts w w') (k : Step B ps ts w' w'') : Step B ps ts w w'' :=
  ⟨h.below.trans k.below, fun i cs t fr hh hp ht => k.keep i cs t fr (h.keep i cs t fr hh hp ht) hp ht⟩
theorem Step.mono {B' : Nat} {ps' : List Nat} {ts' : List TypeId} (h : Step B ps ts w w') (hB : B' ≤ B) (hp : ∀ k ∈ ps, k ∈ ps') (ht : ∀ t ∈ ts, t ∈ ts') : Step B' ps' ts' w w' :=
  ⟨h.below.mono hB, fun i cs t fr hh hp' ht' => h.keep i cs t fr hh (fun x => hp' (hp _ x)) (fun x => ht' (ht _ x))⟩
/-- A second step that writes besides only what is new since the first one began. -/
theorem Step.after {B' : Nat} {ps' : List Nat} {ts' : List TypeId} (h : Step B ps ts w w') (k : Step B' ps' ts' w' w'') (hB : B ≤ B') (hp : ∀ i ∈ ps', i ∈ ps ∨ w.heap.size ≤ i) (ht : ∀ t ∈ ts', t ∈ ts) : Step B ps ts w w'' :=
  ⟨h.below.trans (k.below.mono hB), fun i cs t fr hh hi ht' => k.keep i cs t fr (h.keep i cs t fr hh hi ht')
    (fun e => (hp i e).elim hi (fun g => by have := (Array.getElem?_eq_some_iff.1 hh).1; omega)) (fun e => ht' (ht t e))⟩
theorem Step.size (h : Step B ps ts w w') : w.heap.size ≤ w'.heap.size := h.below.size
theorem Step.drew (h : Step B ps ts w w') : Step B ps ts w w'.drew := ⟨h.below.drew, h.keep⟩
theorem Step.drewN (h : Step B ps ts w w') (n : Nat) : Step B ps ts w (w'.drewN n) := ⟨⟨h.below.os, h.below.tape, h.below.output, h.below.size, h.below.block⟩, h.keep⟩
theorem Step.alloc (h : Step B ps ts w w') (hB : B ≤ w'.heap.size) (o : Obj) : Step B ps ts w (w'.alloc o) :=
  ⟨h.below.alloc hB o, fun i cs t fr hh hp ht => by
    have := h.keep i cs t fr hh hp ht
    exact (Below.heap_alloc w' o i (Array.getElem?_eq_some_iff.1 this).1).trans this⟩
theorem Step.set (h : Step B ps ts w w') {p : Addr} (hB : B ≤ p.block) (hp : p.block ∈ ps) (u : Value) : Step B ps ts w (w'.setCell p u) :=
  ⟨h.below.setCell hB u, fun i cs t fr hh hi ht => by
    rw [Below.heap_setCell w' p u i (fun e => hi (e ▸ hp))]
    exact h.keep i cs t fr hh hi ht⟩
/-- A store into a block of a type that may be written. -/
theorem Step.setT (h : Step B ps ts w w') {p : Addr} (hB : B ≤ p.block) {cs : Array Value} {t : TypeId} {fr : Nat × Nat} (hb : w'.heap[p.block]? = some (.cells cs t fr)) (hp : t ∈ ts) (u : Value) : Step B ps ts w (w'.setCell p u) :=
  ⟨h.below.setCell hB u, fun i cs' t' fr' hh hi ht => by
    have hk := h.keep i cs' t' fr' hh hi ht
    by_cases e : i = p.block
    · subst e
      rw [hb] at hk
      injection hk with hk
      injection hk with _ h2
      exact absurd (h2 ▸ hp) ht
    · rw [Below.heap_setCell w' p u i e]
      exact hk⟩
/-- An append to a row of a type that may be written. -/
theorem Step.grown (h : Step B ps ts w w') {row : Option Nat} (hg : w'.grownBy w'' row) (hB : B ≤ w'.heap.size)
    (hr : ∀ k, row = some k → B ≤ k ∧ ∃ cs t fr, w'.heap[k]? = some (.cells cs t fr) ∧ t ∈ ts) : Step B ps ts w w'' :=
  ⟨h.below.grown hg hB (fun k hk => (hr k hk).1), fun i cs t fr hh hi ht => by
    have hk := h.keep i cs t fr hh hi ht
    rw [hg.block i (Array.getElem?_eq_some_iff.1 hk).1 ?_]
    · exact hk
    · intro e
      obtain ⟨_, cs', t', fr', hb, ht'⟩ := hr i e.symm
      rw [hb] at hk
      injection hk with hk
      injection hk with _ h2
      exact ht (h2 ▸ ht')⟩
theorem Step.blk (h : Step B ps ts w w') {g : Nat} {t : TypeId} {cs : Array Value} (hb : Blk w g t cs) (hp : g ∉ ps) (ht : t ∉ ts) : Blk w' g t cs := h.keep _ _ _ _ hb hp ht
set_option maxRecDepth 100000 in
theorem Step.row (h : Step B ps ts w w') {base : Nat} {t : TypeId} {size n : Nat} {v : Value} {xs : List Value} (hr : w.ownsRow base t size v n xs) (hp : ∀ k, v.ownBlock = some k → k ∉ ps) (ht : t ∉ ts) : w'.ownsRow base t size v n xs := by
  refine ⟨hr.1, ?_⟩
  rcases hr.2 with h1 | ⟨g, cap, cur, hv, hg, hh, rest⟩
  · exact .inl h1
  · exact .inr ⟨g, cap, cur, hv, hg, h.keep _ _ _ _ hh (hp g (by rw [hv]; rfl)) ht, rest⟩
end

set_option maxRecDepth 100000 in
theorem row_blk {w : World} {base : Nat} {e : TypeId} {size n : Nat} {v : Value} {xs : List Value} (h : w.ownsRow base e size v n xs) :
    ∀ k, v.ownBlock = some k → base ≤ k ∧ ∃ cs t fr, w.heap[k]? = some (.cells cs t fr) ∧ t ∈ [e] := by
  intro k hk
  rcases h.2 with ⟨rfl, _⟩ | ⟨g, cap, cur, rfl, hb, hg, _⟩
  · simp [Value.ownBlock] at hk
  · simp [Value.ownBlock] at hk
    subst hk
    exact ⟨hb, cur, e, (0, 0), hg, by simp⟩

set_option maxRecDepth 100000 in
/-- Two rows, or a row and a block, of unlike types lie apart. -/
theorem row_ne {w : World} {base : Nat} {e t : TypeId} {size n g : Nat} {v : Value} {xs : List Value} {cs : Array Value} (h : w.ownsRow base e size v n xs) (hg : Blk w g t cs) (hne : e ≠ t) : ∀ k, v.ownBlock = some k → k ≠ g := by
  intro k hk he
  obtain ⟨_, cs', t', fr', hb, ht⟩ := row_blk h k hk
  subst he
  unfold Blk at hg
  rw [hg] at hb
  injection hb with hb
  injection hb with _ h2
  simp at ht
  exact hne (by rw [← ht, ← h2])
/-- A byte as a cell. -/
def bv (c : UInt8) : Value := .int .u8 c.toNat

set_option maxRecDepth 100000 in
theorem Tryz.info5 : (Tryz.prog.info? 5).map (fun i => (i.zero, i.size, i.bytes)) = some (some (.int .u8 0), 1, 1) := by kernel_rfl
set_option maxRecDepth 100000 in
theorem Tryz.info3 : (Tryz.prog.info? 3).map (fun i => (i.zero, i.size, i.bytes)) = some (some (.int .i64 0), 1, 8) := by kernel_rfl

theorem step_of_below {w w' : World} (h : Below w.heap.size w w') : Step w.heap.size [] [] w w' :=
  ⟨h, fun k _ _ _ hh _ _ => (h.block k (Array.getElem?_eq_some_iff.1 hh).1).trans hh⟩

theorem below_drewN {B : Nat} {a w : World} (h : Below B a w) (k : Nat) : Below B a (w.drewN k) := ⟨h.os, h.tape, h.output, h.size, h.block⟩

set_option maxRecDepth 100000 in
theorem two_new (w : World) (a b : Value) (t : TypeId) : ∀ (j : Nat) (u : Value), [a, b][j]? = some u → (w.alloc (.cells #[a, b] t)).cell? ((⟨w.heap.size, 0, none⟩ : Addr).add j) = some u := by
  intro j u hu
  rw [Addr.add_lit, blk_cell (blk_new w t #[a, b])]
  simpa using hu

set_option maxRecDepth 100000 in
theorem own_slice {w : World} {B : Nat} {e : TypeId} {size n : Nat} {v : Value} {xs : List Value} (h : w.ownsRow B e size v n xs) : ∃ A cap, v = .slice A n cap ∧ n ≤ cap ∧ cap ≤ maxLen ∧ (0 < n → ∃ g, A = some ⟨g, 0, none⟩) := by
  rcases h.2 with ⟨rfl, rfl⟩ | ⟨g, cap, cur, rfl, _, _, hn, hm, _⟩
  · exact ⟨none, 0, rfl, Nat.le_refl _, by unfold maxLen; omega, fun h => by omega⟩
  · exact ⟨some ⟨g, 0, none⟩, cap, rfl, hn, hm, fun _ => ⟨g, rfl⟩⟩

end Go.Proofs.YtdjmfkodjjjhfaaGreatDoor
/- Slices of ints that are read, cut and appended to. Conditions: at most 10^9 ints in an append. -/
namespace Go.Proofs.YtdjmfkodjjjhfaaGreatDoor
open Go.RowKit

def iv (b : Nat) : Value := .int .i64 b

/-- The slice '.slice A n c' of ints holds the numbers L. -/
def IntsIn (w : World) (A : Option Addr) (n : Nat) (L : List Nat) : Prop :=
  L.length = n ∧ (0 < n → ∃ b off, A = some ⟨b, off, none⟩ ∧ ∀ i, i < n → w.cell? ⟨b, off + i, none⟩ = some (.int .i64 (L.getD i 0)))

set_option maxRecDepth 100000 in
theorem IntsIn.nil {w : World} {A : Option Addr} {n k a : Nat} {L : List Nat} (h : IntsIn w A n L) (hk : k = 0) (_hak : a + k ≤ n) : IntsIn w A k ((L.drop a).take k) := by
  have := h.1
  subst hk
  exact ⟨by simp, fun h => by omega⟩

theorem IntsIn.cut {w : World} {A : Option Addr} {n k a : Nat} {L : List Nat} (h : IntsIn w A n L) (hak : a + k ≤ n) : IntsIn w (Option.map (fun x => x.add a) A) k ((L.drop a).take k) := by
  refine ⟨by rw [List.length_take, List.length_drop, h.1]; omega, fun hk => ?_⟩
  obtain ⟨b, off, rfl, hc⟩ := h.2 (by omega)
  refine ⟨b, off + a, by rw [Option.map_some, Addr.add_lit], fun i hi => ?_⟩
  rw [Nat.add_assoc, hc (a + i) (by omega), List.getD_eq_getElem?_getD, List.getD_eq_getElem?_getD, List.getElem?_take, if_pos hi, List.getElem?_drop]

theorem IntsIn.front {w : World} {A : Option Addr} {n : Nat} {L : List Nat} (h : IntsIn w A n L) (k : Nat) (hk : k ≤ n) : IntsIn w A k (L.take k) := by
  refine ⟨by rw [List.length_take, h.1]; omega, fun h0 => ?_⟩
  obtain ⟨b, off, hA, hc⟩ := h.2 (by omega)
  refine ⟨b, off, hA, fun i hi => ?_⟩
  rw [hc i (by omega), List.getD_eq_getElem?_getD, List.getD_eq_getElem?_getD, List.getElem?_take, if_pos hi]

set_option maxRecDepth 100000 in
theorem ints_of_own {w : World} {B n cap : Nat} {A : Option Addr} {L : List Nat} (h : w.ownsRow B 3 1 (.slice A n cap) n (L.map iv)) : IntsIn w A n L := by
  have hl := h.1
  rw [List.length_map, Nat.mul_one] at hl
  refine ⟨hl, fun hn => ?_⟩
  obtain ⟨A', cap', hv, _, _, hg⟩ := own_slice h
  simp only [Value.slice.injEq] at hv
  obtain ⟨rfl, _, rfl⟩ := hv
  obtain ⟨g, rfl⟩ := hg hn
  refine ⟨g, 0, rfl, fun i hi => ?_⟩
  rw [Nat.zero_add, h.cellAt i (by omega), List.getElem?_map, List.getD_eq_getElem?_getD, List.getElem?_eq_getElem (by omega)]
  rfl

theorem hfar {w : World} {B b n : Nat} {v : Value} {xs : List Value} (h : w.ownsRow B 3 1 v n xs) (hb : b < B) (o : Nat) : some (⟨b, o, none⟩ : Addr).block ≠ v.ownBlock := by
  intro e
  have := (h.lt b e.symm).1
  omega

set_option maxRecDepth 100000 in
theorem append_ints (w : World) (B : Nat) (v : Value) (n : Nat) (xs : List Value) (hown : w.ownsRow B 3 1 v n xs) (A : Option Addr) (k c : Nat) (L : List Nat) (hi : IntsIn w A k L) (hnk : n + k ≤ 1000000000) (hB : B ≤ w.heap.size) :
    ∃ v' w', (Builtin.append_ #[148, 148] 148 #[v, .slice A k c]).run Tryz.prog w = .ok v' w' ∧ w'.ownsRow B 3 1 v' (n + k) (xs ++ L.map iv) ∧ w.grownBy w' v.ownBlock := by
  obtain ⟨i3, h3, hz0, hz1, hz2⟩ := info_parts Tryz.info3
  have hl := hi.1
  rcases A with _ | ad
  · have hk : k = 0 := by
      rcases Nat.eq_zero_or_pos k with h0 | h0
      · exact h0
      · obtain ⟨b, off, h, _⟩ := hi.2 h0
        cases h
    subst hk
    have hL : L = [] := List.eq_nil_of_length_eq_zero hl
    subst hL
    refine ⟨v, w, ?_, by simpa using hown, ⟨rfl, rfl, rfl, Nat.le_refl _, fun _ _ _ => rfl⟩⟩
    rcases hown.2 with ⟨rfl, rfl⟩ | ⟨g, cap, cur, rfl, _, _, hnc, _⟩
    · simp [Builtin.append_, run_underlying Tryz.underlying148, sizeOf, typeInfo, h3, Builtin.lenOf, Builtin.firstCells]
    · simp [Builtin.append_, run_underlying Tryz.underlying148, sizeOf, typeInfo, h3, Builtin.lenOf, Builtin.firstCells, hnc, storeCells]
  · have hnews : ∀ j u, (L.map iv)[j]? = some u → w.cell? (ad.add j) = some u := by
      intro j u hu
      have hjk : j < k := by
        have := (List.getElem?_eq_some_iff.1 hu).1
        rw [List.length_map] at this
        omega
      obtain ⟨b, off, he, hc⟩ := hi.2 (by omega)
      injection he with he
      subst he
      rw [Addr.add_lit, hc j hjk, ← hu, List.getElem?_map, List.getD_eq_getElem?_getD, List.getElem?_eq_getElem (by omega)]
      rfl
    obtain ⟨v', w', h1, h2, h4, _⟩ := run_append_own (P := Tryz.prog) w B 148 148 3 i3 (.int .i64 0) 1 8 Tryz.underlying148 h3 hz0 hz1 hz2 rfl (by decide) v n xs hown ad k c (L.map iv) (by rw [List.length_map, hl, Nat.mul_one]) hnews
      (fun u hu => by obtain ⟨q, _, rfl⟩ := List.mem_map.1 hu; rfl) (by unfold maxLen; omega) (by omega) hB
    exact ⟨v', w', h1, h2, h4⟩

set_option maxRecDepth 100000 in
/-- An append whose run is known, at a step of a statement whose order is open. -/
theorem step_append_run {ops : Array Oper} {o : Oper} {a : Act} {w w' : World} {K : Act → World → Prop} {Q : Exit → Act → World → Prop} {E : Prop} {v' : Value} (hgd : o.guard = none) (s x : Operand) (t : TypeId)
    (ho : o.op = .call { callee := .builtin .append, args := #[s, x], argTypes := #[t, t] }) (vs vx : Value) (hs : a.eval s = vs) (hx : a.eval x = vx)
    (hrun : (Builtin.append_ #[t, t] o.type #[vs, vx]).run Tryz.prog w = .ok v' w') (h : K (a.put o.dst v') w') :
    if Region.wanted o (yielded ops a.tmps) = true then Oper.wp Tryz.prog o a w K Q else E := by
  have hw : Region.wanted o (yielded ops a.tmps) = true := by simp [Region.wanted, hgd]
  rw [if_pos hw]
  unfold Oper.wp execOp
  simp only [ho, resolve, invoke, builtin, Sem.run_bind, Sem.run_pure, Result.andThen_ok, List.map_toArray, List.map_cons, List.map_nil, hs, hx, hrun]
  exact h

set_option maxRecDepth 100000 in
theorem slice_front (A : Option Addr) (n k c : Nat) (h : k ≤ c) (w : World) : (Instr.slice 148 (.slice A n c) none (some (.int .i64 k)) none).run Tryz.prog w = .ok (.slice A k c) w := by
  obtain ⟨i3, h3, _⟩ := info_parts Tryz.info3
  have h1 : (k : Int) ≤ (c : Int) := by omega
  unfold Instr.slice
  simp [run_underlying Tryz.underlying148, Instr.sliceBounds, go_sem, h1, sizeOf, typeInfo, h3]

set_option maxRecDepth 100000 in
theorem bit_lt (l : List Nat) (i : Nat) (hb : Bit01 l) : l.getD i 0 < 2 := by
  rw [List.getD_eq_getElem?_getD]
  rcases h : l[i]? with _ | b
  · simp
  · exact hb b (List.mem_of_getElem? h)

theorem bit_and (c e : Nat) (hc : c < 256) : bits .and .i64 ((c : Int) / 2 ^ e) 1 = ((c / 2 ^ e % 2 : Nat) : Int) := by
  have h1 : ((c : Int) / 2 ^ e) = ((c / 2 ^ e : Nat) : Int) := by rw [Int.natCast_ediv, Int.natCast_pow]; rfl
  have hlt : c / 2 ^ e < 256 := Nat.lt_of_le_of_lt (Nat.div_le_self _ _) hc
  rw [h1]
  generalize c / 2 ^ e = d at *
  show IntKind.i64.wrap ((BitVec.ofInt 64 (d : Int) &&& BitVec.ofInt 64 1).toNat : Int) = _
  rw [BitVec.toNat_and, BitVec.ofInt_natCast, BitVec.toNat_ofNat, Nat.mod_eq_of_lt (show d < 2 ^ 64 by omega), show (BitVec.ofInt 64 1).toNat = 1 from rfl, nat_mask1, IntKind.wrap_i64]
  omega

end Go.Proofs.YtdjmfkodjjjhfaaGreatDoor
/- Fields: plain: digits to the base 8 and 10, blanks, sums. Written ahead of stage 15. -/
namespace Go.Proofs.YtdjmfkodjjjhfaaGreatDoor
open Go.RowKit

/-- A digit's byte. -/
def dig8 (d : Nat) : UInt8 := UInt8.ofNat (48 + d)
/-- The last k digits to the base 8. -/
def octL : Nat → Int → List UInt8
  | 0, _ => []
  | k + 1, n => dig8 (n / 8 ^ k % 8).toNat :: octL k n
theorem octL_length : ∀ k n, (octL k n).length = k
  | 0, _ => rfl
  | k + 1, n => by rw [octL, List.length_cons, octL_length k n]
/-- What Octal answers. -/
def octalA (n width : Int) : List UInt8 × Nat :=
  if width < 2 ∨ 20 < width then ([], 2)
  else if n / 8 ^ (width.toNat - 1) ≠ 0 then ([], 150)
  else (octL (width.toNat - 1) n ++ [0], 0)
/-- Bytes at the beginning taken off. -/
def cutF (a b : Nat) : List UInt8 → List UInt8
  | [] => []
  | c :: s => if c.toNat = a ∨ c.toNat = b then cutF a b s else c :: s
/-- Digits read, until one is none: the number (as it is told while it is not above 2^53), the rest. -/
def numF : List UInt8 → Nat → Nat × List UInt8
  | [], n => (n, [])
  | c :: s, n => if 48 ≤ c.toNat ∧ c.toNat ≤ 55 then numF s (if n ≤ 9007199254740992 then 8 * n + (c.toNat - 48) else n) else (n, c :: s)
/-- What Number answers. -/
def numberA (s : List UInt8) : Nat × Nat :=
  if cutF 32 0 (numF (cutF 32 32 s) 0).2 ≠ [] then (0, 150)
  else if 9007199254740992 < (numF (cutF 32 32 s) 0).1 then (0, 3)
  else ((numF (cutF 32 32 s) 0).1, 0)
/-- What Cut answers. -/
def cutZ : List UInt8 → List UInt8
  | [] => []
  | c :: s => if c = 0 then [] else c :: cutZ s
/-- What Text answers. -/
def textA (s : List UInt8) (width : Int) : List UInt8 × Nat :=
  if width < 0 ∨ 512 < width then ([], 2)
  else if width < (s.length : Int) ∨ cutZ s ≠ s then ([], 150)
  else (s ++ List.replicate (width.toNat - s.length) 0, 0)
/-- What Digits answers. -/
def digF : Nat → Nat → List UInt8 → List UInt8
  | 0, _, out => out
  | k + 1, n, out => if 10 ≤ n then digF k (n / 10) (dig8 (n / 10 % 10) :: out) else out
def digitsA (n : Int) : List UInt8 := if n < 0 then [] else digF n.toNat n.toNat [dig8 (n.toNat % 10)]
/-- What Decimal answers. -/
def decF : List UInt8 → Nat → Option Nat
  | [], n => some n
  | c :: s, n => if c.toNat < 48 ∨ 57 < c.toNat then none else decF s (if n ≤ 9007199254740992 then 10 * n + (c.toNat - 48) else n)
def decEnd : Option Nat → Nat × Nat
  | none => (0, 150)
  | some n => if 9007199254740992 < n then (0, 3) else (n, 0)
def decimalA (s : List UInt8) : Nat × Nat := if s = [] ∨ (s.getD 0 0 = 48 ∧ 1 < s.length) then (0, 150) else decEnd (decF s 0)
/-- What Sum answers. -/
def sumF (s : List UInt8) (q : Nat) : Nat := ((List.range q).map fun i => if i < 148 ∨ 155 < i then (s.getD i 0).toNat else 0).sum
def sumA (s : List UInt8) : Nat × Nat := if s.length ≠ 512 then (0, 2) else (256 + sumF s 512, 0)
theorem sumF_next (s : List UInt8) (q : Nat) : sumF s (q + 1) = sumF s q + if q < 148 ∨ 155 < q then (s.getD q 0).toNat else 0 := by
  unfold sumF
  rw [List.range_succ, List.map_append, List.sum_append, List.map_singleton, List.sum_singleton]
theorem sumF_le (s : List UInt8) : ∀ q, sumF s q ≤ 255 * q
  | 0 => Nat.le_refl _
  | q + 1 => by
    have ih := sumF_le s q
    have := UInt8.toNat_lt (s.getD q 0)
    rw [sumF_next]
    split <;> omega
theorem and_seven (x : Int) : bits .and .i64 x 7 = x % 8 := by
  show IntKind.i64.wrap ((BitVec.ofInt 64 x &&& BitVec.ofInt 64 7).toNat : Int) = _
  rw [BitVec.toNat_and, show (BitVec.ofInt 64 7).toNat = 7 from rfl, nat_mask3, BitVec.toNat_ofInt, IntKind.wrap_i64]
  omega
theorem numF_le : ∀ (s : List UInt8) (n : Nat), n ≤ 72057594037927943 → (numF s n).1 ≤ 72057594037927943
  | [], n, h => h
  | c :: s, n, h => by
    rw [numF]
    split
    · refine numF_le s _ ?_
      split <;> omega
    · exact h

def strF (l : List UInt8) : ByteArray := ⟨l.toArray⟩
theorem strF_size (l : List UInt8) : (strF l).size = l.length := rfl
theorem strF_list (l : List UInt8) : (strF l).data.toList = l := rfl
set_option maxRecDepth 100000 in
theorem strF_self (s : ByteArray) : strF s.data.toList = s := by
  apply ByteArray.ext
  show s.data.toList.toArray = s.data
  simp
set_option maxRecDepth 100000 in
theorem strF_app (a b : List UInt8) : strF a ++ strF b = strF (a ++ b) := by
  apply ByteArray.ext
  simp [strF]
theorem fext_list (t : ByteArray) (a b : Nat) : (t.extract a b).data.toList = (t.data.toList.take b).drop a := by
  rw [ByteArray.data_extract, Array.toList_extract, List.extract_eq_take_drop, List.drop_take]
theorem fext_take (t : ByteArray) (k : Nat) : t.extract 0 k = strF (t.data.toList.take k) := by
  apply ByteArray.ext
  apply Array.toList_inj.1
  rw [fext_list, List.drop_zero]
  rfl
theorem fext_drop (l : List UInt8) (k : Nat) : (strF l).extract k (strF l).size = strF (l.drop k) := by
  apply ByteArray.ext
  apply Array.toList_inj.1
  rw [fext_list, List.take_of_length_le (show (strF l).data.toList.length ≤ (strF l).size from Nat.le_refl _)]
  rfl
theorem fbyte (t : ByteArray) (i : Nat) (h : i < t.size) : t.data.toList.getD i 0 = t[i] := by
  rw [List.getD_eq_getElem?_getD, List.getElem?_eq_getElem (by show i < t.size; exact h)]
  rfl
theorem fsame (a b : ByteArray) : (a.toList == b.toList) = decide (a.data.toList = b.data.toList) := by
  rw [ByteArray.toList_eq, ByteArray.toList_eq]
  by_cases h : a.data.toList = b.data.toList
  · rw [h, decide_eq_true rfl]
    exact beq_self_eq_true _
  · rw [decide_eq_false h]
    exact beq_false_of_ne h
theorem strF_toList (p : List UInt8) : (strF p).toList = p := by
  rw [ByteArray.toList_eq]
  rfl
set_option maxRecDepth 100000 in
/-- A digit out of the row of digits. -/
theorem dig_oct (d : Nat) (h : d < 8) : (⟨#[48, 49, 50, 51, 52, 53, 54, 55]⟩ : ByteArray).extract d (d + 1) = strF [dig8 d] := by
  have : d = 0 ∨ d = 1 ∨ d = 2 ∨ d = 3 ∨ d = 4 ∨ d = 5 ∨ d = 6 ∨ d = 7 := by omega
  rcases this with rfl | rfl | rfl | rfl | rfl | rfl | rfl | rfl <;> rfl
set_option maxRecDepth 100000 in
theorem dig_dec (d : Nat) (h : d < 10) : (⟨#[48, 49, 50, 51, 52, 53, 54, 55, 56, 57]⟩ : ByteArray).extract d (d + 1) = strF [dig8 d] := by
  have : d = 0 ∨ d = 1 ∨ d = 2 ∨ d = 3 ∨ d = 4 ∨ d = 5 ∨ d = 6 ∨ d = 7 ∨ d = 8 ∨ d = 9 := by omega
  rcases this with rfl | rfl | rfl | rfl | rfl | rfl | rfl | rfl | rfl | rfl <;> rfl
end Go.Proofs.YtdjmfkodjjjhfaaGreatDoor
/- Fields: what is read is what was laid; the digits of a number; a turned byte and the sum: plain. Written ahead of stage 15. -/
namespace Go.Proofs.YtdjmfkodjjjhfaaGreatDoor
open Go.RowKit

theorem dig8_toNat (d : Nat) (h : d < 10) : (dig8 d).toNat = 48 + d := by
  unfold dig8
  rw [UInt8.toNat_ofNat']
  omega
theorem dig8_self (c : UInt8) (h : 48 ≤ c.toNat) : dig8 (c.toNat - 48) = c := by
  apply UInt8.toNat_inj.1
  unfold dig8
  rw [UInt8.toNat_ofNat']
  have := UInt8.toNat_lt c
  omega
set_option maxRecDepth 100000 in
/-- Numbers in octal digits are read. -/
theorem numF_oct (r : List UInt8) : ∀ (k : Nat) (n : Int) (acc : Nat), 0 ≤ n → (acc : Int) * 8 ^ k + n % 8 ^ k ≤ 9007199254740992 →
    ∃ m : Nat, (m : Int) = acc * 8 ^ k + n % 8 ^ k ∧ numF (octL k n ++ r) acc = numF r m
  | 0, n, acc, hn, h => ⟨acc, by simp [Int.emod_one], rfl⟩
  | k + 1, n, acc, hn, h => by
    have hp : (0 : Int) < 8 ^ k := Int.pow_pos (by omega)
    have hd0 : 0 ≤ n / 8 ^ k % 8 := Int.emod_nonneg _ (by omega)
    have hd8 : n / 8 ^ k % 8 < 8 := Int.emod_lt_of_pos _ (by omega)
    obtain ⟨d, hd⟩ : ∃ d : Nat, (n / 8 ^ k % 8) = d := ⟨(n / 8 ^ k % 8).toNat, by omega⟩
    have hsplit : n % 8 ^ (k + 1) = (d : Int) * 8 ^ k + n % 8 ^ k := by
      have hA := Int.emod_add_mul_ediv n (8 ^ k)
      have hB := Int.emod_add_mul_ediv (n / 8 ^ k) 8
      have hr0 : 0 ≤ n % 8 ^ k := Int.emod_nonneg _ (by omega)
      have hr1 : n % 8 ^ k < 8 ^ k := Int.emod_lt_of_pos _ hp
      rw [Int.pow_succ]
      rw [hd] at hB
      have h7 : (8 : Int) ^ k * d ≤ 8 ^ k * 7 := Int.mul_le_mul_of_nonneg_left (by omega) (by omega)
      have h00 : 0 ≤ (8 : Int) ^ k * d := Int.mul_nonneg (by omega) (by omega)
      have hn2 : n = (n % 8 ^ k + 8 ^ k * d) + (8 ^ k * 8) * (n / 8 ^ k / 8) := by
        rw [Int.mul_assoc, Int.add_assoc, ← Int.mul_add, hB]
        exact hA.symm
      generalize n % 8 ^ k = r1 at *
      generalize n / 8 ^ k / 8 = b1 at *
      rw [hn2, Int.add_mul_emod_self_left, Int.emod_eq_of_lt (by omega) (by omega)]
      rw [Int.add_comm, Int.mul_comm]
    have hm : (acc : Int) * 8 ^ (k + 1) + n % 8 ^ (k + 1) = ((8 * acc + d : Nat) : Int) * 8 ^ k + n % 8 ^ k := by
      rw [hsplit, Int.pow_succ]
      push_cast
      rw [Int.add_mul, Int.mul_comm (8 ^ k) 8, ← Int.mul_assoc, Int.mul_comm (acc : Int) 8, Int.add_assoc]
    have hr : 0 ≤ n % 8 ^ k := Int.emod_nonneg _ (by omega)
    have hacc : acc ≤ 9007199254740992 := by
      have h1 : (acc : Int) * 1 ≤ acc * 8 ^ (k + 1) := Int.mul_le_mul_of_nonneg_left (by rw [Int.pow_succ]; omega) (by omega)
      have h2 : 0 ≤ n % 8 ^ (k + 1) := Int.emod_nonneg _ (by rw [Int.pow_succ]; omega)
      omega
    obtain ⟨m, hm1, hm2⟩ := numF_oct r k n (8 * acc + d) hn (by rw [← hm]; exact h)
    refine ⟨m, by rw [hm1, hm], ?_⟩
    rw [octL, hd, Int.toNat_natCast, List.cons_append, numF, dig8_toNat d (by omega), if_pos (by omega), if_pos hacc, show 48 + d - 48 = d by omega]
    exact hm2
set_option maxRecDepth 100000 in
theorem octal_back (n width : Int) (X : List UInt8) (hn : n ≤ 9007199254740992) (h : octalA n width = (X, 0)) : numberA X = (n.toNat, 0) ∧ 0 ≤ n ∧ (X.length : Int) = width := by
  unfold octalA at h
  split at h
  · exact absurd (congrArg Prod.snd h) (by simp)
  rename_i hw
  split at h
  · exact absurd (congrArg Prod.snd h) (by simp)
  rename_i hz
  have hz := Decidable.not_not.1 hz
  have hX := congrArg Prod.fst h
  dsimp only at hX
  obtain ⟨k, hk⟩ : ∃ k, width.toNat - 1 = k + 1 := ⟨width.toNat - 2, by omega⟩
  rw [hk] at hz hX
  have hp : (0 : Int) < 8 ^ (k + 1) := Int.pow_pos (by omega)
  have h0 : 0 ≤ n := by
    rcases Int.lt_or_le n 0 with h | h
    · have := Int.ediv_neg_of_neg_of_pos h hp
      omega
    · exact h
  have hlt : n % 8 ^ (k + 1) = n := by
    have := Int.emod_add_mul_ediv n (8 ^ (k + 1))
    rw [hz, Int.mul_zero] at this
    omega
  obtain ⟨m, hm1, hm2⟩ := numF_oct [0] (k + 1) n 0 h0 (by rw [hlt]; simp; exact hn)
  have hmn : m = n.toNat := by rw [hlt] at hm1; simp at hm1; omega
  have hcut : cutF 32 32 X = X := by
    rw [← hX, octL, List.cons_append, cutF, if_neg]
    have hd0 : 0 ≤ n / 8 ^ k % 8 := Int.emod_nonneg _ (by omega)
    have hd8 : n / 8 ^ k % 8 < 8 := Int.emod_lt_of_pos _ (by omega)
    rw [dig8_toNat _ (by omega)]
    omega
  have hnum : numF X 0 = (n.toNat, [0]) := by
    rw [← hX, hm2, hmn]
    rfl
  refine ⟨?_, h0, ?_⟩
  · unfold numberA
    rw [hcut, hnum]
    dsimp only
    rw [show cutF 32 0 [0] = [] from rfl, if_neg (fun h => h rfl), if_neg (by omega)]
  · rw [← hX, List.length_append, octL_length]
    simp
    omega
/-- The digits of a number. -/
def decL (n : Nat) : List UInt8 := if n < 10 then [dig8 n] else decL (n / 10) ++ [dig8 (n % 10)]
  termination_by n
theorem digF_dec : ∀ (f n : Nat) (o : List UInt8), n ≤ f → digF f n (dig8 (n % 10) :: o) = decL n ++ o
  | 0, n, o, h => by
    obtain rfl : n = 0 := by omega
    rw [digF, decL]
    rfl
  | f + 1, n, o, h => by
    rw [digF, decL]
    by_cases e : 10 ≤ n
    · rw [if_pos e, if_neg (by omega), digF_dec f (n / 10) _ (by omega), List.append_assoc]
      rfl
    · rw [if_neg e, if_pos (by omega), Nat.mod_eq_of_lt (by omega)]
      rfl
theorem digits_dec (n : Nat) : digitsA n = decL n := by
  unfold digitsA
  rw [if_neg (by omega), Int.toNat_natCast, digF_dec n n [] (Nat.le_refl _), List.append_nil]
set_option maxRecDepth 100000 in
theorem decL_ne (n : Nat) : decL n ≠ [] := by
  rw [decL]
  split
  · exact List.cons_ne_nil _ _
  · simp
theorem decL_head (n : Nat) (h : 1 ≤ n) : (decL n).getD 0 0 ≠ 48 := by
  induction n using Nat.strongRecOn with
  | ind n ih =>
    rw [decL]
    by_cases e : n < 10
    · rw [if_pos e]
      show dig8 n ≠ 48
      intro hh
      have := congrArg UInt8.toNat hh
      rw [dig8_toNat n e] at this
      have h48 : (48 : UInt8).toNat = 48 := rfl
      omega
    · rw [if_neg e]
      have hp : 0 < (decL (n / 10)).length := List.length_pos_iff.2 (decL_ne _)
      rw [List.getD_eq_getElem?_getD, List.getElem?_append_left hp, ← List.getD_eq_getElem?_getD]
      exact ih (n / 10) (by omega) (by omega)
theorem decF_digit (c : Nat) (hc : c < 10) (r : List UInt8) (n : Nat) (hn : n ≤ 9007199254740992) : decF (dig8 c :: r) n = decF r (10 * n + c) := by
  rw [decF, dig8_toNat c hc, if_neg (by omega), if_pos hn, show 48 + c - 48 = c by omega]
theorem decF_dec (n : Nat) (hn : n ≤ 90071992547409929) : ∀ r, decF (decL n ++ r) 0 = decF r n := by
  induction n using Nat.strongRecOn with
  | ind n ih =>
    intro r
    rw [decL]
    by_cases e : n < 10
    · rw [if_pos e, List.cons_append, List.nil_append, decF_digit n e r 0 (by omega)]
      congr 1
      omega
    · rw [if_neg e, List.append_assoc, ih (n / 10) (by omega) (by omega), List.cons_append, List.nil_append, decF_digit _ (by omega) r _ (by omega)]
      congr 1
      omega
set_option maxRecDepth 100000 in
theorem decimal_digits (n : Nat) (hn : n ≤ 9007199254740992) : decimalA (decL n) = (n, 0) := by
  unfold decimalA
  rw [if_neg]
  · have h := decF_dec n (by omega) []
    rw [List.append_nil] at h
    rw [h]
    show (if 9007199254740992 < n then ((0 : Nat), (3 : Nat)) else (n, 0)) = _
    rw [if_neg (by omega)]
  · rintro (h | ⟨h1, h2⟩)
    · exact decL_ne n h
    · by_cases e : n = 0
      · subst e
        rw [decL] at h2
        simp at h2
      · exact decL_head n (by omega) h1
theorem decF_snoc (c : UInt8) : ∀ (p : List UInt8) (n : Nat), decF (p ++ [c]) n = (decF p n).bind fun m => decF [c] m
  | [], n => rfl
  | x :: p, n => by
    rw [List.cons_append, decF, decF]
    split
    · rfl
    · exact decF_snoc c p _
set_option maxRecDepth 100000 in
theorem dec_back_rev : ∀ (r : List UInt8) (n : Nat), r ≠ [] → ¬ ((r.reverse).getD 0 0 = 48 ∧ 1 < r.length) → decF r.reverse 0 = some n → n ≤ 9007199254740992 → decL n = r.reverse
  | [], _, h, _, _, _ => absurd rfl h
  | c :: p, n, _, hz, hd, hn => by
    rw [List.reverse_cons] at hz hd ⊢
    rw [decF_snoc] at hd
    have last : ∀ m, decF [c] m = some n → (48 ≤ c.toNat ∧ c.toNat ≤ 57) ∧ n = if m ≤ 9007199254740992 then 10 * m + (c.toNat - 48) else m := by
      intro m h
      rw [decF] at h
      split at h
      · exact absurd h (by simp)
      · rename_i g
        rw [decF] at h
        exact ⟨by omega, (Option.some.inj h).symm⟩
    cases p with
    | nil =>
      obtain ⟨h1, h2⟩ := last 0 hd
      rw [if_pos (by omega)] at h2
      rw [decL, if_pos (by omega), h2, show 10 * 0 + (c.toNat - 48) = c.toNat - 48 by omega, dig8_self c h1.1]
      rfl
    | cons x q =>
      have hpos : 0 < (x :: q).reverse.length := by simp
      have hz2 : ((x :: q).reverse).getD 0 0 ≠ 48 := fun h => hz ⟨by
        rw [List.getD_eq_getElem?_getD, List.getElem?_append_left hpos, ← List.getD_eq_getElem?_getD]
        exact h, by simp⟩
      cases hdp : decF (x :: q).reverse 0 with
      | none => rw [hdp] at hd; exact absurd hd (by simp)
      | some m =>
        rw [hdp] at hd
        obtain ⟨h1, h2⟩ := last m hd
        by_cases g : m ≤ 9007199254740992
        · rw [if_pos g] at h2
          have ih := dec_back_rev (x :: q) m (List.cons_ne_nil _ _) (fun h => hz2 h.1) hdp g
          have hm : m ≠ 0 := by
            intro h0
            rw [h0, decL, if_pos (by omega)] at ih
            rw [← ih] at hz2
            exact hz2 rfl
          rw [decL, if_neg (by omega), show n / 10 = m by omega, show n % 10 = c.toNat - 48 by omega, ih, dig8_self c h1.1]
        · rw [if_neg g] at h2
          omega
set_option maxRecDepth 100000 in
theorem decimal_back (s : List UInt8) (d : Nat) (h : decimalA s = (d, 0)) : decL d = s := by
  unfold decimalA at h
  split at h
  · exact absurd (congrArg Prod.snd h) (by simp)
  rename_i hc
  cases hd : decF s 0 with
  | none => rw [hd] at h; exact absurd (congrArg Prod.snd h) (show ¬ (150 : Nat) = 0 by decide)
  | some n =>
    rw [hd] at h
    have h : (if 9007199254740992 < n then ((0 : Nat), (3 : Nat)) else (n, 0)) = (d, 0) := h
    split at h
    · exact absurd (congrArg Prod.snd h) (by simp)
    rename_i hn
    obtain rfl : n = d := congrArg Prod.fst h
    have hr := dec_back_rev s.reverse n (by simp; exact fun x => hc (.inl x)) (by rw [List.reverse_reverse, List.length_reverse]; exact fun x => hc (.inr x)) (by rw [List.reverse_reverse]; exact hd) (by omega)
    rw [List.reverse_reverse] at hr
    exact hr
theorem cutZ_pad (k : Nat) : ∀ s : List UInt8, cutZ s = s → cutZ (s ++ List.replicate k 0) = s
  | [], _ => by
    cases k with
    | zero => rfl
    | succ k => rw [List.nil_append, List.replicate_succ, cutZ, if_pos rfl]
  | c :: s, h => by
    rw [cutZ] at h
    split at h
    · exact absurd h.symm (List.cons_ne_nil _ _)
    · rename_i g
      rw [List.cons_append, cutZ, if_neg g, cutZ_pad k s (List.cons.inj h).2]
set_option maxRecDepth 100000 in
theorem text_back (s : List UInt8) (width : Int) (X : List UInt8) (h : textA s width = (X, 0)) : cutZ X = s ∧ (X.length : Int) = width := by
  unfold textA at h
  split at h
  · exact absurd (congrArg Prod.snd h) (by simp)
  rename_i hw
  split at h
  · exact absurd (congrArg Prod.snd h) (by simp)
  rename_i hl
  have hX := congrArg Prod.fst h
  dsimp only at hX
  have hcz : cutZ s = s := Decidable.not_not.1 fun x => hl (.inr x)
  refine ⟨by rw [← hX]; exact cutZ_pad _ s hcz, ?_⟩
  have hls : ¬ width < (s.length : Int) := fun x => hl (.inl x)
  rw [← hX, List.length_append, List.length_replicate]
  omega
/-- The sum of a sector of which one byte is another. -/
theorem sumF_set (s : List UInt8) (a : Nat) (x : UInt8) (ha : a < s.length) : ∀ q, (q ≤ a → sumF (s.set a x) q = sumF s q) ∧
    (a < q → if a < 148 ∨ 155 < a then sumF (s.set a x) q + (s.getD a 0).toNat = sumF s q + x.toNat else sumF (s.set a x) q = sumF s q)
  | 0 => ⟨fun _ => rfl, fun h => absurd h (by omega)⟩
  | q + 1 => by
    have ih := sumF_set s a x ha q
    have hne : q ≠ a → (s.set a x).getD q 0 = s.getD q 0 := fun h => by
      rw [List.getD_eq_getElem?_getD, List.getElem?_set_ne (Ne.symm h), ← List.getD_eq_getElem?_getD]
    have heq : (s.set a x).getD a 0 = x := by
      rw [List.getD_eq_getElem?_getD, List.getElem?_set_self ha]
      rfl
    constructor
    · intro h
      rw [sumF_next, sumF_next, ih.1 (by omega), hne (by omega)]
    · intro h
      rw [sumF_next, sumF_next]
      by_cases e : q = a
      · subst e
        rw [heq, ih.1 (Nat.le_refl _)]
        by_cases g : q < 148 ∨ 155 < q
        · rw [if_pos g, if_pos g, if_pos g]
          omega
        · rw [if_neg g, if_neg g, if_neg g]
      · have i2 := ih.2 (by omega)
        rw [hne e]
        by_cases g : a < 148 ∨ 155 < a
        · rw [if_pos g] at i2 ⊢
          omega
        · rw [if_neg g] at i2 ⊢
          rw [i2]
theorem sum_turned (s : List UInt8) (a : Nat) (x : UInt8) (hs : s.length = 512) (ha : a < 512) (hx : x ≠ s.getD a 0) : sumA s = (256 + sumF s 512, 0) ∧ sumA (s.set a x) = (256 + sumF (s.set a x) 512, 0) ∧ (256 + sumF s 512 = 256 + sumF (s.set a x) 512 ↔ 148 ≤ a ∧ a < 156) := by
  refine ⟨by unfold sumA; rw [if_neg (by omega)], by unfold sumA; rw [List.length_set, if_neg (by omega)], ?_⟩
  have h := (sumF_set s a x (by omega) 512).2 ha
  have hne : x.toNat ≠ (s.getD a 0).toNat := fun hh => hx (UInt8.toNat_inj.1 hh)
  by_cases g : a < 148 ∨ 155 < a
  · rw [if_pos g] at h
    omega
  · rw [if_neg g] at h
    omega
end Go.Proofs.YtdjmfkodjjjhfaaGreatDoor
