/- Bytes as sixteen rows of sixteen bits: which bytes rows hold, what they say, what is told of them: plain. No conditions. -/
import Derived.Test.YtcmhcfbmjceioaaJa
namespace Go.Proofs.Ytcmhcfbmjceioaa

/-- Rows hold which bytes there are. -/
def RepF (P : Nat → Bool) (f : Nat → Nat) : Prop := ∀ i, i < 16 → f i < 65536 ∧ ∀ k, k < 16 → (f i).testBit (15 - k) = P (16 * i + k)
/-- One byte more. -/
def orF (f : Nat → Nat) (b : Nat) : Nat → Nat := fun i => if i = b / 16 then f (b / 16) ||| 2 ^ (15 - b % 16) else f i
theorem rep_none : RepF (fun _ => false) (fun _ => 0) := fun _ _ => ⟨Nat.zero_lt_succ _, fun _ _ => Nat.zero_testBit _⟩
theorem orF_lt {f : Nat → Nat} (hf : ∀ i, i < 16 → f i < 65536) (b : Nat) : ∀ i, i < 16 → orF f b i < 65536 := by
  intro i hi
  unfold orF
  split
  · refine Nat.or_lt_two_pow (n := 16) (hf _ (by omega)) ?_
    exact Nat.pow_lt_pow_right (by decide) (by omega)
  · exact hf i hi
theorem rep_or {P : Nat → Bool} {f : Nat → Nat} (h : RepF P f) (b : Nat) : RepF (fun x => P x || x == b) (orF f b) := by
  intro i hi
  refine ⟨orF_lt (fun j hj => (h j hj).1) b i hi, fun k hk => ?_⟩
  unfold orF
  by_cases e : i = b / 16
  · rw [if_pos e, Nat.testBit_or, Nat.testBit_two_pow, ← e, (h i hi).2 k hk]
    congr 1
    by_cases e2 : 16 * i + k = b
    · have e3 : 15 - b % 16 = 15 - k := by omega
      rw [e3, e2]
      simp
    · have e3 : ¬ 15 - b % 16 = 15 - k := by omega
      simp [e2, e3]
  · rw [if_neg e, (h i hi).2 k hk]
    have e2 : ¬ 16 * i + k = b := by omega
    simp [e2]
theorem bit_and_pow (x n : Nat) : (x &&& 2 ^ n ≠ 0) = (x.testBit n = true) := by
  rw [Nat.testBit_eq_decide_div_mod_eq, decide_eq_true_eq]
  apply propext
  constructor
  · intro h
    have := Nat.testBit_two_pow_self (n := n)
    by_cases e : x / 2 ^ n % 2 = 1
    · exact e
    · exfalso
      refine h (Nat.eq_of_testBit_eq fun i => ?_)
      rw [Nat.testBit_and, Nat.testBit_two_pow, Nat.zero_testBit]
      by_cases e2 : n = i
      · subst e2
        rw [Nat.testBit_eq_decide_div_mod_eq]
        simp [e]
      · simp [e2]
  · intro h h0
    have h1 : (x &&& 2 ^ n).testBit n = false := by rw [h0, Nat.zero_testBit]
    rw [Nat.testBit_and, Nat.testBit_two_pow_self, Nat.testBit_eq_decide_div_mod_eq, h] at h1
    simp at h1
theorem zero_bits (x : Nat) (h : x < 65536) : x = 0 ↔ ∀ k, k < 16 → x.testBit (15 - k) = false := by
  constructor
  · intro e k _
    rw [e, Nat.zero_testBit]
  · intro hk
    refine Nat.eq_of_testBit_eq fun i => ?_
    rw [Nat.zero_testBit]
    by_cases hi : i < 16
    · have := hk (15 - i) (by omega)
      rw [show 15 - (15 - i) = i by omega] at this
      exact this
    · exact Nat.testBit_lt_two_pow (Nat.lt_of_lt_of_le h (by
        have : 2 ^ 16 ≤ 2 ^ i := Nat.pow_le_pow_right (by decide) (by omega)
        exact this))
/-- Sixteen bits by their places. -/
theorem bits16 (x : Nat) (g : Nat → Nat) (h : ∀ k, k < 16 → g k = if x.testBit (15 - k) then 1 else 0) : bitsN x 16 = (List.range 16).map g := by
  apply List.ext_getElem?
  intro i
  by_cases hi : i < 16
  · rw [bitsN_get 16 x i hi, List.getElem?_map, List.getElem?_range hi, Option.map_some, h i hi, show 16 - 1 - i = 15 - i by omega, Nat.testBit_eq_decide_div_mod_eq]
    have := Nat.mod_two_eq_zero_or_one (x / 2 ^ (15 - i))
    rcases this with e | e <;> simp [e]
  · rw [List.getElem?_eq_none (by rw [bitsN_length]; omega), List.getElem?_eq_none (by simp; omega)]

/-- The bytes that one row says; that rows say. -/
def rowOf (x i : Nat) : List UInt8 := ((List.range 16).filter fun k => x.testBit (15 - k)).map fun k => UInt8.ofNat (16 * i + k)
def risingF (f : Nat → Nat) : List UInt8 := (List.range 16).flatMap fun i => rowOf (f i) i
/-- The first q bytes gone over. -/
def riseN (f : Nat → Nat) (q : Nat) : List UInt8 := ((List.range q).filter fun b => (f (b / 16)).testBit (15 - b % 16)).map UInt8.ofNat
theorem rise_next (f : Nat → Nat) (q : Nat) : riseN f (q + 1) = if (f (q / 16)).testBit (15 - q % 16) then riseN f q ++ [UInt8.ofNat q] else riseN f q := by
  unfold riseN
  rw [List.range_succ, List.filter_append, List.map_append]
  by_cases e : (f (q / 16)).testBit (15 - q % 16) = true
  · simp [e]
  · simp [e]
theorem rise_row (f : Nat → Nat) (n : Nat) : ∀ m, m ≤ 16 → riseN f (16 * n + m) = riseN f (16 * n) ++ ((List.range m).filter fun k => (f n).testBit (15 - k)).map fun k => UInt8.ofNat (16 * n + k)
  | 0, _ => by simp
  | m + 1, h => by
    rw [← Nat.add_assoc, rise_next, rise_row f n m (by omega), List.range_succ, List.filter_append, List.map_append, show (16 * n + m) / 16 = n by omega, show (16 * n + m) % 16 = m by omega]
    by_cases e : (f n).testBit (15 - m) = true
    · simp [e]
    · simp [e]
theorem rise_rows (f : Nat → Nat) : ∀ n, riseN f (16 * n) = (List.range n).flatMap fun i => rowOf (f i) i
  | 0 => rfl
  | n + 1 => by
    rw [Nat.mul_succ, rise_row f n 16 (Nat.le_refl _), rise_rows f n, List.range_succ (n := n), List.flatMap_append]
    simp [rowOf]
theorem rise_all (f : Nat → Nat) : riseN f 256 = risingF f := rise_rows f 16
theorem rise_length (f : Nat → Nat) (q : Nat) : (riseN f q).length ≤ q := by
  unfold riseN
  rw [List.length_map]
  exact Nat.le_trans (List.length_filter_le ..) (Nat.le_of_eq List.length_range)
/-- Rows that hold a text's bytes say these. -/
theorem rising_of (s : List UInt8) (f : Nat → Nat) (h : RepF (fun b => decide (UInt8.ofNat b ∈ s)) f) : risingF f = ofL s := by
  rw [← rise_all]
  unfold riseN ofL allB
  rw [List.filter_map]
  congr 1
  refine List.filter_congr fun b hb => ?_
  have hb := List.mem_range.1 hb
  rw [(h (b / 16) (by omega)).2 (b % 16) (by omega), show 16 * (b / 16) + b % 16 = b by omega]
  rfl
/-- One byte more of a text. -/
theorem rep_byte (s : List UInt8) (q : Nat) (hq : q < s.length) (f : Nat → Nat) (h : RepF (fun b => decide (UInt8.ofNat b ∈ s.take q)) f) :
    RepF (fun b => decide (UInt8.ofNat b ∈ s.take (q + 1))) (orF f (s.getD q 0).toNat) := by
  have h1 := rep_or h (s.getD q 0).toNat
  intro i hi
  refine ⟨(h1 i hi).1, fun k hk => ?_⟩
  rw [(h1 i hi).2 k hk]
  have e : s.getD q 0 = s[q] := by rw [List.getD_eq_getElem?_getD, List.getElem?_eq_getElem hq]; rfl
  have hb := UInt8.toNat_lt s[q]
  have e2 : (16 * i + k == s[q].toNat) = decide (UInt8.ofNat (16 * i + k) = s[q]) := by
    rw [Bool.beq_eq_decide_eq]
    refine decide_eq_decide.2 ⟨fun h => by rw [h, UInt8.ofNat_toNat], fun h => ?_⟩
    rw [← h, UInt8.toNat_ofNat', Nat.mod_eq_of_lt (by omega)]
  rw [List.take_succ_eq_append_getElem hq, e]
  show (decide (UInt8.ofNat (16 * i + k) ∈ s.take q) || (16 * i + k == s[q].toNat)) = decide (UInt8.ofNat (16 * i + k) ∈ s.take q ++ [s[q]])
  rw [e2, ← Bool.decide_or]
  refine decide_eq_decide.2 ?_
  rw [List.mem_append, List.mem_singleton]

/-- Which rows have a byte, those below q. -/
def UseN (f : Nat → Nat) (q u : Nat) : Prop := u < 65536 ∧ ∀ k, k < 16 → u.testBit (15 - k) = (decide (k < q) && decide (f k ≠ 0))
theorem use_zero (f : Nat → Nat) : UseN f 0 0 := ⟨by decide, fun k _ => by simp⟩
theorem use_yes {f : Nat → Nat} {q u : Nat} (h : UseN f q u) (hq : q < 16) (h0 : f q ≠ 0) : UseN f (q + 1) (u ||| 2 ^ (15 - q)) := by
  refine ⟨Nat.or_lt_two_pow (n := 16) h.1 (Nat.pow_lt_pow_right (by decide) (by omega)), fun k hk => ?_⟩
  rw [Nat.testBit_or, Nat.testBit_two_pow, h.2 k hk]
  by_cases e : k = q
  · subst e
    simp [h0]
  · have e3 : ¬ 15 - q = 15 - k := by omega
    have e4 : (decide (k < q + 1)) = decide (k < q) := decide_eq_decide.2 (by omega)
    rw [e4]
    simp [e3]
theorem use_no {f : Nat → Nat} {q u : Nat} (h : UseN f q u) (h0 : f q = 0) : UseN f (q + 1) u := by
  refine ⟨h.1, fun k hk => ?_⟩
  rw [h.2 k hk]
  by_cases e : k = q
  · subst e
    simp [h0]
  · have e4 : (decide (k < q + 1)) = decide (k < q) := decide_eq_decide.2 (by omega)
    rw [e4]
theorem row_zero {a : List UInt8} {f : Nat → Nat} (h : RepF (fun b => decide (UInt8.ofNat b ∈ a)) f) {i : Nat} (hi : i < 16) : f i = 0 ↔ rowB a i = 0 := by
  rw [zero_bits (f i) (h i hi).1]
  unfold rowB
  constructor
  · intro hk
    rw [if_neg]
    rw [List.any_eq_true]
    rintro ⟨x, hx, hx2⟩
    have hb := UInt8.toNat_lt x
    have hd : x.toNat / 16 = i := by simpa using hx2
    have h3 := (h i hi).2 (x.toNat % 16) (by omega)
    rw [hk (x.toNat % 16) (by omega), show 16 * i + x.toNat % 16 = x.toNat by omega] at h3
    replace h3 : false = decide (UInt8.ofNat x.toNat ∈ a) := h3
    rw [UInt8.ofNat_toNat] at h3
    simp [hx] at h3
  · intro hr k hk
    rw [(h i hi).2 k hk, decide_eq_false_iff_not]
    intro hm
    rw [if_pos] at hr
    · simp at hr
    · rw [List.any_eq_true]
      refine ⟨_, hm, ?_⟩
      rw [UInt8.toNat_ofNat', Nat.mod_eq_of_lt (by omega), show (16 * i + k) / 16 = i by omega]
      simp
/-- The first sixteen bits. -/
theorem use_bits {a : List UInt8} {f : Nat → Nat} (h : RepF (fun b => decide (UInt8.ofNat b ∈ a)) f) {u : Nat} (hu : UseN f 16 u) : bitsN u 16 = (List.range 16).map (rowB a) := by
  refine bits16 u _ fun k hk => ?_
  rw [hu.2 k hk]
  by_cases e : f k = 0
  · rw [(row_zero h hk).1 e]
    simp [e]
  · have : ¬ rowB a k = 0 := fun h2 => e ((row_zero h hk).2 h2)
    have e1 : rowB a k = 1 := by rcases rowB_le a k with h2 | h2 <;> omega
    rw [e1]
    simp [hk, e]
/-- A row's bits. -/
theorem row_bits {a : List UInt8} {f : Nat → Nat} (h : RepF (fun b => decide (UInt8.ofNat b ∈ a)) f) {i : Nat} (hi : i < 16) (h0 : f i ≠ 0) : bitsN (f i) 16 = rowBits a i := by
  have e1 : rowB a i = 1 := by
    have : ¬ rowB a i = 0 := fun h2 => h0 ((row_zero h hi).2 h2)
    rcases rowB_le a i with h2 | h2 <;> omega
  unfold rowBits
  rw [if_pos e1]
  refine bits16 _ _ fun k hk => ?_
  rw [(h i hi).2 k hk]
  unfold bitB
  simp only [decide_eq_true_eq]
theorem row_bits_none {a : List UInt8} {f : Nat → Nat} (h : RepF (fun b => decide (UInt8.ofNat b ∈ a)) f) {i : Nat} (hi : i < 16) (h0 : f i = 0) : rowBits a i = [] := by
  unfold rowBits
  rw [if_neg]
  rw [(row_zero h hi).1 h0]
  decide
/-- Symbols in bits, the first q rows told. -/
def showN (a : List UInt8) (q : Nat) : List Nat := (List.range 16).map (rowB a) ++ (List.range q).flatMap (rowBits a)
theorem show_next (a : List UInt8) (q : Nat) : showN a (q + 1) = showN a q ++ rowBits a q := by
  unfold showN
  rw [List.range_succ (n := q), List.flatMap_append, List.append_assoc]
  simp
theorem showN_length (a : List UInt8) (q : Nat) : (showN a q).length ≤ 16 + 16 * q := by
  induction q with
  | zero => simp [showN]
  | succ q ih =>
    rw [show_next, List.length_append, rowBits_length]
    rcases rowB_le a q with h | h <;> rw [h] <;> omega

/-- Sixteen bits that were read, by their places. -/
theorem val_bit (l : List Nat) (p k : Nat) (hb : Bit01 l) (hp : p + 16 ≤ l.length) (hk : k < 16) : (val ((l.drop p).take 16)).testBit (15 - k) = (l.getD (p + k) 0 == 1) := by
  have hlen : ((l.drop p).take 16).length = 16 := by rw [List.length_take, List.length_drop]; omega
  have h1 := bitsN_val ((l.drop p).take 16) ((hb.drop p).take 16)
  rw [hlen] at h1
  have h2 := bitsN_get 16 (val ((l.drop p).take 16)) k hk
  rw [h1, List.getElem?_take_of_lt hk, List.getElem?_drop, List.getElem?_eq_getElem (by omega), Option.some.injEq, show 16 - 1 - k = 15 - k by omega] at h2
  rw [Nat.testBit_eq_decide_div_mod_eq, ← h2, List.getD_eq_getElem?_getD, List.getElem?_eq_getElem (by omega)]
  rfl
theorem val_16 (l : List Nat) (p : Nat) (hb : Bit01 l) (hp : p + 16 ≤ l.length) : val ((l.drop p).take 16) < 65536 := by
  have hlen : ((l.drop p).take 16).length = 16 := by rw [List.length_take, List.length_drop]; omega
  have := val_lt ((l.drop p).take 16) ((hb.drop p).take 16)
  rw [hlen] at this
  exact this
theorem row_read (l : List Nat) (p i : Nat) (hb : Bit01 l) (hp : p + 16 ≤ l.length) : rowOf (val ((l.drop p).take 16)) i = takeRow l p i := by
  unfold rowOf takeRow
  congr 1
  refine List.filter_congr fun k hk => ?_
  exact val_bit l p k hb hp (List.mem_range.1 hk)
/-- Rows read so far: those from q on are noughts; the first q ones say out. -/
def TookN (f : Nat → Nat) (q : Nat) (out : List UInt8) : Prop := (∀ i, f i < 65536) ∧ (∀ i, q ≤ i → f i = 0) ∧ out = (List.range q).flatMap fun i => rowOf (f i) i
theorem row_nought (i : Nat) : rowOf 0 i = [] := by
  unfold rowOf
  rw [List.filter_eq_nil_iff.2 (fun k _ => by simp)]
  rfl
theorem took_none : TookN (fun _ => 0) 0 [] := ⟨fun _ => Nat.zero_lt_succ _, fun _ _ => rfl, rfl⟩
theorem took_no {f : Nat → Nat} {q : Nat} {out : List UInt8} (h : TookN f q out) : TookN f (q + 1) out := by
  refine ⟨h.1, fun i hi => h.2.1 i (by omega), ?_⟩
  rw [List.range_succ, List.flatMap_append, ← h.2.2]
  simp [h.2.1 q (Nat.le_refl _), row_nought]
theorem took_yes {f : Nat → Nat} {q x : Nat} {out : List UInt8} (h : TookN f q out) (hx : x < 65536) : TookN (fun i => if i = q then x else f i) (q + 1) (out ++ rowOf x q) := by
  refine ⟨fun i => ?_, fun i hi => ?_, ?_⟩
  · show (if i = q then x else f i) < 65536
    split
    · exact hx
    · exact h.1 i
  · show (if i = q then x else f i) = 0
    rw [if_neg (by omega)]
    exact h.2.1 i (by omega)
  · rw [List.range_succ, List.flatMap_append, h.2.2]
    have e : ((List.range q).flatMap fun i => rowOf (if i = q then x else f i) i) = (List.range q).flatMap fun i => rowOf (f i) i := by
      rw [List.flatMap_def, List.flatMap_def]
      congr 1
      refine List.map_congr_left fun i hi => ?_
      have := List.mem_range.1 hi
      rw [if_neg (by omega)]
    rw [e]
    simp
theorem took_all {f : Nat → Nat} {out : List UInt8} (h : TookN f 16 out) : risingF f = out := h.2.2.symm

end Go.Proofs.Ytcmhcfbmjceioaa
