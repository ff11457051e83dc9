/- Plain mathematics: the register of 32 bits as a number, bit by bit, byte by byte, by a table, and its linearity. No conditions. -/
import Derived.Test.YtkhabmbclepjpaaCp
namespace Go.Proofs.Ytkhabmbclepjpaa

/-- The register moved up by one bit. -/
def crcBit (c : Nat) : Nat := (2 * c % 4294967296) ^^^ (if 2147483648 ≤ c then 79764919 else 0)
def crcIter : Nat → Nat → Nat
  | 0, c => c
  | n + 1, c => crcIter n (crcBit c)
/-- The register that eats a byte. -/
def crcByte (c b : Nat) : Nat := crcIter 8 (c ^^^ (b * 16777216))

theorem xor_mod2 (a b : Nat) : (a ^^^ b) % 2 = (a % 2 + b % 2) % 2 := by
  have h : (a ^^^ b) % 2 = (a % 2) ^^^ (b % 2) := Nat.xor_mod_two_pow (n := 1)
  have ha : a % 2 = 0 ∨ a % 2 = 1 := by omega
  have hb : b % 2 = 0 ∨ b % 2 = 1 := by omega
  rw [h]
  rcases ha with ha | ha <;> rcases hb with hb | hb <;> rw [ha, hb] <;> rfl
theorem xor_div2 (a b : Nat) : (a ^^^ b) / 2 = a / 2 ^^^ b / 2 := by
  apply Nat.eq_of_testBit_eq
  intro i
  rw [Nat.testBit_xor, Nat.testBit_div_two, Nat.testBit_div_two, Nat.testBit_div_two, Nat.testBit_xor]
theorem addP_snoc (X : List Nat) : ∀ (Y : List Nat) (x y : Nat), X.length = Y.length → addP (X ++ [x]) (Y ++ [y]) = addP X Y ++ [(x + y) % 2] := by
  induction X with
  | nil =>
    intro Y x y h
    have : Y = [] := List.eq_nil_of_length_eq_zero h.symm
    subst this
    rfl
  | cons z X ih =>
    intro Y x y h
    cases Y with
    | nil => cases h
    | cons w Y => rw [List.cons_append, List.cons_append, addP, addP, ih Y x y (by simpa using h), List.cons_append]
theorem bitsN_xor (n : Nat) : ∀ a b, bitsN (a ^^^ b) n = addP (bitsN a n) (bitsN b n) := by
  induction n with
  | zero => intro a b; rfl
  | succ n ih =>
    intro a b
    rw [bitsN, bitsN, bitsN, addP_snoc _ _ _ _ (by rw [bitsN_length, bitsN_length]), xor_div2, ih, xor_mod2]
theorem bitsN_mod (n v : Nat) : bitsN (v % 2 ^ n) n = bitsN v n := by
  have h1 : val (bitsN v n) = v % 2 ^ n := val_bitsN n v
  have h2 := bitsN_val (bitsN v n) (bit01_bitsN n v)
  rw [bitsN_length, h1] at h2
  exact h2
theorem bitsN_eq {n a b : Nat} (h : bitsN a n = bitsN b n) (ha : a < 2 ^ n) (hb : b < 2 ^ n) : a = b := by
  have h1 := congrArg val h
  rw [val_bitsN, val_bitsN, Nat.mod_eq_of_lt ha, Nat.mod_eq_of_lt hb] at h1
  exact h1
theorem pL_tail : pL.drop 1 = bitsN 79764919 32 := by decide
theorem crcBit_lt (c : Nat) : crcBit c < 4294967296 := by
  unfold crcBit
  exact Nat.xor_lt_two_pow (n := 32) (Nat.mod_lt _ (by omega)) (by split <;> omega)
theorem crcIter_lt (n : Nat) : ∀ c, c < 4294967296 → crcIter n c < 4294967296 := by
  induction n with
  | zero => intro c h; exact h
  | succ n ih => intro c _; exact ih _ (crcBit_lt c)
theorem crcByte_lt (c b : Nat) : crcByte c b < 4294967296 := crcIter_lt 7 _ (crcBit_lt _)
theorem bitsN_one (v : Nat) : bitsN v 1 = [v % 2] := rfl
theorem top_bit (c : Nat) (h : c < 4294967296) : bitsN c 32 = (c / 2147483648) :: bitsN c 31 := by
  have h2 : bitsN c (1 + 31) = bitsN (c / 2147483648) 1 ++ bitsN c 31 := bitsN_add 31 c 1
  have h3 : c / 2147483648 % 2 = c / 2147483648 := Nat.mod_eq_of_lt (by omega)
  rw [bitsN_one, h3, List.singleton_append] at h2
  exact h2
theorem up_bit (c : Nat) : bitsN c 31 ++ [0] = bitsN (2 * c % 4294967296) 32 := by
  have h3 : bitsN (c * 2) (31 + 1) = bitsN c 31 ++ [0] := bitsN_shift c 1 31
  have h4 : bitsN (2 * c % 4294967296) 32 = bitsN (2 * c) 32 := bitsN_mod 32 (2 * c)
  rw [h4, ← h3, Nat.mul_comm]
theorem bitL_bitsN (c : Nat) (h : c < 4294967296) : bitL (bitsN c 32) 0 = bitsN (crcBit c) 32 := by
  rw [top_bit c h, bitL_cons, up_bit, pL_tail, crcBit]
  by_cases hc : 2147483648 ≤ c
  · rw [if_pos (by omega), if_pos hc, bitsN_xor]
  · rw [if_neg (by omega), if_neg hc, Nat.xor_zero]
def iterL : Nat → List Nat → List Nat
  | 0, r => r
  | n + 1, r => iterL n (bitL r 0)
theorem iterL_bitsN (n : Nat) : ∀ c, c < 4294967296 → iterL n (bitsN c 32) = bitsN (crcIter n c) 32 := by
  induction n with
  | zero => intro c _; rfl
  | succ n ih => intro c h; rw [iterL, bitL_bitsN c h, ih _ (crcBit_lt c)]; rfl
theorem dirL_iterL (M : List Nat) : ∀ r : List Nat, r.length = 32 → M.length ≤ 32 → dirL r M = iterL M.length (addP r M) := by
  induction M with
  | nil => intro r _ _; rw [addP_nil]; rfl
  | cons m M ih =>
    intro r hl hM
    cases r with
    | nil => cases hl
    | cons x xs =>
      have hxl : xs.length = 31 := by simpa using hl
      have hMl : M.length ≤ 31 := by simpa using hM
      have e1 : bitL (addP (x :: xs) (m :: M)) 0 = addP (bitL (x :: xs) m) M := by
        rw [addP, bitL_cons, bitL_cons, Nat.add_zero, Nat.mod_mod, ← addP_append xs [0] M (by omega)]
        split
        · exact addP_comm _ _ _
        · rfl
      rw [List.length_cons, iterL, e1, ← ih _ (by rw [bitL_length]; exact hl) (by omega)]
      rfl
theorem dirL_byte (c b : Nat) (hc : c < 4294967296) (hb : b < 256) : dirL (bitsN c 32) (bitsN b 8) = bitsN (crcByte c b) 32 := by
  have h1 : addP (bitsN c 32) (bitsN b 8) = bitsN (c ^^^ (b * 16777216)) 32 := by
    rw [bitsN_xor, show b * 16777216 = b * 2 ^ 24 from rfl, bitsN_shift b 24 8, addP_pad _ _ _ (bit01_bitsN 32 c)]
  rw [dirL_iterL _ _ (bitsN_length _ _) (by rw [bitsN_length]; omega), bitsN_length, h1, iterL_bitsN _ _ (Nat.xor_lt_two_pow (n := 32) hc (by omega))]
  rfl
theorem dirL_bytes (l : List UInt8) : ∀ c, c < 4294967296 → dirL (bitsN c 32) (bitsB l) = bitsN (l.foldl (fun c b => crcByte c b.toNat) c) 32 := by
  induction l with
  | nil => intro c _; rfl
  | cons b l ih =>
    intro c hc
    rw [bitsB_cons, dirL, List.foldl_append]
    show dirL (dirL (bitsN c 32) (bitsN b.toNat 8)) (bitsB l) = _
    rw [dirL_byte c b.toNat hc b.toNat_lt, ih _ (crcByte_lt _ _)]
    rfl
/-- The register behind a text. -/
def crcFold (c : Nat) (l : List UInt8) : Nat := l.foldl (fun c b => crcByte c b.toNat) c
theorem crcFold_lt (l : List UInt8) : ∀ c, c < 4294967296 → crcFold c l < 4294967296 := by
  induction l with
  | nil => intro c h; exact h
  | cons b l ih => intro c _; exact ih _ (crcByte_lt _ _)
theorem moreN_fold (c : Nat) (l : List UInt8) (hc : c < 4294967296) : moreN c l = crcFold c l := by
  unfold moreN
  rw [moreL_dirL, dirL_bytes l c hc, val_bitsN]
  exact Nat.mod_eq_of_lt (crcFold_lt l c hc)
theorem crcFold_append (c : Nat) (a b : List UInt8) : crcFold c (a ++ b) = crcFold (crcFold c a) b := List.foldl_append

end Go.Proofs.Ytkhabmbclepjpaa
