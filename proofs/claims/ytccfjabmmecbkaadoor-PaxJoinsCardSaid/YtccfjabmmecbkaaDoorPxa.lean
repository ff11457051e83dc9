/- Pax: plain: records, what is written of pairs, and that it is read in one way. Written ahead of stage 17. -/
import Derived.Test.YtccfjabmmecbkaaDoorFdf
namespace Go.Proofs.YtccfjabmmecbkaaDoor
open Go.RowKit

abbrev PairL := List UInt8 × List UInt8
/-- A record behind its length. -/
def prestL (p : PairL) : List UInt8 := 32 :: (p.1 ++ 61 :: (p.2 ++ [10]))
/-- With how many digits a record of so many further bytes tells its length. -/
def digN (r : Nat) : Nat := if r ≤ 8 then 1 else if r ≤ 97 then 2 else if r ≤ 996 then 3 else if r ≤ 9995 then 4 else if r ≤ 99994 then 5 else 6
def recN (p : PairL) : Nat := digN (prestL p).length + (prestL p).length
def recL (p : PairL) : List UInt8 := decL (recN p) ++ prestL p
/-- May a key be? -/
def keyK (k : List UInt8) : Prop := k ≠ [] ∧ (61 : UInt8) ∉ k
instance (k : List UInt8) : Decidable (keyK k) := by unfold keyK; exact inferInstance
def flatP : List PairL → List UInt8
  | [] => []
  | p :: l => recL p ++ flatP l
def keysK (l : List PairL) : Prop := ∀ p, p ∈ l → keyK p.1
instance (l : List PairL) : Decidable (keysK l) := by unfold keysK; exact inferInstance
set_option maxRecDepth 100000 in
theorem prestL_length (p : PairL) : (prestL p).length = p.1.length + p.2.length + 3 := by
  simp only [prestL, List.length_cons, List.length_append, List.length_nil]
  omega
theorem decL_len1 (n : Nat) (h : n < 10) : (decL n).length = 1 := by rw [decL, if_pos h]; rfl
theorem decL_len (n : Nat) (h : 10 ≤ n) : (decL n).length = (decL (n / 10)).length + 1 := by
  rw [decL, if_neg (by omega), List.length_append]
  rfl
theorem decL_size (n : Nat) (h : n < 1000000) : (decL n).length = if n < 10 then 1 else if n < 100 then 2 else if n < 1000 then 3 else if n < 10000 then 4 else if n < 100000 then 5 else 6 := by
  by_cases h1 : n < 10
  · rw [if_pos h1, decL_len1 n h1]
  rw [if_neg h1, decL_len n (by omega)]
  by_cases h2 : n < 100
  · rw [if_pos h2, decL_len1 _ (by omega)]
  rw [if_neg h2, decL_len _ (by omega)]
  by_cases h3 : n < 1000
  · rw [if_pos h3, decL_len1 _ (by omega)]
  rw [if_neg h3, decL_len _ (by omega)]
  by_cases h4 : n < 10000
  · rw [if_pos h4, decL_len1 _ (by omega)]
  rw [if_neg h4, decL_len _ (by omega)]
  by_cases h5 : n < 100000
  · rw [if_pos h5, decL_len1 _ (by omega)]
  rw [if_neg h5, decL_len _ (by omega), decL_len1 _ (by omega)]
/-- The length is told with as many digits as were reckoned with. -/
theorem digN_right (r : Nat) (h : r ≤ 999993) : (decL (digN r + r)).length = digN r := by
  unfold digN
  repeat' split
  all_goals
    rw [decL_size _ (by omega)]
    repeat' split
    all_goals omega
/-- .. and with no fewer. -/
theorem digN_least (r d : Nat) (h : r ≤ 999993) (hd : d < digN r) : (decL (d + r)).length ≠ d := by
  have hdN : digN r ≤ 6 := by
    unfold digN
    repeat' split
    all_goals omega
  rw [decL_size _ (by omega)]
  unfold digN at hd
  repeat' split at hd
  all_goals
    repeat' split
    all_goals omega
theorem recL_length (p : PairL) (h : p.1.length + p.2.length ≤ 999990) : (recL p).length = recN p := by
  rw [recL, List.length_append]
  show _ = digN (prestL p).length + (prestL p).length
  rw [show recN p = digN (prestL p).length + (prestL p).length from rfl, digN_right _ (by rw [prestL_length]; omega)]
set_option maxRecDepth 100000 in
theorem decL_digits (n : Nat) : ∀ c, c ∈ decL n → 48 ≤ c.toNat ∧ c.toNat ≤ 57 := by
  induction n using decL.induct with
  | case1 n h =>
    intro c hc
    rw [decL, if_pos h] at hc
    rw [List.mem_singleton.1 hc, dig8_toNat n h]
    omega
  | case2 n h ih =>
    intro c hc
    rw [decL, if_neg h] at hc
    rcases List.mem_append.1 hc with hc | hc
    · exact ih c hc
    · rw [List.mem_singleton.1 hc, dig8_toNat _ (by omega)]
      omega
set_option maxRecDepth 100000 in
/-- Up to a byte that is not among the first ones. -/
theorem upto_cons (b : UInt8) : ∀ (x r : List UInt8), b ∉ x → (x ++ b :: r).takeWhile (· != b) = x ∧ (x ++ b :: r).dropWhile (· != b) = b :: r
  | [], r, _ => by simp
  | c :: x, r, h => by
    have hc : c ≠ b := fun e => h (by rw [e]; exact List.mem_cons_self)
    have hx : b ∉ x := fun e => h (List.mem_cons_of_mem _ e)
    obtain ⟨h1, h2⟩ := upto_cons b x r hx
    have hcb : (c != b) = true := by simpa using hc
    rw [List.cons_append, List.takeWhile_cons, List.dropWhile_cons, if_pos hcb, if_pos hcb, h1, h2]
    exact ⟨rfl, rfl⟩
theorem no_blank (n : Nat) : (32 : UInt8) ∉ decL n := fun h => by
  have := decL_digits n _ h
  have : (32 : UInt8).toNat = 32 := rfl
  omega
theorem no_eq (n : Nat) : (61 : UInt8) ∉ decL n := fun h => by
  have := decL_digits n _ h
  have : (61 : UInt8).toNat = 61 := rfl
  omega
/-- What a text of records tells first. -/
def lenR (s : List UInt8) : Nat := (decimalA (s.takeWhile (· != 32))).1
def readR (s : List UInt8) : PairL × List UInt8 :=
  (((((s.take (lenR s)).dropWhile (· != 32)).drop 1).takeWhile (· != 61), (((((s.take (lenR s)).dropWhile (· != 32)).drop 1).dropWhile (· != 61)).drop 1).dropLast), s.drop (lenR s))
theorem first_blank (p : PairL) (r : List UInt8) : (recL p ++ r).takeWhile (· != 32) = decL (recN p) ∧ (recL p ++ r).dropWhile (· != 32) = prestL p ++ r := by
  have e : recL p ++ r = decL (recN p) ++ 32 :: ((p.1 ++ 61 :: (p.2 ++ [10])) ++ r) := by
    rw [recL, prestL, List.append_assoc]
    rfl
  rw [e]
  exact upto_cons 32 (decL (recN p)) ((p.1 ++ 61 :: (p.2 ++ [10])) ++ r) (no_blank _)
theorem len_rec (p : PairL) (r : List UInt8) (h : p.1.length + p.2.length ≤ 999990) : decimalA ((recL p ++ r).takeWhile (· != 32)) = (recN p, 0) := by
  rw [(first_blank p r).1]
  refine decimal_digits _ ?_
  have : digN (prestL p).length ≤ 6 := by
    unfold digN
    repeat' split
    all_goals omega
  show digN (prestL p).length + (prestL p).length ≤ _
  rw [prestL_length] at *
  omega
theorem read_rec (p : PairL) (r : List UInt8) (hk : keyK p.1) (h : p.1.length + p.2.length ≤ 999990) : readR (recL p ++ r) = (p, r) := by
  have hl : lenR (recL p ++ r) = (recL p).length := by rw [lenR, len_rec p r h, recL_length p h]
  have h0 := (first_blank p []).2
  rw [List.append_nil, List.append_nil] at h0
  obtain ⟨h1, h2⟩ := upto_cons 61 p.1 (p.2 ++ [10]) hk.2
  rw [readR, hl, List.take_left, List.drop_left, h0, prestL, List.drop_succ_cons, List.drop_zero, h1, h2, List.drop_succ_cons, List.drop_zero, List.dropLast_concat]
theorem recL_ne (p : PairL) : recL p ≠ [] := by
  rw [recL]
  intro h
  exact decL_ne _ (List.append_eq_nil_iff.1 h).1
/-- So many bytes of keys and values at most. -/
def shortP (l : List PairL) : Prop := ∀ p, p ∈ l → p.1.length + p.2.length ≤ 999990
theorem flat_inj : ∀ (l m : List PairL), keysK l → keysK m → shortP l → shortP m → flatP l = flatP m → l = m
  | [], [], _, _, _, _, _ => rfl
  | [], q :: m, _, _, _, _, h => by
    have := (List.append_eq_nil_iff.1 (show recL q ++ flatP m = [] from h.symm)).1
    exact absurd this (recL_ne q)
  | p :: l, [], _, _, _, _, h => by
    have := (List.append_eq_nil_iff.1 (show recL p ++ flatP l = [] from h)).1
    exact absurd this (recL_ne p)
  | p :: l, q :: m, hl, hm, sl, sm, h => by
    have h1 := read_rec p (flatP l) (hl p List.mem_cons_self) (sl p List.mem_cons_self)
    have h2 := read_rec q (flatP m) (hm q List.mem_cons_self) (sm q List.mem_cons_self)
    rw [show recL p ++ flatP l = recL q ++ flatP m from h, h2] at h1
    have e1 : q = p := congrArg Prod.fst h1
    have e2 : flatP m = flatP l := congrArg Prod.snd h1
    rw [e1, flat_inj l m (fun x hx => hl x (List.mem_cons_of_mem _ hx)) (fun x hx => hm x (List.mem_cons_of_mem _ hx)) (fun x hx => sl x (List.mem_cons_of_mem _ hx)) (fun x hx => sm x (List.mem_cons_of_mem _ hx)) e2.symm]
theorem flatP_append (l : List PairL) : ∀ m, flatP (l ++ m) = flatP l ++ flatP m := by
  induction l with
  | nil => intro m; rfl
  | cons p l ih => intro m; rw [List.cons_append, flatP, flatP, ih, List.append_assoc]
theorem keysK_append {l m : List PairL} (h : keysK l) (g : keysK m) : keysK (l ++ m) := fun p hp => (List.mem_append.1 hp).elim (h p) (g p)
theorem shortP_append {l m : List PairL} (h : shortP l) (g : shortP m) : shortP (l ++ m) := fun p hp => (List.mem_append.1 hp).elim (h p) (g p)
set_option maxRecDepth 100000 in
theorem part_le : ∀ (l : List PairL) (p : PairL), p ∈ l → (recL p).length ≤ (flatP l).length
  | q :: l, p, h => by
    rw [flatP, List.length_append]
    rcases List.mem_cons.1 h with h | h
    · rw [h]; omega
    · have := part_le l p h
      omega
/-- What is written in few bytes has short keys and values. -/
theorem short_of_flat (l : List PairL) (h : (flatP l).length ≤ 999990) : shortP l := fun p hp => by
  have := part_le l p hp
  rw [recL, List.length_append, prestL_length] at this
  omega
/-- The last value of a key. -/
def lastA {α : Type} [DecidableEq α] (k : α) : List (α × α) → Option α → Option α
  | [], v => v
  | p :: l, v => lastA k l (if p.1 = k then some p.2 else v)
theorem lastA_append {α : Type} [DecidableEq α] (k : α) : ∀ (l m : List (α × α)) (v : Option α), lastA k (l ++ m) v = lastA k m (lastA k l v)
  | [], _, _ => rfl
  | p :: l, m, v => by rw [List.cons_append, lastA, lastA, lastA_append k l m]
theorem lastA_some {α : Type} [DecidableEq α] (k : α) : ∀ (l : List (α × α)) (v : Option α), lastA k l v = (lastA k l none).or v
  | [], v => by rw [lastA, lastA, Option.none_or]
  | p :: l, v => by
    rw [lastA, lastA, lastA_some k l (if p.1 = k then some p.2 else v), lastA_some k l (if p.1 = k then some p.2 else none)]
    split
    · rw [Option.or_assoc, Option.some_or]
    · rw [Option.or_none]
/-- Few pairs, short ones: what the law looks at. -/
def lightS : List PairL → Nat → Bool
  | [], _ => true
  | p :: l, n => if 20000 < n + (p.1.length + p.2.length + 10) then false else lightS l (n + (p.1.length + p.2.length + 10))
theorem light_flat : ∀ (l : List PairL) (n : Nat), lightS l n = true → n ≤ 20000 → n + (flatP l).length ≤ 20000
  | [], n, _, h => h
  | p :: l, n, h, hn => by
    rw [lightS] at h
    split at h
    · cases h
    · rename_i hp
      have ih := light_flat l _ h (by omega)
      rw [flatP, List.length_append, recL_length p (by omega)]
      have hd : digN (prestL p).length ≤ 6 := by
        unfold digN
        repeat' split
        all_goals omega
      have hr : recN p ≤ p.1.length + p.2.length + 10 := by
        show digN (prestL p).length + (prestL p).length ≤ _
        rw [prestL_length] at *
        omega
      omega
end Go.Proofs.YtccfjabmmecbkaaDoor
