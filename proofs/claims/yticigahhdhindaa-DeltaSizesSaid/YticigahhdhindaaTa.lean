/- Lengths told by steps: plain. What the document answers. Written ahead of stage 10. -/
import Derived.Test.YticigahhdhindaaM
namespace Go.Proofs.Yticigahhdhindaa

/-- Lengths that may be told. -/
def DOk (L : List Int) : Prop := 2 ≤ L.length ∧ L.length ≤ 258 ∧ ∀ x ∈ L, 1 ≤ x ∧ x ≤ 20
instance (L : List Int) : Decidable (DOk L) := inferInstanceAs (Decidable (_ ∧ _))
/-- Lengths as numbers. -/
def nl (L : List Int) : List Nat := L.map Int.toNat
theorem nl_length (L : List Int) : (nl L).length = L.length := List.length_map _
theorem nl_get (L : List Int) (i : Nat) : (nl L).getD i 0 = (L.getD i 0).toNat := by
  unfold nl
  rw [List.getD_eq_getElem?_getD, List.getD_eq_getElem?_getD, List.getElem?_map]
  cases L[i]? <;> rfl
/-- So many steps up; so many down. -/
def ups : Nat → List Nat
  | 0 => []
  | k + 1 => 1 :: 0 :: ups k
def downs : Nat → List Nat
  | 0 => []
  | k + 1 => 1 :: 1 :: downs k
theorem ups_snoc : ∀ k, ups (k + 1) = ups k ++ [1, 0]
  | 0 => rfl
  | k + 1 => by
    show 1 :: 0 :: ups (k + 1) = 1 :: 0 :: ups k ++ [1, 0]
    rw [ups_snoc k]
    rfl
theorem downs_snoc : ∀ k, downs (k + 1) = downs k ++ [1, 1]
  | 0 => rfl
  | k + 1 => by
    show 1 :: 1 :: downs (k + 1) = 1 :: 1 :: downs k ++ [1, 1]
    rw [downs_snoc k]
    rfl
theorem ups_length : ∀ k, (ups k).length = 2 * k
  | 0 => rfl
  | k + 1 => by
    show (ups k).length + 1 + 1 = _
    rw [ups_length k]
    omega
theorem downs_length : ∀ k, (downs k).length = 2 * k
  | 0 => rfl
  | k + 1 => by
    show (downs k).length + 1 + 1 = _
    rw [downs_length k]
    omega
set_option maxRecDepth 100000 in
theorem bit_ups : ∀ k, Bit01 (ups k)
  | 0 => fun b hb => by cases hb
  | k + 1 => fun b hb => by
    rcases List.mem_cons.1 hb with rfl | hb
    · omega
    · rcases List.mem_cons.1 hb with rfl | hb
      · omega
      · exact bit_ups k b hb
set_option maxRecDepth 100000 in
theorem bit_downs : ∀ k, Bit01 (downs k)
  | 0 => fun b hb => by cases hb
  | k + 1 => fun b hb => by
    rcases List.mem_cons.1 hb with rfl | hb
    · omega
    · rcases List.mem_cons.1 hb with rfl | hb
      · omega
      · exact bit_downs k b hb
/-- One length, from the one ahead on. -/
def stepB (a x : Nat) : List Nat := ups (x - a) ++ downs (a - x) ++ [0]
theorem stepB_length (a x : Nat) : (stepB a x).length = 2 * ((x - a) + (a - x)) + 1 := by
  unfold stepB
  rw [List.length_append, List.length_append, ups_length, downs_length]
  show _ + 1 = _
  omega
theorem bit_stepB (a x : Nat) : Bit01 (stepB a x) := by
  refine ((bit_ups _).append (bit_downs _)).append ?_
  intro b hb
  rw [List.mem_singleton.1 hb]
  omega
/-- Lengths, one behind the other. -/
def stepsB : Nat → List Nat → List Nat
  | _, [] => []
  | a, x :: l => stepB a x ++ stepsB x l
theorem bit_stepsB : ∀ (l : List Nat) (a : Nat), Bit01 (stepsB a l)
  | [], _ => fun b hb => by cases hb
  | x :: l, a => (bit_stepB a x).append (bit_stepsB l x)
/-- What has been told of the first lengths. -/
def aheadD (l : List Nat) (i : Nat) : Nat := l.getD (i - 1) 0
set_option maxRecDepth 100000 in
theorem stepsB_snoc : ∀ (l : List Nat) (a x : Nat), stepsB a (l ++ [x]) = stepsB a l ++ stepB (match l.getLast? with | some y => y | none => a) x
  | [], a, x => by simp [stepsB]
  | y :: l, a, x => by
    show stepB a y ++ stepsB y (l ++ [x]) = (stepB a y ++ stepsB y l) ++ _
    rw [stepsB_snoc l y x, List.append_assoc]
    congr 2
    cases l with
    | nil => rfl
    | cons z l => rfl
theorem stepsB_next {l : List Nat} {i : Nat} (hi : i < l.length) : stepsB (l.getD 0 0) (l.take (i + 1)) = stepsB (l.getD 0 0) (l.take i) ++ stepB (aheadD l i) (l.getD i 0) := by
  rw [List.take_succ_eq_append_getElem hi, stepsB_snoc]
  congr 2
  · cases i with
    | zero => rfl
    | succ k =>
      rw [List.getLast?_take]
      unfold aheadD
      have e : l.getD k 0 = l[k] := by
        rw [List.getD_eq_getElem?_getD, List.getElem?_eq_getElem (by omega)]
        rfl
      rw [if_neg (by omega), Nat.add_sub_cancel, List.getElem?_eq_getElem (by omega), e]
      rfl
  · rw [List.getD_eq_getElem?_getD, List.getElem?_eq_getElem hi]
    rfl
/-- What Show tells, as bits. -/
def showD (l : List Nat) : List Nat := bitsN (l.getD 0 0) 5 ++ stepsB (l.getD 0 0) l
theorem bit_showD (l : List Nat) : Bit01 (showD l) := (bit01_bitsN _ _).append (bit_stepsB _ _)
def showAns (L : List Int) : List Nat × Nat := if DOk L then (showD (nl L), 0) else ([], 80)
/-- How many steps there are. -/
def sizeD : Nat → List Nat → Nat
  | _, [] => 0
  | a, x :: l => (x - a) + (a - x) + sizeD x l
theorem stepsB_length : ∀ (l : List Nat) (a : Nat), (stepsB a l).length = l.length + 2 * sizeD a l
  | [], _ => rfl
  | x :: l, a => by
    show (stepB a x ++ stepsB x l).length = (l.length + 1) + 2 * ((x - a) + (a - x) + sizeD x l)
    rw [List.length_append, stepB_length, stepsB_length l x]
    omega
theorem showD_length (l : List Nat) : (showD l).length = 5 + l.length + 2 * sizeD (l.getD 0 0) l := by
  unfold showD
  rw [List.length_append, bitsN_length, stepsB_length]
  omega
theorem sizeD_le : ∀ (l : List Nat) (a : Nat), a ≤ 20 → (∀ x ∈ l, x ≤ 20) → sizeD a l ≤ 20 * l.length
  | [], _, _, _ => Nat.le_refl _
  | x :: l, a, ha, h => by
    have hx := h x (List.mem_cons_self ..)
    have := sizeD_le l x hx fun y hy => h y (List.mem_cons_of_mem _ hy)
    show (x - a) + (a - x) + sizeD x l ≤ 20 * (l.length + 1)
    omega
/-- Lengths out of bits. -/
def takeF : List Nat → Nat → Nat → Nat → List Nat → List Nat × Nat × Nat
  | _, _, 0, p, out => (out, p, 0)
  | [], now, _ + 1, _, _ => if now < 1 ∨ 20 < now then ([], 0, 80) else ([], 0, 10)
  | [b], now, n + 1, p, out => if now < 1 ∨ 20 < now then ([], 0, 80) else if b = 0 then (if n = 0 then (out ++ [now], p + 1, 0) else ([], 0, 10)) else ([], 0, 10)
  | b :: d :: bs, now, n + 1, p, out => if now < 1 ∨ 20 < now then ([], 0, 80) else if b = 0 then takeF (d :: bs) now n (p + 1) (out ++ [now]) else takeF bs (if d = 0 then now + 1 else now - 1) (n + 1) (p + 2) out
theorem takeF_done (bs : List Nat) (now p : Nat) (out : List Nat) : takeF bs now 0 p out = (out, p, 0) := by
  cases bs with
  | nil => rfl
  | cons b bs => cases bs <;> rfl
theorem takeF_bad (bs : List Nat) (now n p : Nat) (out : List Nat) (h : now < 1 ∨ 20 < now) : takeF bs now (n + 1) p out = ([], 0, 80) := by
  cases bs with
  | nil => exact if_pos h
  | cons b bs =>
    cases bs with
    | nil => exact if_pos h
    | cons d bs => rw [takeF, if_pos h]
theorem takeF_nil (now n p : Nat) (out : List Nat) (h : ¬ (now < 1 ∨ 20 < now)) : takeF [] now (n + 1) p out = ([], 0, 10) := if_neg h
theorem takeF_zero (bs : List Nat) (now n p : Nat) (out : List Nat) (h : ¬ (now < 1 ∨ 20 < now)) : takeF (0 :: bs) now (n + 1) p out = takeF bs now n (p + 1) (out ++ [now]) := by
  cases bs with
  | nil =>
    rw [takeF, if_neg h, if_pos rfl]
    cases n with
    | zero => rw [if_pos rfl, takeF_done]
    | succ n => rw [if_neg (by omega), takeF_nil _ _ _ _ h]
  | cons d bs => rw [takeF, if_neg h, if_pos rfl]
theorem takeF_one (b now n p : Nat) (out : List Nat) (h : ¬ (now < 1 ∨ 20 < now)) (hb : b ≠ 0) : takeF [b] now (n + 1) p out = ([], 0, 10) := by
  rw [takeF, if_neg h, if_neg hb]
theorem takeF_step (b d : Nat) (bs : List Nat) (now n p : Nat) (out : List Nat) (h : ¬ (now < 1 ∨ 20 < now)) (hb : b ≠ 0) : takeF (b :: d :: bs) now (n + 1) p out = takeF bs (if d = 0 then now + 1 else now - 1) (n + 1) (p + 2) out := by
  rw [takeF, if_neg h, if_neg hb]
/-- What Take answers. -/
def takeAns (bits : List Nat) (at' n : Int) : List Nat × Nat × Nat :=
  if at' < 0 ∨ (bits.length : Int) < at' ∨ n < 2 ∨ 258 < n then ([], 0, 2)
  else if bits.length < at'.toNat + 5 then ([], 0, 10)
  else takeF (bits.drop (at'.toNat + 5)) (val ((bits.drop at'.toNat).take 5)) n.toNat (at'.toNat + 5) []

theorem take_ups : ∀ (k : Nat) (rest : List Nat) (now n p : Nat) (out : List Nat), 1 ≤ now → now + k ≤ 20 → takeF (ups k ++ rest) now (n + 1) p out = takeF rest (now + k) (n + 1) (p + 2 * k) out
  | 0, rest, now, n, p, out, _, _ => rfl
  | k + 1, rest, now, n, p, out, h1, h2 => by
    show takeF (1 :: 0 :: (ups k ++ rest)) now (n + 1) p out = _
    rw [takeF_step _ _ _ _ _ _ _ (by omega) (by omega), if_pos rfl, take_ups k rest (now + 1) n (p + 2) out (by omega) (by omega)]
    rw [show now + 1 + k = now + (k + 1) by omega, show p + 2 + 2 * k = p + 2 * (k + 1) by omega]
theorem take_downs : ∀ (k : Nat) (rest : List Nat) (now n p : Nat) (out : List Nat), k + 1 ≤ now → now ≤ 20 → takeF (downs k ++ rest) now (n + 1) p out = takeF rest (now - k) (n + 1) (p + 2 * k) out
  | 0, rest, now, n, p, out, _, _ => rfl
  | k + 1, rest, now, n, p, out, h1, h2 => by
    show takeF (1 :: 1 :: (downs k ++ rest)) now (n + 1) p out = _
    rw [takeF_step _ _ _ _ _ _ _ (by omega) (by omega), if_neg (by omega), take_downs k rest (now - 1) n (p + 2) out (by omega) (by omega)]
    rw [show now - 1 - k = now - (k + 1) by omega, show p + 2 + 2 * k = p + 2 * (k + 1) by omega]
set_option maxRecDepth 100000 in
theorem take_one (a x : Nat) (rest : List Nat) (n p : Nat) (out : List Nat) (ha : 1 ≤ a ∧ a ≤ 20) (hx : 1 ≤ x ∧ x ≤ 20) : takeF (stepB a x ++ rest) a (n + 1) p out = takeF rest x n (p + (stepB a x).length) (out ++ [x]) := by
  have e : stepB a x ++ rest = ups (x - a) ++ (downs (a - x) ++ (0 :: rest)) := by
    unfold stepB
    simp
  have hl := stepB_length a x
  rw [e, take_ups _ _ _ _ _ _ ha.1 (by omega), take_downs _ _ _ _ _ _ (by omega) (by omega), show a + (x - a) - (a - x) = x by omega, takeF_zero _ _ _ _ _ (by omega)]
  rw [show p + 2 * (x - a) + 2 * (a - x) + 1 = p + (stepB a x).length by omega]
set_option maxRecDepth 100000 in
/-- What is told is read again. -/
theorem take_steps : ∀ (l : List Nat) (a : Nat) (rest : List Nat) (p : Nat) (out : List Nat), (1 ≤ a ∧ a ≤ 20) → (∀ x ∈ l, 1 ≤ x ∧ x ≤ 20) → takeF (stepsB a l ++ rest) a l.length p out = (out ++ l, p + (stepsB a l).length, 0)
  | [], a, rest, p, out, _, _ => by
    rw [List.length_nil, takeF_done]
    simp [stepsB]
  | x :: l, a, rest, p, out, ha, h => by
    have hx := h x (List.mem_cons_self ..)
    show takeF (stepB a x ++ stepsB x l ++ rest) a (l.length + 1) p out = (out ++ x :: l, p + (stepB a x ++ stepsB x l).length, 0)
    rw [List.append_assoc, take_one a x _ _ _ _ ha hx, take_steps l x rest _ _ hx fun y hy => h y (List.mem_cons_of_mem _ hy), List.length_append]
    simp [Nat.add_assoc]
theorem first_in {l : List Nat} (h0 : 0 < l.length) (h : ∀ x ∈ l, 1 ≤ x ∧ x ≤ 20) : 1 ≤ l.getD 0 0 ∧ l.getD 0 0 ≤ 20 := by
  refine h _ ?_
  rw [List.getD_eq_getElem?_getD, List.getElem?_eq_getElem h0]
  exact List.getElem_mem h0
theorem five_val {x : Nat} (h : x ≤ 20) (rest : List Nat) : val ((bitsN x 5 ++ rest).take 5) = x := by
  rw [List.take_left' (bitsN_length 5 x), val_bitsN, Nat.mod_eq_of_lt (by omega)]
set_option maxRecDepth 100000 in
/-- Take of Show, behind and ahead of whatever bits, with some more behind the first five. -/
theorem take_show {l : List Nat} (h2 : 2 ≤ l.length) (h258 : l.length ≤ 258) (h : ∀ x ∈ l, 1 ≤ x ∧ x ≤ 20) (pre more rest : List Nat) (hm : ∀ bs n p, takeF (more ++ bs) (l.getD 0 0) (n + 1) p [] = takeF bs (l.getD 0 0) (n + 1) (p + more.length) []) :
    takeAns (pre ++ (bitsN (l.getD 0 0) 5 ++ (more ++ (stepsB (l.getD 0 0) l ++ rest)))) (pre.length : Nat) (l.length : Nat) = (l, pre.length + (showD l).length + more.length, 0) := by
  have hf := first_in (by omega) h
  have hlen : (pre ++ (bitsN (l.getD 0 0) 5 ++ (more ++ (stepsB (l.getD 0 0) l ++ rest)))).length = pre.length + 5 + more.length + (stepsB (l.getD 0 0) l).length + rest.length := by
    simp only [List.length_append, bitsN_length]
    omega
  unfold takeAns
  rw [if_neg (by omega), Int.toNat_natCast, Int.toNat_natCast, if_neg (by omega), List.drop_left, five_val hf.2]
  have hd : (pre ++ (bitsN (l.getD 0 0) 5 ++ (more ++ (stepsB (l.getD 0 0) l ++ rest)))).drop (pre.length + 5) = more ++ (stepsB (l.getD 0 0) l ++ rest) := by
    rw [← List.drop_drop, List.drop_left, List.drop_left' (bitsN_length 5 _)]
  rw [hd]
  obtain ⟨n, hn⟩ : ∃ n, l.length = n + 1 := ⟨l.length - 1, by omega⟩
  rw [hn, hm, ← hn, take_steps l _ rest _ _ hf h]
  have e : pre.length + 5 + more.length + (stepsB (l.getD 0 0) l).length = pre.length + (showD l).length + more.length := by
    rw [showD, List.length_append, bitsN_length]
    omega
  rw [e]
  rfl

end Go.Proofs.Yticigahhdhindaa
