/- Ta Yg: texts laid together, what is not used left out. -/
import Derived.Test.YtmgmgmbpldboiaaGreatZ00
import Derived.Test.YtmgmgmbpldboiaaGreatZ05
import Derived.Deep.CutRange
namespace Go.Proofs.YtmgmgmbpldboiaaGreat

/-- Lengths that may be told. -/
def DOk (L : List Int) : Prop := 2 ≤ L.length ∧ L.length ≤ 258 ∧ ∀ x ∈ L, 1 ≤ x ∧ x ≤ 20
instance (L : List Int) : Decidable (DOk L) := inferInstanceAs (Decidable (_ ∧ _))
/-- So many steps up; so many down. -/
def ups : Nat → List Nat
  | 0 => []
  | k + 1 => 1 :: 0 :: ups k
def downs : Nat → List Nat
  | 0 => []
  | k + 1 => 1 :: 1 :: downs k
theorem ups_snoc : ∀ k, ups (k + 1) = ups k ++ [1, 0]
  | 0 => rfl
  | k + 1 => by
    show 1 :: 0 :: ups (k + 1) = 1 :: 0 :: ups k ++ [1, 0]
    rw [ups_snoc k]
    rfl
theorem downs_snoc : ∀ k, downs (k + 1) = downs k ++ [1, 1]
  | 0 => rfl
  | k + 1 => by
    show 1 :: 1 :: downs (k + 1) = 1 :: 1 :: downs k ++ [1, 1]
    rw [downs_snoc k]
    rfl
theorem ups_length : ∀ k, (ups k).length = 2 * k
  | 0 => rfl
  | k + 1 => by
    show (ups k).length + 1 + 1 = _
    rw [ups_length k]
    omega
theorem downs_length : ∀ k, (downs k).length = 2 * k
  | 0 => rfl
  | k + 1 => by
    show (downs k).length + 1 + 1 = _
    rw [downs_length k]
    omega
set_option maxRecDepth 100000 in
theorem bit_ups : ∀ k, Bit01 (ups k)
  | 0 => fun b hb => by cases hb
  | k + 1 => fun b hb => by
    rcases List.mem_cons.1 hb with rfl | hb
    · omega
    · rcases List.mem_cons.1 hb with rfl | hb
      · omega
      · exact bit_ups k b hb
set_option maxRecDepth 100000 in
theorem bit_downs : ∀ k, Bit01 (downs k)
  | 0 => fun b hb => by cases hb
  | k + 1 => fun b hb => by
    rcases List.mem_cons.1 hb with rfl | hb
    · omega
    · rcases List.mem_cons.1 hb with rfl | hb
      · omega
      · exact bit_downs k b hb
/-- One length, from the one ahead on. -/
def stepB (a x : Nat) : List Nat := ups (x - a) ++ downs (a - x) ++ [0]
theorem stepB_length (a x : Nat) : (stepB a x).length = 2 * ((x - a) + (a - x)) + 1 := by
  unfold stepB
  rw [List.length_append, List.length_append, ups_length, downs_length]
  show _ + 1 = _
  omega
theorem bit_stepB (a x : Nat) : Bit01 (stepB a x) := by
  refine ((bit_ups _).append (bit_downs _)).append ?_
  intro b hb
  rw [List.mem_singleton.1 hb]
  omega
/-- Lengths, one behind the other. -/
def stepsB : Nat → List Nat → List Nat
  | _, [] => []
  | a, x :: l => stepB a x ++ stepsB x l
theorem bit_stepsB : ∀ (l : List Nat) (a : Nat), Bit01 (stepsB a l)
  | [], _ => fun b hb => by cases hb
  | x :: l, a => (bit_stepB a x).append (bit_stepsB l x)
/-- What has been told of the first lengths. -/
def aheadD (l : List Nat) (i : Nat) : Nat := l.getD (i - 1) 0
set_option maxRecDepth 100000 in
theorem stepsB_snoc : ∀ (l : List Nat) (a x : Nat), stepsB a (l ++ [x]) = stepsB a l ++ stepB (match l.getLast? with | some y => y | none => a) x
  | [], a, x => by simp [stepsB]
  | y :: l, a, x => by
    show stepB a y ++ stepsB y (l ++ [x]) = (stepB a y ++ stepsB y l) ++ _
    rw [stepsB_snoc l y x, List.append_assoc]
    congr 2
    cases l with
    | nil => rfl
    | cons z l => rfl
theorem stepsB_next {l : List Nat} {i : Nat} (hi : i < l.length) : stepsB (l.getD 0 0) (l.take (i + 1)) = stepsB (l.getD 0 0) (l.take i) ++ stepB (aheadD l i) (l.getD i 0) := by
  rw [List.take_succ_eq_append_getElem hi, stepsB_snoc]
  congr 2
  · cases i with
    | zero => rfl
    | succ k =>
      rw [List.getLast?_take]
      unfold aheadD
      have e : l.getD k 0 = l[k] := by
        rw [List.getD_eq_getElem?_getD, List.getElem?_eq_getElem (by omega)]
        rfl
      rw [if_neg (by omega), Nat.add_sub_cancel, List.getElem?_eq_getElem (by omega), e]
      rfl
  · rw [List.getD_eq_getElem?_getD, List.getElem?_eq_getElem hi]
    rfl
/-- What Show tells, as bits. -/
def showD (l : List Nat) : List Nat := bitsN (l.getD 0 0) 5 ++ stepsB (l.getD 0 0) l
theorem bit_showD (l : List Nat) : Bit01 (showD l) := (bit01_bitsN _ _).append (bit_stepsB _ _)
def showAns (L : List Int) : List Nat × Nat := if DOk L then (showD (nl L), 0) else ([], 80)
/-- How many steps there are. -/
def sizeD : Nat → List Nat → Nat
  | _, [] => 0
  | a, x :: l => (x - a) + (a - x) + sizeD x l
theorem stepsB_length : ∀ (l : List Nat) (a : Nat), (stepsB a l).length = l.length + 2 * sizeD a l
  | [], _ => rfl
  | x :: l, a => by
    show (stepB a x ++ stepsB x l).length = (l.length + 1) + 2 * ((x - a) + (a - x) + sizeD x l)
    rw [List.length_append, stepB_length, stepsB_length l x]
    omega
theorem showD_length (l : List Nat) : (showD l).length = 5 + l.length + 2 * sizeD (l.getD 0 0) l := by
  unfold showD
  rw [List.length_append, bitsN_length, stepsB_length]
  omega
theorem sizeD_le : ∀ (l : List Nat) (a : Nat), a ≤ 20 → (∀ x ∈ l, x ≤ 20) → sizeD a l ≤ 20 * l.length
  | [], _, _, _ => Nat.le_refl _
  | x :: l, a, ha, h => by
    have hx := h x (List.mem_cons_self ..)
    have := sizeD_le l x hx fun y hy => h y (List.mem_cons_of_mem _ hy)
    show (x - a) + (a - x) + sizeD x l ≤ 20 * (l.length + 1)
    omega
/-- Lengths out of bits. -/
def takeF : List Nat → Nat → Nat → Nat → List Nat → List Nat × Nat × Nat
  | _, _, 0, p, out => (out, p, 0)
  | [], now, _ + 1, _, _ => if now < 1 ∨ 20 < now then ([], 0, 80) else ([], 0, 10)
  | [b], now, n + 1, p, out => if now < 1 ∨ 20 < now then ([], 0, 80) else if b = 0 then (if n = 0 then (out ++ [now], p + 1, 0) else ([], 0, 10)) else ([], 0, 10)
  | b :: d :: bs, now, n + 1, p, out => if now < 1 ∨ 20 < now then ([], 0, 80) else if b = 0 then takeF (d :: bs) now n (p + 1) (out ++ [now]) else takeF bs (if d = 0 then now + 1 else now - 1) (n + 1) (p + 2) out
theorem takeF_done (bs : List Nat) (now p : Nat) (out : List Nat) : takeF bs now 0 p out = (out, p, 0) := by
  cases bs with
  | nil => rfl
  | cons b bs => cases bs <;> rfl
theorem takeF_bad (bs : List Nat) (now n p : Nat) (out : List Nat) (h : now < 1 ∨ 20 < now) : takeF bs now (n + 1) p out = ([], 0, 80) := by
  cases bs with
  | nil => exact if_pos h
  | cons b bs =>
    cases bs with
    | nil => exact if_pos h
    | cons d bs => rw [takeF, if_pos h]
theorem takeF_nil (now n p : Nat) (out : List Nat) (h : ¬ (now < 1 ∨ 20 < now)) : takeF [] now (n + 1) p out = ([], 0, 10) := if_neg h
theorem takeF_zero (bs : List Nat) (now n p : Nat) (out : List Nat) (h : ¬ (now < 1 ∨ 20 < now)) : takeF (0 :: bs) now (n + 1) p out = takeF bs now n (p + 1) (out ++ [now]) := by
  cases bs with
  | nil =>
    rw [takeF, if_neg h, if_pos rfl]
    cases n with
    | zero => rw [if_pos rfl, takeF_done]
    | succ n => rw [if_neg (by omega), takeF_nil _ _ _ _ h]
  | cons d bs => rw [takeF, if_neg h, if_pos rfl]
theorem takeF_one (b now n p : Nat) (out : List Nat) (h : ¬ (now < 1 ∨ 20 < now)) (hb : b ≠ 0) : takeF [b] now (n + 1) p out = ([], 0, 10) := by
  rw [takeF, if_neg h, if_neg hb]
theorem takeF_step (b d : Nat) (bs : List Nat) (now n p : Nat) (out : List Nat) (h : ¬ (now < 1 ∨ 20 < now)) (hb : b ≠ 0) : takeF (b :: d :: bs) now (n + 1) p out = takeF bs (if d = 0 then now + 1 else now - 1) (n + 1) (p + 2) out := by
  rw [takeF, if_neg h, if_neg hb]
/-- What Take answers. -/
def takeAns (bits : List Nat) (at' n : Int) : List Nat × Nat × Nat :=
  if at' < 0 ∨ (bits.length : Int) < at' ∨ n < 2 ∨ 258 < n then ([], 0, 2)
  else if bits.length < at'.toNat + 5 then ([], 0, 10)
  else takeF (bits.drop (at'.toNat + 5)) (val ((bits.drop at'.toNat).take 5)) n.toNat (at'.toNat + 5) []

theorem take_ups : ∀ (k : Nat) (rest : List Nat) (now n p : Nat) (out : List Nat), 1 ≤ now → now + k ≤ 20 → takeF (ups k ++ rest) now (n + 1) p out = takeF rest (now + k) (n + 1) (p + 2 * k) out
  | 0, rest, now, n, p, out, _, _ => rfl
  | k + 1, rest, now, n, p, out, h1, h2 => by
    show takeF (1 :: 0 :: (ups k ++ rest)) now (n + 1) p out = _
    rw [takeF_step _ _ _ _ _ _ _ (by omega) (by omega), if_pos rfl, take_ups k rest (now + 1) n (p + 2) out (by omega) (by omega)]
    rw [show now + 1 + k = now + (k + 1) by omega, show p + 2 + 2 * k = p + 2 * (k + 1) by omega]
theorem take_downs : ∀ (k : Nat) (rest : List Nat) (now n p : Nat) (out : List Nat), k + 1 ≤ now → now ≤ 20 → takeF (downs k ++ rest) now (n + 1) p out = takeF rest (now - k) (n + 1) (p + 2 * k) out
  | 0, rest, now, n, p, out, _, _ => rfl
  | k + 1, rest, now, n, p, out, h1, h2 => by
    show takeF (1 :: 1 :: (downs k ++ rest)) now (n + 1) p out = _
    rw [takeF_step _ _ _ _ _ _ _ (by omega) (by omega), if_neg (by omega), take_downs k rest (now - 1) n (p + 2) out (by omega) (by omega)]
    rw [show now - 1 - k = now - (k + 1) by omega, show p + 2 + 2 * k = p + 2 * (k + 1) by omega]
set_option maxRecDepth 100000 in
theorem take_one (a x : Nat) (rest : List Nat) (n p : Nat) (out : List Nat) (ha : 1 ≤ a ∧ a ≤ 20) (hx : 1 ≤ x ∧ x ≤ 20) : takeF (stepB a x ++ rest) a (n + 1) p out = takeF rest x n (p + (stepB a x).length) (out ++ [x]) := by
  have e : stepB a x ++ rest = ups (x - a) ++ (downs (a - x) ++ (0 :: rest)) := by
    unfold stepB
    simp
  have hl := stepB_length a x
  rw [e, take_ups _ _ _ _ _ _ ha.1 (by omega), take_downs _ _ _ _ _ _ (by omega) (by omega), show a + (x - a) - (a - x) = x by omega, takeF_zero _ _ _ _ _ (by omega)]
  rw [show p + 2 * (x - a) + 2 * (a - x) + 1 = p + (stepB a x).length by omega]
set_option maxRecDepth 100000 in
/-- What is told is read again. -/
theorem take_steps : ∀ (l : List Nat) (a : Nat) (rest : List Nat) (p : Nat) (out : List Nat), (1 ≤ a ∧ a ≤ 20) → (∀ x ∈ l, 1 ≤ x ∧ x ≤ 20) → takeF (stepsB a l ++ rest) a l.length p out = (out ++ l, p + (stepsB a l).length, 0)
  | [], a, rest, p, out, _, _ => by
    rw [List.length_nil, takeF_done]
    simp [stepsB]
  | x :: l, a, rest, p, out, ha, h => by
    have hx := h x (List.mem_cons_self ..)
    show takeF (stepB a x ++ stepsB x l ++ rest) a (l.length + 1) p out = (out ++ x :: l, p + (stepB a x ++ stepsB x l).length, 0)
    rw [List.append_assoc, take_one a x _ _ _ _ ha hx, take_steps l x rest _ _ hx fun y hy => h y (List.mem_cons_of_mem _ hy), List.length_append]
    simp [Nat.add_assoc]
theorem first_in {l : List Nat} (h0 : 0 < l.length) (h : ∀ x ∈ l, 1 ≤ x ∧ x ≤ 20) : 1 ≤ l.getD 0 0 ∧ l.getD 0 0 ≤ 20 := by
  refine h _ ?_
  rw [List.getD_eq_getElem?_getD, List.getElem?_eq_getElem h0]
  exact List.getElem_mem h0
theorem five_val {x : Nat} (h : x ≤ 20) (rest : List Nat) : val ((bitsN x 5 ++ rest).take 5) = x := by
  rw [List.take_left' (bitsN_length 5 x), val_bitsN, Nat.mod_eq_of_lt (by omega)]
set_option maxRecDepth 100000 in
/-- Take of Show, behind and ahead of whatever bits, with some more behind the first five. -/
theorem take_show {l : List Nat} (h2 : 2 ≤ l.length) (h258 : l.length ≤ 258) (h : ∀ x ∈ l, 1 ≤ x ∧ x ≤ 20) (pre more rest : List Nat) (hm : ∀ bs n p, takeF (more ++ bs) (l.getD 0 0) (n + 1) p [] = takeF bs (l.getD 0 0) (n + 1) (p + more.length) []) :
    takeAns (pre ++ (bitsN (l.getD 0 0) 5 ++ (more ++ (stepsB (l.getD 0 0) l ++ rest)))) (pre.length : Nat) (l.length : Nat) = (l, pre.length + (showD l).length + more.length, 0) := by
  have hf := first_in (by omega) h
  have hlen : (pre ++ (bitsN (l.getD 0 0) 5 ++ (more ++ (stepsB (l.getD 0 0) l ++ rest)))).length = pre.length + 5 + more.length + (stepsB (l.getD 0 0) l).length + rest.length := by
    simp only [List.length_append, bitsN_length]
    omega
  unfold takeAns
  rw [if_neg (by omega), Int.toNat_natCast, Int.toNat_natCast, if_neg (by omega), List.drop_left, five_val hf.2]
  have hd : (pre ++ (bitsN (l.getD 0 0) 5 ++ (more ++ (stepsB (l.getD 0 0) l ++ rest)))).drop (pre.length + 5) = more ++ (stepsB (l.getD 0 0) l ++ rest) := by
    rw [← List.drop_drop, List.drop_left, List.drop_left' (bitsN_length 5 _)]
  rw [hd]
  obtain ⟨n, hn⟩ : ∃ n, l.length = n + 1 := ⟨l.length - 1, by omega⟩
  rw [hn, hm, ← hn, take_steps l _ rest _ _ hf h]
  have e : pre.length + 5 + more.length + (stepsB (l.getD 0 0) l).length = pre.length + (showD l).length + more.length := by
    rw [showD, List.length_append, bitsN_length]
    omega
  rw [e]
  rfl

end Go.Proofs.YtmgmgmbpldboiaaGreat
namespace Go.Proofs.YtmgmgmbpldboiaaGreat
open Go.RowKit

/-- How many of the first ones stand ahead. -/
def frontN (W : List Nat) (i q : Nat) : Nat := (List.range q).countP fun j => decide (W.getD i 0 < W.getD j 0 ∨ (W.getD j 0 = W.getD i 0 ∧ j < i))
theorem frontN_all (W : List Nat) (i : Nat) : frontN W i W.length = front W i := rfl
set_option maxRecDepth 100000 in
theorem frontN_next (W : List Nat) (i q : Nat) : frontN W i (q + 1) = frontN W i q + if W.getD i 0 < W.getD q 0 ∨ (W.getD q 0 = W.getD i 0 ∧ q < i) then 1 else 0 := by
  unfold frontN
  rw [List.range_succ, List.countP_append, List.countP_singleton]
  simp only [decide_eq_true_eq]
theorem frontN_le (W : List Nat) (i q : Nat) : frontN W i q ≤ q := by
  unfold frontN
  exact Nat.le_trans (List.countP_le_length) (Nat.le_of_eq List.length_range)
theorem oneL_get (L : List Int) (i : Nat) (h : i < L.length) : (oneL L).getD i 0 = oneF L i := range_getD L.length (oneF L) i h
/-- What Flat answers: refused, or the lengths. -/
def FlatPost (w : World) (L : List Int) (e : Ending) (w' : World) : Prop :=
  (¬ MayW L ∧ ∃ v, e = .returned (.tuple #[v, .int .i64 2]) ∧ w'.ownsRow w.heap.size 3 1 v 0 [] ∧ Below w.heap.size w w') ∨
  (MayW L ∧ ∃ v k, 2 ^ k ≤ L.length ∧ L.length < 2 ^ (k + 1) ∧ e = .returned (.tuple #[v, .int .i64 0]) ∧ w'.ownsRow w.heap.size 3 1 v L.length (rowF L.length (flatLen k (2 ^ (k + 1) - L.length) (oneL L))) ∧ Below w.heap.size w w')

set_option maxHeartbeats 3200000 in
set_option maxRecDepth 100000 in
theorem flat_any (w : World) (A : Option Addr) (n c : Nat) (L : List Int) (hL : ZIn w A n L) (hM : MayW L) : Calls Tryz.prog 47 #[.slice A n c] w (FlatPost w L) := by
  have hln := hL.1
  have h2n : 2 ≤ n := by have := hM.1; omega
  have hn : n ≤ 258 := by have := hM.2.1; omega
  have HM := Lib.hid (may_any w A n c L hL (by unfold maxLen; omega))
  rw [show decide (MayW L) = true from decide_eq_true hM] at HM
  have hP : Hid (∀ (v : Value) (k : Nat) w', 2 ^ k ≤ n → n < 2 ^ (k + 1) → w'.ownsRow w.heap.size 3 1 v n (rowF n (flatLen k (2 ^ (k + 1) - n) (oneL L))) → Below w.heap.size w w' → FlatPost w L (.returned (.tuple #[v, .int .i64 0])) w') := Lib.hid fun v k w' h1 h2 h3 h4 =>
    .inr ⟨hM, v, k, by rw [hln]; exact h1, by rw [hln]; exact h2, rfl, by rw [hln]; exact h3, h4⟩
  have HWB : Hid (∀ q, q < n → 0 ≤ L.getD q 0 ∧ L.getD q 0 ≤ 1073741824) := Lib.hid fun q hq => hM.2.2 _ (getD_mem_int L q (by omega))
  have HWG : Hid (∀ q, q < n → (oneL L).getD q 0 = max (L.getD q 0).toNat 1) := Lib.hid fun q hq => oneL_get L q (by omega)
  have HWL : Hid ((oneL L).length = n) := Lib.hid (by unfold oneL; simp [hln])
  have HL := Lib.hid hL
  generalize FlatPost w L = PO at *
  generalize oneL L = W at *
  clear hL hln hM
  go_enter Tryz.func47, Tryz.ntmps47
  go_wp2_with fail
  refine HM.out.mono ?_
  rintro e w' ⟨rfl, rfl⟩
  clear HM
  have hmk := make_noughts w' n (by omega)
  have HMO := Lib.hid (made_noughts w' w'.heap.size n (Nat.le_refl _) (by omega))
  have HB0 := Lib.hid ((Below.refl w'.heap.size w').alloc (Nat.le_refl _) (.cells (madeCells #[.int .i64 0] n) 3))
  go_wp2_with fail
  go_loopw [5] (fun x wx => ∃ k : Nat, 1 ≤ k ∧ k ≤ 9 ∧ x = .int .i64 k ∧ Hid (2 ^ k ≤ n) ∧ wx = w') (fun x _ => 40 - (intOf x).toNat)
  case atStart => exact ⟨1, Nat.le_refl _, by omega, rfl, h2n, rfl⟩
  case round =>
    obtain ⟨k, hk1, hk9, rfl, hp, rfl⟩ := hrel
    obtain ⟨P, hP2⟩ : ∃ P : Nat, P = 2 ^ (k + 1) := ⟨_, rfl⟩
    have hPz : ((2 : Int) ^ (k + 1)) = (P : Int) := by rw [hP2]; simp
    have hPb : P ≤ 1024 := by
      rw [hP2]
      have : 2 ^ (k + 1) ≤ 2 ^ 10 := Nat.pow_le_pow_right (by decide) (by omega)
      exact this
    by_cases e : P ≤ n
    · have dp : decide ((P : Int) ≤ (n : Int)) = true := decide_eq_true (by omega)
      have hk8 : k + 1 ≤ 9 := by
        rcases Nat.lt_or_ge k 9 with h | h
        · omega
        · exfalso
          have : k = 9 := by omega
          subst this
          have : P = 1024 := hP2
          omega
      have HP3 : Hid (2 ^ (k + 1) ≤ n) := Lib.hid (by rw [← hP2]; exact e)
      clear hP2
      go_wp2_with fail
      go_roundw
      case rel => exact ⟨k + 1, by omega, hk8, by go_num, HP3, trivial⟩
      case measure => simp [intOf]; omega
    · have dp : decide ((P : Int) ≤ (n : Int)) = false := decide_eq_false (by omega)
      obtain ⟨C, hC⟩ : ∃ C, C = P - n := ⟨_, rfl⟩
      have hCz : (P : Int) - (n : Int) = (C : Int) := by omega
      have HPN : Hid (n < 2 ^ (k + 1) ∧ C = 2 ^ (k + 1) - n) := Lib.hid ⟨by rw [← hP2]; omega, by rw [hC, hP2]⟩
      clear hP2 hC
      go_wp2_with fail
      clear hmk
      go_loopw [7, 8, 9, 10, 11] (fun x f j u v wx => ∃ i : Nat, i ≤ n ∧ x = .int .i64 i ∧ FRow wx wr.heap.size wr.heap.size n n (fun a => if a < i then flatLen k C W a else 0) ∧ Below wr.heap.size wr wx) (fun x _ _ _ _ _ => n - (intOf x).toNat)
      case atStart =>
        refine ⟨0, Nat.zero_le _, rfl, ?_, HB0.out⟩
        have e0 : (fun a => if a < 0 then flatLen k C W a else 0) = fun _ => 0 := by
          funext a
          rw [if_neg (by omega)]
        rw [e0]
        exact HMO.out
      case round =>
        clear HMO HB0
        rename World => w2
        obtain ⟨i, hi, rfl, hf, hb⟩ := hrel
        have HF := Lib.hid hf
        have HB := Lib.hid hb
        have hz2 := hb.size
        by_cases e1 : i < n
        · have di : decide ((i : Int) < (n : Int)) = true := decide_eq_true (by omega)
          have hiI : (0 : Int) ≤ (i : Int) := by omega
          clear hf hb
          go_wp2_with fail
          go_loopw [8, 9, 10, 11] (fun f j u v wx => ∃ q : Nat, q ≤ n ∧ j = .int .i64 q ∧ f = .int .i64 (frontN W i q : Nat) ∧ ∃ m, wx = w2.drewN m) (fun _ j _ _ _ => n - (intOf j).toNat)
          case atStart => exact ⟨0, Nat.zero_le _, rfl, rfl, 0, rfl⟩
          case round =>
            rename World => w6
            obtain ⟨q, hq, rfl, rfl, hd⟩ := hrel
            have HD := Lib.hid hd
            have hfl := frontN_le W i q
            have hfn := frontN_next W i q
            by_cases e2 : q < n
            · have dq : decide ((q : Int) < (n : Int)) = true := decide_eq_true (by omega)
              have hqI : (0 : Int) ≤ (q : Int) := by omega
              rw [HWG.out i e1, HWG.out q e2] at hfn
              obtain ⟨b, off, rfl, hc⟩ := HL.out.2 (by omega)
              have ci : w6.cell? ⟨b, off + i, none⟩ = some (.int .i64 (L.getD i 0)) := by
                obtain ⟨m, rfl⟩ := hd
                exact (HB.out.cell (p := ⟨b, off + i, none⟩) (World.block_lt_of_cell? wr _ (hc i e1))).trans (hc i e1)
              have cq : w6.cell? ⟨b, off + q, none⟩ = some (.int .i64 (L.getD q 0)) := by
                obtain ⟨m, rfl⟩ := hd
                exact (HB.out.cell (p := ⟨b, off + q, none⟩) (World.block_lt_of_cell? wr _ (hc q e2))).trans (hc q e2)
              have bi := HWB.out i e1
              have bq := HWB.out q e2
              obtain ⟨x, hx⟩ : ∃ x : Nat, L.getD i 0 = x := ⟨(L.getD i 0).toNat, by omega⟩
              obtain ⟨y, hy⟩ : ∃ y : Nat, L.getD q 0 = y := ⟨(L.getD q 0).toNat, by omega⟩
              rw [hx] at ci bi hfn
              rw [hy] at cq bq hfn
              rw [Int.toNat_natCast, Int.toNat_natCast] at hfn
              obtain ⟨a, ha⟩ : ∃ a, a = max x 1 := ⟨_, rfl⟩
              obtain ⟨d, hd2⟩ : ∃ d, d = max y 1 := ⟨_, rfl⟩
              rw [← ha, ← hd2] at hfn
              have HA := Lib.hid ha
              have HDD := Lib.hid hd2
              have HFN := Lib.hid hfn
              obtain ⟨F, hF⟩ : ∃ F, F = frontN W i q := ⟨_, rfl⟩
              rw [← hF] at HFN hfl ⊢
              clear hc hx hy hd ha hd2 hfn hF
              go_upto_region 15 with fail
              go_cut [10, 11] from 32 to 61 (fun s10 s11 wx => s10 = .int .i64 a ∧ s11 = .int .i64 d ∧ ∃ m, wx = w2.drewN m)
              case first =>
                have HX0 : Hid (x ≠ 0 → a = x) := Lib.hid fun h => by rw [HA.out]; omega
                have HY0 : Hid (y ≠ 0 → d = y) := Lib.hid fun h => by rw [HDD.out]; omega
                by_cases hx0 : x = 0
                · subst hx0
                  have ha1 : a = 1 := HA.out
                  subst ha1
                  by_cases hy0 : y = 0
                  · subst hy0
                    have hd1 : d = 1 := HDD.out
                    subst hd1
                    go_quiet (fail)
                    go_wp2_with fail
                    go_meet
                    obtain ⟨m, hm⟩ := HD.out
                    exact ⟨rfl, rfl, m + nq, by rw [hm]; simp⟩
                  · have hd1 := HY0.out hy0
                    subst hd1
                    have dy : decide ((d : Int) < 1) = false := decide_eq_false (by omega)
                    have hy1 : ¬ ((d : Int) < 1) := by omega
                    go_quiet (fail)
                    go_wp2_with fail
                    go_meet
                    obtain ⟨m, hm⟩ := HD.out
                    exact ⟨rfl, rfl, m + nq, by rw [hm]; simp⟩
                · have ha1 := HX0.out hx0
                  subst ha1
                  have dx : decide ((a : Int) < 1) = false := decide_eq_false (by omega)
                  have hx1 : ¬ ((a : Int) < 1) := by omega
                  by_cases hy0 : y = 0
                  · subst hy0
                    have hd1 : d = 1 := HDD.out
                    subst hd1
                    go_quiet (fail)
                    go_wp2_with fail
                    go_meet
                    obtain ⟨m, hm⟩ := HD.out
                    exact ⟨rfl, rfl, m + nq, by rw [hm]; simp⟩
                  · have hd1 := HY0.out hy0
                    subst hd1
                    have dy : decide ((d : Int) < 1) = false := decide_eq_false (by omega)
                    have hy1 : ¬ ((d : Int) < 1) := by omega
                    go_quiet (fail)
                    go_wp2_with fail
                    go_meet
                    obtain ⟨m, hm⟩ := HD.out
                    exact ⟨rfl, rfl, m + nq, by rw [hm]; simp⟩
              case rest =>
                obtain ⟨rfl, rfl, hd3⟩ := hcut
                have HD3 := Lib.hid hd3
                clear hd3 HA HDD ci cq
                by_cases c1 : a < d
                · have d1 : decide ((a : Int) < (d : Int)) = true := decide_eq_true (by omega)
                  have hN : frontN W i (q + 1) = F + 1 := by rw [HFN.out, if_pos (.inl c1)]
                  have HN := Lib.hid hN
                  clear hN
                  go_wp2_with fail
                  go_roundw
                  case rel => exact ⟨q + 1, by omega, by go_num, by rw [HN.out]; go_num, HD3.out⟩
                  case measure => simp [intOf]; omega
                · have d1 : decide ((a : Int) < (d : Int)) = false := decide_eq_false (by omega)
                  by_cases c2 : d = a
                  · subst c2
                    have d2 : ((d : Int) == (d : Int)) = true := beq_self_eq_true _
                    by_cases c3 : q < i
                    · have d3 : decide ((q : Int) < (i : Int)) = true := decide_eq_true (by omega)
                      have hN : frontN W i (q + 1) = F + 1 := by rw [HFN.out, if_pos (.inr ⟨rfl, c3⟩)]
                      have HN := Lib.hid hN
                      clear hN
                      go_wp2_with fail
                      go_roundw
                      case rel => exact ⟨q + 1, by omega, by go_num, by rw [HN.out]; go_num, HD3.out⟩
                      case measure => simp [intOf]; omega
                    · have d3 : decide ((q : Int) < (i : Int)) = false := decide_eq_false (by omega)
                      have hN : frontN W i (q + 1) = F := by rw [HFN.out, if_neg (by omega), Nat.add_zero]
                      have HN := Lib.hid hN
                      clear hN
                      go_wp2_with fail
                      go_roundw
                      case rel => exact ⟨q + 1, by omega, by go_num, by rw [HN.out], HD3.out⟩
                      case measure => simp [intOf]; omega
                  · have d2 : ((d : Int) == (a : Int)) = false := by
                      rw [beq_eq_false_iff_ne]
                      omega
                    have hN : frontN W i (q + 1) = F := by rw [HFN.out, if_neg (by omega), Nat.add_zero]
                    have HN := Lib.hid hN
                    clear hN
                    go_wp2_with fail
                    go_roundw
                    case rel => exact ⟨q + 1, by omega, by go_num, by rw [HN.out], HD3.out⟩
                    case measure => simp [intOf]; omega
            · obtain rfl : q = n := by omega
              have dq : decide ((q : Int) < (q : Int)) = false := decide_eq_false (by omega)
              obtain ⟨m, rfl⟩ := hd
              have hF : frontN W i q = front W i := by rw [← frontN_all, HWL.out]
              have hf6 := HF.out.drew m
              have HB6 := Lib.hid (below_drewN HB.out m)
              have cX := hf6.cell i e1
              have fX := hf6.frozen i
              have hs1 := hf6.set i k
              have HS1 := Lib.hid hs1
              have hs2 := hs1.set i (k + 1)
              have HS2 := Lib.hid hs2
              have cX2 := hs1.cell i e1
              have fX2 := hs1.frozen i
              have hiq : (i : Int) < (q : Int) := by omega
              obtain ⟨F, hFF⟩ : ∃ F, F = frontN W i q := ⟨_, rfl⟩
              have HFF : Hid (F = front W i) := Lib.hid (by rw [hFF]; exact hF)
              rw [← hFF] at hfl ⊢
              obtain ⟨k1, hk1'⟩ : ∃ k1, k1 = k + 1 := ⟨_, rfl⟩
              have hkz : (k : Int) + 1 = (k1 : Int) := by omega
              have hPz' : ((2 : Int) ^ k1) = (P : Int) := by rw [hk1']; exact hPz
              rw [← hk1'] at HS2
              have HK1 := Lib.hid hk1'
              clear hfn hF hf6 hs1 hs2 hFF hk1' HD HL HWG HWB
              by_cases c1 : C ≤ F
              · have d1 : decide ((C : Int) ≤ (F : Int)) = true := decide_eq_true (by omega)
                have hfn : (fun j => if j = i then k1 else if j = i then k else if j < i then flatLen k C W j else 0) = fun a => if a < i + 1 then flatLen k C W a else 0 := by
                  funext a
                  by_cases ea : a = i
                  · rw [if_pos ea, if_pos (by omega), ea]
                    unfold flatLen
                    rw [if_pos (by rw [← HFF.out]; exact c1), HK1.out]
                  · rw [if_neg ea, if_neg ea]
                    by_cases ea2 : a < i
                    · rw [if_pos ea2, if_pos (by omega)]
                    · rw [if_neg ea2, if_neg (by omega)]
                rw [hfn] at HS2
                clear hfn HS1
                have HBS := Lib.hid ((HB6.out.setCell (p := ⟨wr.heap.size, i, none⟩) (Nat.le_refl _) (.int .i64 (k : Int))).setCell (p := ⟨wr.heap.size, i, none⟩) (Nat.le_refl _) (.int .i64 (k1 : Int)))
                go_wp2_with fail
                go_roundw
                case rel => exact ⟨i + 1, by omega, by go_num, HS2.out, HBS.out⟩
                case measure => simp [intOf]; omega
              · have d1 : decide ((C : Int) ≤ (F : Int)) = false := decide_eq_false (by omega)
                have hfn : (fun j => if j = i then k else if j < i then flatLen k C W j else 0) = fun a => if a < i + 1 then flatLen k C W a else 0 := by
                  funext a
                  by_cases ea : a = i
                  · rw [if_pos ea, if_pos (by omega), ea]
                    unfold flatLen
                    rw [if_neg (by rw [← HFF.out]; exact c1)]
                  · rw [if_neg ea]
                    by_cases ea2 : a < i
                    · rw [if_pos ea2, if_pos (by omega)]
                    · rw [if_neg ea2, if_neg (by omega)]
                rw [hfn] at HS1
                clear hfn HS2
                have HBS := Lib.hid (HB6.out.setCell (p := ⟨wr.heap.size, i, none⟩) (Nat.le_refl _) (.int .i64 (k : Int)))
                go_wp2_with fail
                go_roundw
                case rel => exact ⟨i + 1, by omega, by go_num, HS1.out, HBS.out⟩
                case measure => simp [intOf]; omega
        · obtain rfl : i = n := by omega
          have di : decide ((i : Int) < (i : Int)) = false := decide_eq_false (by omega)
          have h3 : w2.ownsRow wr.heap.size 3 1 (.slice (some ⟨wr.heap.size, 0, none⟩) i i) i (rowF i fun a => if a < i then flatLen k C W a else 0) := hf
          rw [rowF_same i _ (flatLen k C W) fun a ha => if_pos ha] at h3
          rw [HPN.out.2] at h3
          have HPE := Lib.hid (hP.out _ k w2 hp.out HPN.out.1 h3 hb)
          clear hf hb h3 HF HB hP HWB HWG HWL HL
          go_wp2_with fail
          exact HPE.out

end Go.Proofs.YtmgmgmbpldboiaaGreat
