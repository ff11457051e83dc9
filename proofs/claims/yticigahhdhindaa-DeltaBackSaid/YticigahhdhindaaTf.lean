/- Four bits more behind the first five, put into bytes: plain. Written ahead of stage 10. -/
import Derived.Test.YticigahhdhindaaTe
import Derived.Laws.BitsAllLaws
namespace Go.Proofs.Yticigahhdhindaa
open Go.RowKit

/-- What has been gathered behind i bits. -/
def gather (b : List Nat) (i : Nat) : List Nat := if i ≤ 5 then b.take i else b.take 5 ++ [1, 0, 1, 1] ++ (b.take i).drop 5
theorem take_next_nat (b : List Nat) (i : Nat) (h : i < b.length) : b.take (i + 1) = b.take i ++ [b.getD i 0] := by
  rw [List.take_succ_eq_append_getElem h, List.getD_eq_getElem?_getD, List.getElem?_eq_getElem h]
  rfl
theorem gather_five (b : List Nat) (h : 5 < b.length) : gather b 6 = gather b 5 ++ [1, 0, 1, 1] ++ [b.getD 5 0] := by
  unfold gather
  rw [if_neg (by omega), if_pos (by omega), take_next_nat b 5 h, List.drop_left' (by rw [List.length_take]; omega)]
set_option maxRecDepth 100000 in
theorem gather_next (b : List Nat) (i : Nat) (h : i < b.length) (hi : i ≠ 5) : gather b (i + 1) = gather b i ++ [b.getD i 0] := by
  unfold gather
  by_cases h5 : i + 1 ≤ 5
  · rw [if_pos h5, if_pos (by omega), take_next_nat b i h]
  · rw [if_neg h5, if_neg (by omega), take_next_nat b i h, List.drop_append_of_le_length (by rw [List.length_take]; omega), List.append_assoc, List.append_assoc]
    simp
theorem gather_all (b : List Nat) (h : 5 < b.length) : gather b b.length = b.take 5 ++ [1, 0, 1, 1] ++ b.drop 5 := by
  unfold gather
  rw [if_neg (by omega), List.take_length]
set_option maxRecDepth 100000 in
theorem gather_le (b : List Nat) (i : Nat) : (gather b i).length ≤ i + 4 := by
  unfold gather
  split
  · rw [List.length_take]; omega
  · simp only [List.length_append, List.length_take, List.length_drop, List.length_cons, List.length_nil]; omega

/-- The bits as far as they are put, the rest not yet. -/
def upTo (C : List Nat) (M i : Nat) : List Nat := C.take i ++ List.replicate (8 * M - i) 0
theorem upTo_length (C : List Nat) (M i : Nat) (hi : i ≤ C.length) (hM : C.length ≤ 8 * M) : (upTo C M i).length = 8 * M := by
  unfold upTo
  rw [List.length_append, List.length_take, List.length_replicate]
  omega
/-- A byte of bits that fill whole bytes. -/
theorem pack_get : ∀ (M : Nat) (X : List Nat), X.length = 8 * M → ∀ j, j < M → (pack X)[j]? = some (UInt8.ofNat (val ((X.drop (8 * j)).take 8)))
  | 0, X, _, j, hj => by omega
  | M + 1, X, h, j, hj => by
    have e : X = X.take 8 ++ X.drop 8 := (List.take_append_drop 8 X).symm
    have h8 : (X.take 8).length = 8 := by rw [List.length_take]; omega
    have hp : pack X = UInt8.ofNat (val (X.take 8)) :: pack (X.drop 8) := by
      conv => lhs; rw [e]
      exact pack_cons8 _ _ h8
    rw [hp]
    cases j with
    | zero =>
      rw [Nat.mul_zero, List.drop_zero]
      rfl
    | succ j =>
      rw [List.getElem?_cons_succ, pack_get M (X.drop 8) (by rw [List.length_drop]; omega) j (by omega), List.drop_drop]
      rw [show 8 + 8 * j = 8 * (j + 1) by omega]
set_option maxRecDepth 100000 in
theorem upTo_group (C : List Nat) (M i : Nat) (hi : i ≤ C.length) (hM : C.length ≤ 8 * M) (j : Nat) (hj : j < M) :
    ((upTo C M i).drop (8 * j)).take 8 = ((C.take i).drop (8 * j)).take 8 ++ List.replicate (8 - (((C.take i).drop (8 * j)).take 8).length) 0 := by
  apply List.ext_getElem?
  intro k
  unfold upTo
  by_cases hk : k < 8
  · rw [List.getElem?_take, if_pos hk, List.getElem?_drop]
    by_cases h1 : 8 * j + k < i
    · have hl : k < (((C.take i).drop (8 * j)).take 8).length := by rw [List.length_take, List.length_drop, List.length_take]; omega
      rw [List.getElem?_append_left (by rw [List.length_take]; omega), List.getElem?_append_left hl]
      simp only [List.getElem?_take, if_pos hk, List.getElem?_drop]
    · have hl : (((C.take i).drop (8 * j)).take 8).length ≤ k := by rw [List.length_take, List.length_drop, List.length_take]; omega
      rw [List.getElem?_append_right (by rw [List.length_take]; omega), List.getElem?_append_right hl, List.getElem?_replicate, List.getElem?_replicate]
      rw [if_pos (by rw [List.length_take]; omega), if_pos (by omega)]
  · rw [List.getElem?_eq_none (by rw [List.length_take]; omega), List.getElem?_eq_none]
    rw [List.length_append, List.length_replicate]
    have : (((C.take i).drop (8 * j)).take 8).length ≤ 8 := by rw [List.length_take]; omega
    omega
/-- The bytes as far as they are put. -/
def bytesTo (C : List Nat) (M i : Nat) : List UInt8 := pack (upTo C M i)
theorem bytesTo_length (C : List Nat) (M i : Nat) (hi : i ≤ C.length) (hM : C.length ≤ 8 * M) : (bytesTo C M i).length = M := by
  unfold bytesTo
  rw [pack_length, upTo_length C M i hi hM]
  omega
set_option maxRecDepth 100000 in
theorem bytesTo_zero (C : List Nat) (M : Nat) (hM : C.length ≤ 8 * M) : bytesTo C M 0 = List.replicate M 0 := by
  apply List.ext_getElem?
  intro j
  by_cases hj : j < M
  · unfold bytesTo
    rw [pack_get M _ (upTo_length C M 0 (Nat.zero_le _) hM) j hj, upTo_group C M 0 (Nat.zero_le _) hM j hj]
    simp only [List.take_zero, List.drop_nil, List.take_nil, List.length_nil, List.nil_append]
    rw [List.getElem?_replicate, if_pos hj]
    have hv : val (List.replicate (8 - 0) 0) = 0 := by decide
    rw [hv]
    rfl
  · rw [List.getElem?_eq_none (by rw [bytesTo_length C M 0 (Nat.zero_le _) hM]; omega), List.getElem?_eq_none (by rw [List.length_replicate]; omega)]
set_option maxRecDepth 100000 in
theorem val_pad (l : List Nat) : ∀ k, val (l ++ List.replicate k 0) = val l * 2 ^ k
  | 0 => by simp
  | k + 1 => by
    rw [List.replicate_succ', ← List.append_assoc, val_snoc, val_pad l k, Nat.pow_succ, Nat.add_zero, Nat.mul_left_comm, Nat.mul_comm 2 (2 ^ k)]
set_option maxRecDepth 100000 in
/-- One bit more. -/
theorem bytesTo_next (C : List Nat) (M i : Nat) (hi : i < C.length) (hM : C.length ≤ 8 * M) (hC : Bit01 C) : ∃ o z : Nat, o < 256 ∧ z = C.getD i 0 * 2 ^ (7 - i % 8) ∧ (o ||| z) < 256 ∧ (bytesTo C M i)[i / 8]? = some (UInt8.ofNat o) ∧
    bytesTo C M (i + 1) = (bytesTo C M i).set (i / 8) (UInt8.ofNat (o ||| z)) := by
  have hjM : i / 8 < M := by omega
  have hb := bit_lt C i hC
  obtain ⟨G, hG⟩ : ∃ G, G = ((C.take i).drop (8 * (i / 8))).take 8 := ⟨_, rfl⟩
  have hGl : G.length = i % 8 := by rw [hG, List.length_take, List.length_drop, List.length_take]; omega
  have hGb : Bit01 G := by rw [hG]; exact ((hC.take i).drop _).take 8
  have hGv := val_lt G hGb
  rw [hGl] at hGv
  have hX : G = (C.take i).drop (8 * (i / 8)) := by
    rw [hG, List.take_of_length_le (by rw [List.length_drop, List.length_take]; omega)]
  have hnew : ((C.take (i + 1)).drop (8 * (i / 8))).take 8 = G ++ [C.getD i 0] := by
    rw [take_next_nat C i hi, List.drop_append_of_le_length (by rw [List.length_take]; omega), ← hX, List.take_of_length_le (by rw [List.length_append, hGl]; show i % 8 + 1 ≤ 8; omega)]
  obtain ⟨c, hc⟩ : ∃ c, c = C.getD i 0 := ⟨_, rfl⟩
  obtain ⟨r, hr⟩ : ∃ r, r = i % 8 := ⟨_, rfl⟩
  have hr7 : r ≤ 7 := by omega
  rw [← hc] at hb hnew
  rw [← hr] at hGl hGv
  have hp : (2 : Nat) ^ (8 - r) = 2 * 2 ^ (7 - r) := by rw [show 8 - r = (7 - r) + 1 by omega, Nat.pow_succ, Nat.mul_comm]
  have h256 : 2 ^ r * 2 ^ (8 - r) = 256 := by rw [← Nat.pow_add, show r + (8 - r) = 8 by omega]
  have hz : c * 2 ^ (7 - r) < 2 ^ (8 - r) := by
    rw [hp]
    exact Nat.mul_lt_mul_of_pos_right hb (Nat.two_pow_pos _)
  have hor : (val G * 2 ^ (8 - r)) ||| (c * 2 ^ (7 - r)) = val G * 2 ^ (8 - r) + c * 2 ^ (7 - r) := or_shift _ _ _ hz
  have hsum : val G * 2 ^ (8 - r) + c * 2 ^ (7 - r) < 256 := by
    have h1 : (val G + 1) * 2 ^ (8 - r) ≤ 2 ^ r * 2 ^ (8 - r) := Nat.mul_le_mul_right _ hGv
    rw [Nat.add_mul, Nat.one_mul, h256] at h1
    omega
  have hold : (bytesTo C M i)[i / 8]? = some (UInt8.ofNat (val G * 2 ^ (8 - r))) := by
    unfold bytesTo
    rw [pack_get M _ (upTo_length C M i (by omega) hM) _ hjM, upTo_group C M i (by omega) hM _ hjM, ← hG, val_pad, hGl]
  refine ⟨val G * 2 ^ (8 - r), c * 2 ^ (7 - r), by omega, by rw [hc, hr], by rw [hor]; exact hsum, hold, ?_⟩
  apply List.ext_getElem?
  intro j
  rw [List.getElem?_set, bytesTo_length C M i (by omega) hM]
  by_cases hj : j < M
  · have h1 : (bytesTo C M (i + 1))[j]? = some (UInt8.ofNat (val (((C.take (i + 1)).drop (8 * j)).take 8 ++ List.replicate (8 - (((C.take (i + 1)).drop (8 * j)).take 8).length) 0))) := by
      unfold bytesTo
      rw [pack_get M _ (upTo_length C M (i + 1) (by omega) hM) j hj, upTo_group C M (i + 1) (by omega) hM j hj]
    rw [h1]
    by_cases e : i / 8 = j
    · rw [if_pos e, if_pos hjM, ← e, hnew, hor, val_pad, val_snoc, List.length_append, hGl]
      have e2 : 8 - (r + [c].length) = 7 - r := by
        show 8 - (r + 1) = 7 - r
        omega
      rw [e2, hp]
      congr 2
      rw [Nat.add_mul, Nat.mul_comm 2 (val G), Nat.mul_assoc]
    · rw [if_neg e]
      have h2 : (bytesTo C M i)[j]? = some (UInt8.ofNat (val (((C.take i).drop (8 * j)).take 8 ++ List.replicate (8 - (((C.take i).drop (8 * j)).take 8).length) 0))) := by
        unfold bytesTo
        rw [pack_get M _ (upTo_length C M i (by omega) hM) j hj, upTo_group C M i (by omega) hM j hj]
      rw [h2]
      have hs : ((C.take (i + 1)).drop (8 * j)).take 8 = ((C.take i).drop (8 * j)).take 8 := by
        apply List.ext_getElem?
        intro k
        simp only [List.getElem?_take, List.getElem?_drop]
        by_cases hk : k < 8
        · rw [if_pos hk, if_pos hk]
          by_cases h3 : 8 * j + k < i
          · rw [if_pos h3, if_pos (by omega)]
          · rw [if_neg h3, if_neg (by omega)]
        · rw [if_neg hk, if_neg hk]
      rw [hs]
  · rw [List.getElem?_eq_none (by rw [bytesTo_length C M (i + 1) (by omega) hM]; omega), if_neg (by omega), List.getElem?_eq_none (by rw [bytesTo_length C M i (by omega) hM]; omega)]

theorem bits_steps {x : Nat} (h1 : 1 ≤ x) (h2 : x < 20) (bs : List Nat) (n p : Nat) : takeF ([1, 0, 1, 1] ++ bs) x (n + 1) p [] = takeF bs x (n + 1) (p + [1, 0, 1, 1].length) [] := by
  show takeF (1 :: 0 :: 1 :: 1 :: bs) x (n + 1) p [] = _
  rw [takeF_step _ _ _ _ _ _ _ (by omega) (by omega), if_pos rfl, takeF_step _ _ _ _ _ _ _ (by omega) (by omega), if_neg (by omega), Nat.add_sub_cancel]
  rfl
set_option maxRecDepth 100000 in
/-- What is read of the bits with four more. -/
theorem steps_ans {l : List Nat} (h2 : 2 ≤ l.length) (h258 : l.length ≤ 258) (h : ∀ x ∈ l, 1 ≤ x ∧ x ≤ 20) (h20 : l.getD 0 0 < 20) (M : Nat) (C : List Nat) (hC : C = (showD l).take 5 ++ [1, 0, 1, 1] ++ (showD l).drop 5) (hM : C.length ≤ 8 * M) (T : ByteArray) (hT : T = ⟨(bytesTo C M C.length).toArray⟩) :
    takeAns (bitsB T.data.toList) 0 (l.length : Nat) = (l, (showD l).length + 4, 0) := by
  have hf := first_in (by omega) h
  have hb5 : (showD l).take 5 = bitsN (l.getD 0 0) 5 := by rw [showD, List.take_left' (bitsN_length 5 _)]
  have hd5 : (showD l).drop 5 = stepsB (l.getD 0 0) l := by rw [showD, List.drop_left' (bitsN_length 5 _)]
  have hup : upTo C M C.length = C ++ List.replicate (8 * M - C.length) 0 := by rw [upTo, List.take_length]
  have hCb : Bit01 (upTo C M C.length) := by
    rw [hup, hC]
    refine ((((bit_showD l).take 5).append ?_).append ((bit_showD l).drop 5)).append ?_
    · intro b hb
      simp at hb
      omega
    · intro b hb
      have := (List.mem_replicate.1 hb).2
      omega
  have hbits : bitsB T.data.toList = upTo C M C.length := by
    have hp := bitsB_pack (upTo C M C.length) hCb
    have hl := upTo_length C M C.length (Nat.le_refl _) hM
    rw [hl, show 8 * ((8 * M + 7) / 8) - 8 * M = 0 by omega, List.replicate_zero, List.append_nil] at hp
    rw [hT]
    exact hp
  have hlast := take_show h2 h258 h [] [1, 0, 1, 1] (List.replicate (8 * M - C.length) 0) (fun bs n p => bits_steps hf.1 h20 bs n p)
  have hshape : upTo C M C.length = [] ++ (bitsN (l.getD 0 0) 5 ++ ([1, 0, 1, 1] ++ (stepsB (l.getD 0 0) l ++ List.replicate (8 * M - C.length) 0))) := by
    rw [hup]
    conv => lhs; lhs; rw [hC, hb5, hd5]
    simp
  rw [hbits, hshape]
  have e : ([] : List Nat).length + (showD l).length + [1, 0, 1, 1].length = (showD l).length + 4 := by
    show 0 + (showD l).length + 4 = _
    omega
  rw [e] at hlast
  exact hlast

end Go.Proofs.Yticigahhdhindaa
