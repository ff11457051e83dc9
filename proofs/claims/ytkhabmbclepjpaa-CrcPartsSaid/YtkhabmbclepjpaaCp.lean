/- Plain mathematics: the division of polynomials, as the reference writes it in place, is the register that eats bit by bit and byte by byte. No conditions. -/
import Derived.Test.YtkhabmbclepjpaaCx
namespace Go.Proofs.Ytkhabmbclepjpaa

/-- The first of X, the bits of Y added. -/
def addP : List Nat → List Nat → List Nat
  | x :: xs, y :: ys => (x + y) % 2 :: addP xs ys
  | xs, _ => xs
theorem addP_nil (X : List Nat) : addP X [] = X := by cases X <;> rfl
theorem addP_none (Y : List Nat) : addP [] Y = [] := by cases Y <;> rfl
theorem addP_length (X : List Nat) : ∀ Y, (addP X Y).length = X.length := by
  induction X with
  | nil => intro Y; rw [addP_none]
  | cons x xs ih =>
    intro Y
    cases Y with
    | nil => rw [addP_nil]
    | cons y ys => simp [addP, ih]
theorem addP_bits (X : List Nat) : ∀ Y, Bit01 X → Bit01 (addP X Y) := by
  induction X with
  | nil => intro Y h; rw [addP_none]; exact h
  | cons x xs ih =>
    intro Y h
    cases Y with
    | nil => rw [addP_nil]; exact h
    | cons y ys =>
      intro b hb
      rw [addP] at hb
      rcases List.mem_cons.1 hb with rfl | hb
      · exact Nat.mod_lt _ (by omega)
      · exact ih ys (fun c hc => h c (List.mem_cons_of_mem _ hc)) b hb
theorem addP_take (X : List Nat) : ∀ (Y : List Nat) (m : Nat), m < Y.length → m < X.length → addP X (Y.take (m + 1)) = (addP X (Y.take m)).set m (((addP X (Y.take m)).getD m 0 + Y.getD m 0) % 2) := by
  induction X with
  | nil => intro Y m _ h; cases h
  | cons x xs ih =>
    intro Y m hy hx
    cases Y with
    | nil => cases hy
    | cons y ys =>
      cases m with
      | zero => simp [addP, addP_nil]
      | succ m =>
        simp only [List.take_succ_cons, addP, List.set_cons_succ, List.getD_cons_succ]
        rw [ih ys m (by simpa using hy) (by simpa using hx)]
theorem addP_comm (X : List Nat) : ∀ Y Z, addP (addP X Y) Z = addP (addP X Z) Y := by
  induction X with
  | nil => intro Y Z; simp [addP_none]
  | cons x xs ih =>
    intro Y Z
    cases Y with
    | nil => rw [addP_nil, addP_nil]
    | cons y ys =>
      cases Z with
      | nil => rw [addP_nil, addP_nil]
      | cons z zs =>
        simp only [addP]
        rw [ih ys zs]
        congr 1
        omega
theorem addP_assoc (X : List Nat) : ∀ Y Z, X.length ≤ Y.length ∨ Z.length ≤ Y.length → addP (addP X Y) Z = addP X (addP Y Z) := by
  induction X with
  | nil => intro Y Z _; simp [addP_none]
  | cons x xs ih =>
    intro Y Z h
    cases Y with
    | nil =>
      rcases h with h | h
      · simp at h
      · have : Z = [] := List.eq_nil_of_length_eq_zero (by simpa using h)
        subst this
        simp only [addP_nil]
    | cons y ys =>
      cases Z with
      | nil => rw [addP_nil, addP_nil]
      | cons z zs =>
        simp only [addP]
        rw [ih ys zs (by simpa using h)]
        congr 1
        omega
theorem addP_pad (X : List Nat) : ∀ (Y : List Nat) (k : Nat), Bit01 X → addP X (Y ++ List.replicate k 0) = addP X Y := by
  induction X with
  | nil => intro Y k _; simp [addP_none]
  | cons x xs ih =>
    intro Y k h
    have hx : x < 2 := h x List.mem_cons_self
    have hs : Bit01 xs := fun c hc => h c (List.mem_cons_of_mem _ hc)
    cases Y with
    | nil =>
      cases k with
      | zero => rfl
      | succ k =>
        have h1 := ih [] k hs
        rw [List.nil_append, addP_nil] at h1
        rw [List.nil_append, List.replicate_succ, addP, addP_nil, h1]
        congr 1
        omega
    | cons y ys => rw [List.cons_append, addP, addP, ih ys k hs]
theorem addP_zeros (Y : List Nat) : Bit01 Y → addP (List.replicate Y.length 0) Y = Y := by
  induction Y with
  | nil => intro _; rfl
  | cons y ys ih =>
    intro h
    have hy : y < 2 := h y List.mem_cons_self
    rw [List.length_cons, List.replicate_succ, addP, ih (fun c hc => h c (List.mem_cons_of_mem _ hc))]
    congr 1
    omega
theorem addP_append (X : List Nat) : ∀ (X' Y : List Nat), Y.length ≤ X.length → addP (X ++ X') Y = addP X Y ++ X' := by
  induction X with
  | nil =>
    intro X' Y h
    have : Y = [] := List.eq_nil_of_length_eq_zero (by simpa using h)
    subst this
    rw [addP_nil, addP_nil]
  | cons x xs ih =>
    intro X' Y h
    cases Y with
    | nil => rw [addP_nil, addP_nil]
    | cons y ys => rw [List.cons_append, addP, addP, ih X' ys (by simpa using h), List.cons_append]

theorem addF_addP (D R : List Nat) (m : Nat) (hR : m ≤ R.length) (hD : m ≤ D.length) : addF D R m = addP D (R.take m) := by
  induction m with
  | zero => rw [addF, List.take_zero, addP_nil]
  | succ m ih => rw [addF, ih (by omega) (by omega), addP_take D R m (by omega) (by omega)]
theorem setK_addP (D : List Nat) (i m : Nat) (hm : m ≤ 33) (hD : i + m ≤ D.length) : setK D i m = D.take i ++ addP (D.drop i) (pL.take m) := by
  induction m with
  | zero => rw [setK, List.take_zero, addP_nil, List.take_append_drop]
  | succ m ih =>
    have hl : (D.take i).length = i := by rw [List.length_take]; omega
    rw [setK, ih (by omega) (by omega), addP_take (D.drop i) pL m (by rw [pL_length]; omega) (by rw [List.length_drop]; omega)]
    rw [List.set_append, if_neg (by omega), hl, Nat.add_sub_cancel_left]
    congr 2
    rw [List.getD_eq_getElem?_getD, List.getElem?_append_right (by omega), hl, Nat.add_sub_cancel_left, ← List.getD_eq_getElem?_getD]

/-- One step of the division, seen from the bit that goes away. -/
def stepH : List Nat → List Nat
  | [] => []
  | x :: xs => if x = 1 then addP xs (pL.drop 1) else xs
def iterH : Nat → List Nat → List Nat
  | 0, X => X
  | n + 1, X => iterH n (stepH X)
theorem iterH_succ (n : Nat) : ∀ X, iterH (n + 1) X = stepH (iterH n X) := by
  induction n with
  | zero => intro X; rfl
  | succ n ih => intro X; rw [iterH, ih]; rfl
theorem pL_head : pL = 1 :: pL.drop 1 := by decide
theorem addP_pL (T : List Nat) : addP (1 :: T) pL = 0 :: addP T (pL.drop 1) := by
  conv =>
    lhs
    rw [pL_head, addP]
theorem stepD_drop (D : List Nat) (i : Nat) (h : i + 33 ≤ D.length) : (stepD D i).drop (i + 1) = stepH (D.drop i) := by
  have hc : D.drop i = D.getD i 0 :: D.drop (i + 1) := by
    rw [List.drop_eq_getElem_cons (by omega), List.getD_eq_getElem?_getD, List.getElem?_eq_getElem (by omega)]
    rfl
  unfold stepD
  rw [hc, stepH]
  split
  · rename_i h1
    have hl : (D.take i).length = i := by rw [List.length_take]; omega
    have hp : pL.take 33 = pL := List.take_of_length_le (by rw [pL_length]; omega)
    have hd : (D.take i).drop (i + 1) = [] := List.drop_of_length_le (by omega)
    rw [setK_addP D i 33 (by omega) (by omega), hp, hc, h1, addP_pL, List.drop_append, hl, hd, Nat.add_sub_cancel_left, List.nil_append]
    rfl
  · rfl
theorem runD_drop (D : List Nat) (i : Nat) (h : i + 32 ≤ D.length) : (runD D i).drop i = iterH i D := by
  induction i with
  | zero => rfl
  | succ i ih => rw [runD, stepD_drop _ _ (by rw [runD_length]; omega), ih (by omega), iterH_succ]
theorem restL_iterH (D : List Nat) (h : 32 ≤ D.length) : restL D = iterH (D.length - 32) D := runD_drop D _ (by omega)

/-- A register that eats a bit. -/
def bitL : List Nat → Nat → List Nat
  | [], _ => []
  | x :: xs, m => if (x + m) % 2 = 1 then addP (xs ++ [0]) (pL.drop 1) else xs ++ [0]
theorem bitL_cons (x : Nat) (xs : List Nat) (m : Nat) : bitL (x :: xs) m = if (x + m) % 2 = 1 then addP (xs ++ [0]) (pL.drop 1) else xs ++ [0] := rfl
theorem bitL_length (r : List Nat) (m : Nat) : (bitL r m).length = r.length := by
  cases r with
  | nil => rfl
  | cons x xs =>
    rw [bitL_cons]
    split
    · rw [addP_length, List.length_append]; rfl
    · rw [List.length_append]; rfl
theorem bitL_bits (r : List Nat) (m : Nat) (h : Bit01 r) : Bit01 (bitL r m) := by
  cases r with
  | nil => exact h
  | cons x xs =>
    have h1 : Bit01 (xs ++ [0]) := Bit01.append (fun c hc => h c (List.mem_cons_of_mem _ hc)) (bit01_zeros 1)
    rw [bitL_cons]
    split
    · exact addP_bits _ _ h1
    · exact h1
def dirL (r : List Nat) (M : List Nat) : List Nat := M.foldl bitL r
theorem iterH_dirL (M : List Nat) : ∀ r : List Nat, r.length = 32 → Bit01 r → Bit01 M → iterH M.length (addP (M ++ List.replicate 32 0) r) = dirL r M := by
  induction M with
  | nil =>
    intro r hl hr _
    have h := addP_zeros r hr
    rw [hl] at h
    exact h
  | cons m M ih =>
    intro r hl hr hM
    have hM' : Bit01 M := fun c hc => hM c (List.mem_cons_of_mem _ hc)
    have hY : Bit01 (M ++ List.replicate 32 0) := hM'.append (bit01_zeros 32)
    cases r with
    | nil => cases hl
    | cons x xs =>
      have hxl : xs.length = 31 := by simpa using hl
      have e1 : addP (M ++ List.replicate 32 0) xs = addP (M ++ List.replicate 32 0) (xs ++ [0]) := (addP_pad _ xs 1 hY).symm
      have e2 : stepH (addP ((m :: M) ++ List.replicate 32 0) (x :: xs)) = addP (M ++ List.replicate 32 0) (bitL (x :: xs) m) := by
        rw [List.cons_append, addP, stepH, bitL, Nat.add_comm x m, e1]
        split
        · exact addP_assoc _ _ _ (.inr (by rw [List.length_drop, pL_length, List.length_append, hxl]; decide))
        · rfl
      rw [List.length_cons, iterH, e2, ih _ (by rw [bitL_length]; exact hl) (bitL_bits _ _ hr) hM']
      rfl
theorem moreL_dirL (r : Nat) (l : List UInt8) : moreL r l = dirL (bitsN r 32) (bitsB l) := by
  have h1 : (bitsB l ++ List.replicate 32 0).length = (bitsB l).length + 32 := by rw [List.length_append, List.length_replicate]
  unfold moreL
  rw [restL_iterH _ (by rw [addF_length, h1]; omega), addF_length, h1, Nat.add_sub_cancel, addF_addP _ _ _ (by rw [bitsN_length]; omega) (by rw [h1]; omega), List.take_of_length_le (by rw [bitsN_length]; omega)]
  exact iterH_dirL _ _ (bitsN_length _ _) (bit01_bitsN _ _) (bit01_bitsB _)

end Go.Proofs.Ytkhabmbclepjpaa
