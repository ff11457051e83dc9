/- Runs of one byte: plain: how they are written, as the document has it. -/
import Derived.Test.YtihmlhkjafajmaaS
namespace Go.Proofs.Ytihmlhkjafajmaa

/-- How many bytes at the beginning are x, at most m. -/
def runN (x : UInt8) : Nat → List UInt8 → Nat
  | 0, _ => 0
  | _ + 1, [] => 0
  | m + 1, y :: l => if y = x then runN x m l + 1 else 0
theorem runN_le (x : UInt8) : ∀ (m : Nat) (l : List UInt8), runN x m l ≤ m ∧ runN x m l ≤ l.length
  | 0, l => ⟨Nat.le_refl _, Nat.zero_le _⟩
  | m + 1, [] => ⟨Nat.zero_le _, Nat.le_refl _⟩
  | m + 1, y :: l => by
    have h := runN_le x m l
    unfold runN
    split <;> simp <;> omega
/-- The run at the beginning of what is left: at most 255 bytes. -/
def headRun : List UInt8 → Nat
  | [] => 0
  | x :: l => runN x 254 l + 1
theorem headRun_le (l : List UInt8) : headRun l ≤ 255 ∧ headRun l ≤ l.length := by
  cases l with
  | nil => exact ⟨by simp [headRun], by simp [headRun]⟩
  | cons x l =>
    have h := runN_le x 254 l
    simp only [headRun, List.length_cons]
    omega
theorem headRun_pos (x : UInt8) (l : List UInt8) : 0 < headRun (x :: l) := Nat.succ_pos _
/-- What a run of k at the beginning is written as. -/
def pieceL (l : List UInt8) (k : Nat) : List UInt8 := if k < 4 then l.take k else l.take 4 ++ [UInt8.ofNat (k - 4)]
def encF : Nat → List UInt8 → List UInt8
  | 0, _ => []
  | _ + 1, [] => []
  | n + 1, x :: l => pieceL (x :: l) (headRun (x :: l)) ++ encF n ((x :: l).drop (headRun (x :: l)))
theorem encF_nil (n : Nat) : encF n [] = [] := by cases n <;> rfl
theorem encF_more (n : Nat) : ∀ (m : Nat) (l : List UInt8), l.length ≤ n → l.length ≤ m → encF n l = encF m l := by
  induction n with
  | zero =>
    intro m l h _
    have : l = [] := List.eq_nil_of_length_eq_zero (by omega)
    subst this
    rw [encF_nil, encF_nil]
  | succ n ih =>
    intro m l h h2
    cases l with
    | nil => rw [encF_nil, encF_nil]
    | cons x l =>
      cases m with
      | zero => simp at h2
      | succ m =>
        have hp := headRun_pos x l
        simp only [List.length_cons] at h h2
        unfold encF
        rw [ih m _ (by rw [List.length_drop, List.length_cons]; omega) (by rw [List.length_drop, List.length_cons]; omega)]
def encL (l : List UInt8) : List UInt8 := encF l.length l
theorem encL_nil : encL [] = [] := rfl
theorem encL_cons (x : UInt8) (l : List UInt8) : encL (x :: l) = pieceL (x :: l) (headRun (x :: l)) ++ encL ((x :: l).drop (headRun (x :: l))) := by
  have hp := headRun_pos x l
  unfold encL
  rw [List.length_cons, encF, encF_more l.length _ _ (by rw [List.length_drop, List.length_cons]; omega) (Nat.le_refl _)]
theorem encL_step (l : List UInt8) (h : l ≠ []) : encL l = pieceL l (headRun l) ++ encL (l.drop (headRun l)) := by
  cases l with
  | nil => exact absurd rfl h
  | cons x l => exact encL_cons x l

/-- A run that is read byte by byte: k of it are read. -/
theorem headRun_more (l : List UInt8) (k : Nat) (x y : UInt8) (hy : l[k]? = some y) (hk : 0 < k) (he : y = x) (h255 : k < 255) (h : headRun l = k + runN x (255 - k) (l.drop k)) :
    headRun l = (k + 1) + runN x (255 - (k + 1)) (l.drop (k + 1)) := by
  have hlt : k < l.length := by
    rcases Nat.lt_or_ge k l.length with h1 | h1
    · exact h1
    · rw [List.getElem?_eq_none h1] at hy; cases hy
  have hd : l.drop k = y :: l.drop (k + 1) := by
    rw [List.drop_eq_getElem_cons hlt]
    rw [List.getElem?_eq_getElem hlt] at hy
    rw [Option.some.inj hy]
  rw [h, hd, show 255 - k = (255 - (k + 1)) + 1 by omega, runN, if_pos he]
  omega
theorem headRun_first (x : UInt8) (l : List UInt8) : headRun (x :: l) = 1 + runN x (255 - 1) ((x :: l).drop 1) := by
  show runN x 254 l + 1 = 1 + runN x 254 l
  omega
theorem headRun_end (l : List UInt8) (k : Nat) (x : UInt8) (h : headRun l = k + runN x (255 - k) (l.drop k)) (he : l.length ≤ k ∨ 255 ≤ k ∨ ∃ y, l[k]? = some y ∧ y ≠ x) : headRun l = k := by
  rw [h]
  have h0 : runN x (255 - k) (l.drop k) = 0 := by
    rcases he with h1 | h1 | ⟨y, hy, hn⟩
    · rw [List.drop_of_length_le h1]
      cases 255 - k <;> rfl
    · rw [show 255 - k = 0 by omega]
      rfl
    · have hlt : k < l.length := by
        rcases Nat.lt_or_ge k l.length with h1 | h1
        · exact h1
        · rw [List.getElem?_eq_none h1] at hy; cases hy
      rw [List.drop_eq_getElem_cons hlt]
      rw [List.getElem?_eq_getElem hlt] at hy
      cases 255 - k with
      | zero => rfl
      | succ m => rw [runN, if_neg (by rw [Option.some.inj hy]; exact hn)]
  omega

end Go.Proofs.Ytihmlhkjafajmaa
