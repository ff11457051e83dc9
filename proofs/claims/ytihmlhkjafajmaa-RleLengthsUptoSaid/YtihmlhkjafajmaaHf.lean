/- Plain: what is read of runs, piece by piece. No conditions. -/
import Derived.Test.YtihmlhkjafajmaaEe
namespace Go.Proofs.Ytihmlhkjafajmaa

theorem runN_split (x : UInt8) : ∀ (m : Nat) (l : List UInt8), l = List.replicate (runN x m l) x ++ l.drop (runN x m l) ∧ (runN x m l < m → (l.drop (runN x m l)).head? ≠ some x)
  | 0, l => ⟨rfl, fun h => absurd h (Nat.lt_irrefl _)⟩
  | m + 1, [] => ⟨rfl, fun _ h => by cases h⟩
  | m + 1, y :: l => by
    by_cases e : y = x
    · have h := runN_split x m l
      subst e
      have hr : runN y (m + 1) (y :: l) = runN y m l + 1 := by rw [runN, if_pos rfl]
      rw [hr]
      refine ⟨?_, fun hlt => h.2 (by omega)⟩
      show y :: l = y :: (List.replicate (runN y m l) y ++ l.drop (runN y m l))
      rw [← h.1]
    · have hr : runN x (m + 1) (y :: l) = 0 := by rw [runN, if_neg e]
      rw [hr]
      exact ⟨rfl, fun _ h => e (Option.some.inj h)⟩
theorem same_split (x : UInt8) (l : List UInt8) (n : Nat) (h : sameN (x :: l) = n) (h4 : n < 4) : x :: l = List.replicate n x ++ (x :: l).drop n ∧ ((x :: l).drop n).head? ≠ some x := by
  have hs := runN_split x 3 l
  have h1 : 1 + runN x 3 l = n := h
  obtain ⟨j, rfl⟩ : ∃ j, n = j + 1 := ⟨n - 1, by omega⟩
  have hj : runN x 3 l = j := by omega
  rw [hj] at hs
  refine ⟨?_, hs.2 (by omega)⟩
  show x :: l = x :: (List.replicate j x ++ l.drop j)
  rw [← hs.1]
theorem dec_run (x : UInt8) (r : List UInt8) (hr : r.head? ≠ some x) : ∀ (k : Nat) (o : List UInt8), k < 4 → o.length ≤ 262144 → decL o (List.replicate k x ++ r) = if o.length + k ≤ 262144 then decL (o ++ List.replicate k x) r else ([], 3)
  | 0, o, _, ho => by
    rw [if_pos (by omega)]
    simp
  | k + 1, o, h, ho => by
    have hs := sameN_rep x (k + 1) r (by omega) (by omega) (.inr hr)
    show decL o (x :: (List.replicate k x ++ r)) = _
    rw [decL_cons, if_pos (by show sameN (List.replicate (k + 1) x ++ r) < 4; omega)]
    by_cases hb : 262144 ≤ o.length
    · rw [if_pos hb, if_neg (by omega)]
    · rw [if_neg hb, dec_run x r hr k (o ++ [x]) (by omega) (by rw [List.length_append, List.length_singleton]; omega), List.length_append, List.length_singleton, List.append_assoc]
      by_cases hf : o.length + (k + 1) ≤ 262144
      · rw [if_pos (by omega), if_pos hf]
        rfl
      · rw [if_neg (by omega), if_neg hf]
/-- One to three bytes that are one. -/
theorem dec_few (o l : List UInt8) (n : Nat) (hl : l ≠ []) (h : sameN l = n) (h4 : n < 4) (ho : o.length ≤ 262144) : decL o l = if o.length + n ≤ 262144 then decL (o ++ l.take n) (l.drop n) else ([], 3) := by
  cases l with
  | nil => exact absurd rfl hl
  | cons x l =>
    obtain ⟨hs, hh⟩ := same_split x l n h h4
    have hd := dec_run x _ hh n o h4 ho
    rw [← hs] at hd
    have ht : (x :: l).take n = List.replicate n x := by
      have h2 := congrArg (List.take n) hs
      rw [List.take_append_of_le_length (by simp)] at h2
      rw [h2, List.take_of_length_le (by simp)]
    rw [hd, ht]
/-- Four bytes that are one, and what is behind them. -/
theorem dec_fourth (o l : List UInt8) (x : UInt8) (hx : l[0]? = some x) (h : sameN l = 4) : decL o l =
    if 262144 < o.length + 4 then ([], 3) else if l.length = 4 then ([], 30)
    else if 262144 < o.length + 4 + (l.getD 4 0).toNat then ([], 3) else decL (o ++ l.take 4 ++ List.replicate (l.getD 4 0).toNat x) (l.drop 5) := by
  cases l with
  | nil => cases hx
  | cons y l =>
    have e : y = x := Option.some.inj hx
    subst e
    rw [decL_cons, if_neg (by omega)]
    have h4 : (l.length = 3) = ((y :: l).length = 4) := by
      rw [List.length_cons]
      exact propext ⟨fun h => by omega, fun h => by omega⟩
    simp only [h4]
    rfl

end Go.Proofs.Ytihmlhkjafajmaa
