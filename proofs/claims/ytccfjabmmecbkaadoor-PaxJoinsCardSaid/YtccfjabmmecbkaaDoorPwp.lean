/- Pax: plain: how the code reads a record: the first bytes, a pair, what they are made of; a text that begins with no record. -/
import Derived.Test.YtccfjabmmecbkaaDoorPxf
namespace Go.Proofs.YtccfjabmmecbkaaDoor
open Go.RowKit

/-- What stands behind the first such byte. -/
def behindB (b : UInt8) (s : List UInt8) : List UInt8 := (s.dropWhile (· != b)).drop 1
def trimE (s : List UInt8) : List UInt8 := if s.getLast? = some 10 then s.dropLast else s
def cutR (s : List UInt8) : List UInt8 := if (decimalA (s.takeWhile (· != 32))).2 ≠ 0 ∨ s.length < (decimalA (s.takeWhile (· != 32))).1 then [] else s.take (decimalA (s.takeWhile (· != 32))).1
def pairR (x : List UInt8) : PairL := ((trimE (behindB 32 x)).takeWhile (· != 61), behindB 61 (trimE (behindB 32 x)))
def isR (x : List UInt8) : Prop := keyK (pairR x).1 ∧ recL (pairR x) = x
instance (x : List UInt8) : Decidable (isR x) := by unfold isR; exact inferInstance
set_option maxRecDepth 100000 in
theorem idx_in (b : UInt8) : ∀ s : List UInt8, b ∈ s → s.takeWhile (· != b) = s.take (s.idxOf b) ∧ s.dropWhile (· != b) = s.drop (s.idxOf b)
  | [], h => by cases h
  | c :: s, h => by
    rw [List.takeWhile_cons, List.dropWhile_cons, List.idxOf_cons]
    by_cases e : c = b
    · subst e
      simp
    · have e1 : (c == b) = false := by simpa using e
      have e2 : (c != b) = true := by simpa using e
      obtain ⟨h1, h2⟩ := idx_in b s (by rcases List.mem_cons.1 h with q | q; exact absurd q.symm e; exact q)
      rw [if_pos e2, if_pos e2, h1, h2, e1]
      exact ⟨rfl, rfl⟩
set_option maxRecDepth 100000 in
theorem idx_out0 (b : UInt8) : ∀ s : List UInt8, b ∉ s → s.takeWhile (· != b) = s ∧ s.dropWhile (· != b) = []
  | [], _ => ⟨rfl, rfl⟩
  | c :: s, h => by
    have hc : (c != b) = true := by
      have : c ≠ b := fun e => h (e ▸ List.mem_cons_self)
      simpa using this
    obtain ⟨g1, g2⟩ := idx_out0 b s fun q => h (List.mem_cons_of_mem _ q)
    rw [List.takeWhile_cons, List.dropWhile_cons, if_pos hc, if_pos hc, g1, g2]
    exact ⟨rfl, rfl⟩
theorem idx_out (b : UInt8) (s : List UInt8) (h : b ∉ s) : s.takeWhile (· != b) = s ∧ behindB b s = [] :=
  ⟨(idx_out0 b s h).1, by rw [behindB, (idx_out0 b s h).2]; rfl⟩
theorem behind_len (b : UInt8) (s : List UInt8) : (behindB b s).length ≤ s.length := by
  unfold behindB
  rw [List.length_drop]
  have := (List.dropWhile_sublist (· != b) (l := s)).length_le
  omega
theorem trim_len (s : List UInt8) : (trimE s).length ≤ s.length := by
  unfold trimE
  split
  · rw [List.length_dropLast]; omega
  · omega
theorem cutR_len (s : List UInt8) : (cutR s).length ≤ s.length := by
  unfold cutR
  split
  · exact Nat.zero_le _
  · rw [List.length_take]; omega
theorem cutR_front (s : List UInt8) : cutR s ++ s.drop (cutR s).length = s := by
  unfold cutR
  split
  · rfl
  · rename_i h
    rw [List.length_take, Nat.min_eq_left (by omega), List.take_append_drop]
theorem pair_len (x : List UInt8) : (pairR x).1.length + (pairR x).2.length ≤ x.length := by
  have h1 := behind_len 32 x
  have h2 := trim_len (behindB 32 x)
  show ((trimE (behindB 32 x)).takeWhile (· != 61)).length + (behindB 61 (trimE (behindB 32 x))).length ≤ _
  generalize trimE (behindB 32 x) = t at *
  by_cases h : (61 : UInt8) ∈ t
  · obtain ⟨e1, e2⟩ := idx_in 61 _ h
    rw [behindB, e1, e2, List.length_drop, List.length_drop, List.length_take]
    omega
  · obtain ⟨e1, e2⟩ := idx_out 61 _ h
    rw [e1, e2]
    show _ + 0 ≤ _
    omega
set_option maxRecDepth 100000 in
theorem pair_rec (p : PairL) (hk : keyK p.1) : pairR (recL p) = p := by
  have h0 := (first_blank p []).2
  rw [List.append_nil, List.append_nil] at h0
  have h1 : behindB 32 (recL p) = p.1 ++ 61 :: (p.2 ++ [10]) := by
    rw [behindB, h0]
    rfl
  have h2 : trimE (p.1 ++ 61 :: (p.2 ++ [10])) = p.1 ++ 61 :: p.2 := by
    have e : p.1 ++ 61 :: (p.2 ++ [10]) = (p.1 ++ 61 :: p.2) ++ [10] := by simp
    rw [e, trimE, if_pos List.getLast?_concat, List.dropLast_concat]
  obtain ⟨h3, h4⟩ := upto_cons 61 p.1 p.2 hk.2
  rw [pairR, h1, h2, behindB, h3, h4]
  rfl
theorem cut_rec (p : PairL) (r : List UInt8) (h : p.1.length + p.2.length ≤ 999990) : cutR (recL p ++ r) = recL p := by
  have hl := len_rec p r h
  unfold cutR
  rw [hl]
  have e : (recL p).length = recN p := recL_length p h
  rw [if_neg (by rw [List.length_append, e]; show ¬ (0 ≠ 0 ∨ recN p + r.length < recN p); omega)]
  show (recL p ++ r).take (recN p) = _
  rw [← e, List.take_left]
theorem is_rec (p : PairL) (r : List UInt8) (hk : keyK p.1) (h : p.1.length + p.2.length ≤ 999990) : isR (cutR (recL p ++ r)) := by
  rw [cut_rec p r h]
  unfold isR
  rw [pair_rec p hk]
  exact ⟨hk, rfl⟩
theorem not_nil : ¬ isR [] := by
  intro h
  exact recL_ne _ h.2
theorem flat_stuckR : ∀ (L l : List PairL) (R : List UInt8), keysK L → keysK l → shortP L → shortP l → flatP L ++ R = flatP l → ∃ l', l = L ++ l' ∧ R = flatP l'
  | [], l, R, _, _, _, _, h => ⟨l, rfl, h⟩
  | p :: L, [], R, _, _, _, _, h => by
    have h1 : recL p ++ (flatP L ++ R) = [] := by rw [← List.append_assoc]; exact h
    exact absurd (List.append_eq_nil_iff.1 h1).1 (recL_ne p)
  | p :: L, q :: l, R, hL, hl, sL, sl, h => by
    have h1 := read_rec p (flatP L ++ R) (hL p List.mem_cons_self) (sL p List.mem_cons_self)
    have h2 := read_rec q (flatP l) (hl q List.mem_cons_self) (sl q List.mem_cons_self)
    rw [show recL p ++ (flatP L ++ R) = recL q ++ flatP l from by rw [← List.append_assoc]; exact h, h2] at h1
    have e1 : q = p := congrArg Prod.fst h1
    have e2 : flatP l = flatP L ++ R := congrArg Prod.snd h1
    obtain ⟨l', h3, h4⟩ := flat_stuckR L l R (fun x hx => hL x (List.mem_cons_of_mem _ hx)) (fun x hx => hl x (List.mem_cons_of_mem _ hx)) (fun x hx => sL x (List.mem_cons_of_mem _ hx)) (fun x hx => sl x (List.mem_cons_of_mem _ hx)) e2.symm
    exact ⟨l', by rw [e1, h3]; rfl, h4⟩
/-- Where the code finds no record and something is left, the text has no pairs. -/
theorem no_pairs (L : List PairL) (R t : List UInt8) (hL : keysK L) (ht : t.length ≤ 262144) (h : flatP L ++ R = t) (hn : ¬ isR (cutR R)) (hR : R ≠ []) : ∀ l, keysK l → flatP l ≠ t := by
  intro l hl e
  have h1 : (flatP L).length ≤ 999990 := by
    have := congrArg List.length h
    rw [List.length_append] at this
    omega
  have hs := short_of_flat l (by rw [e]; omega)
  obtain ⟨l', h3, h4⟩ := flat_stuckR L l R hL hl (short_of_flat L h1) hs (by rw [h, e])
  cases l' with
  | nil => exact hR h4
  | cons q l' =>
    have hq : q ∈ l := by rw [h3]; exact List.mem_append_right _ List.mem_cons_self
    refine hn ?_
    rw [h4]
    exact is_rec q (flatP l') (hl q hq) (hs q hq)
/-- One more record read. -/
theorem one_more (L : List PairL) (R t : List UInt8) (hL : keysK L) (h : flatP L ++ R = t) (hi : isR (cutR R)) : keysK (L ++ [pairR (cutR R)]) ∧ flatP (L ++ [pairR (cutR R)]) ++ R.drop (cutR R).length = t ∧ 0 < (cutR R).length := by
  refine ⟨keysK_append hL fun p hp => ?_, ?_, ?_⟩
  · rw [List.mem_singleton.1 hp]
    exact hi.1
  · rw [flatP_append, show flatP [pairR (cutR R)] = recL (pairR (cutR R)) from List.append_nil _, hi.2, List.append_assoc, cutR_front]
    exact h
  · refine List.length_pos_iff.2 fun e => ?_
    rw [e] at hi
    exact not_nil hi
/-- The digits of a size, reckoned from below. -/
theorem decL_mono (a b : Nat) (h : a ≤ b) (hb : b < 1000000) : (decL a).length ≤ (decL b).length := by
  rw [decL_size a (by omega), decL_size b hb]
  repeat' split
  all_goals omega
set_option maxRecDepth 100000 in
theorem dig_step (r d : Nat) (hr : r ≤ 999990) (hd : d ≤ digN r) (hi : d ≤ (decL (r + d)).length) : (decL (r + d)).length ≤ digN r ∧ ((decL (r + d)).length ≤ d → d = digN r) ∧ (d < (decL (r + d)).length → (decL (r + d)).length ≤ (decL (r + (decL (r + d)).length)).length) := by
  have h6 : digN r ≤ 6 ∧ digN r + r < 1000000 := by
    unfold digN
    repeat' split
    all_goals omega
  have h1 : (decL (r + d)).length ≤ digN r := by
    have := decL_mono (r + d) (digN r + r) (by omega) (by omega)
    rw [digN_right r (by omega)] at this
    exact this
  refine ⟨h1, fun h => ?_, fun h => decL_mono _ _ (by omega) (by omega)⟩
  rcases Nat.lt_or_ge d (digN r) with h3 | h3
  · have := digN_least r d (by omega) h3
    rw [Nat.add_comm] at this
    omega
  · omega
end Go.Proofs.YtccfjabmmecbkaaDoor
