/- Paths: plain: one form, one order. Written ahead of stage 14. -/
import Derived.Test.YtlnopdlpdnengaaPtd
namespace Go.Proofs.Ytlnopdlpdnengaa
open Go.RowKit

/-- Parts with slashes between. -/
def joinS : List (List UInt8) → List UInt8
  | [] => []
  | p :: l => p ++ l.flatMap fun q => 47 :: q
def kept (l : List (List UInt8)) : List (List UInt8) := l.filter fun q => decide (¬ (q = [] ∨ q = [46]))
set_option maxRecDepth 100000 in
theorem kept_no {p : List UInt8} (h : p = [] ∨ p = [46]) (l : List (List UInt8)) : kept (p :: l) = kept l := by
  unfold kept
  rw [List.filter_cons_of_neg (by simp [h])]
set_option maxRecDepth 100000 in
theorem kept_yes {p : List UInt8} (h : ¬ (p = [] ∨ p = [46])) (l : List (List UInt8)) : kept (p :: l) = p :: kept l := by
  unfold kept
  rw [List.filter_cons_of_pos (by simp [h])]
theorem kept_mem {l : List (List UInt8)} {q : List UInt8} (h : q ∈ kept l) : q ∈ l ∧ ¬ (q = [] ∨ q = [46]) := by
  unfold kept at h
  have := List.mem_filter.1 h
  exact ⟨this.1, of_decide_eq_true this.2⟩
set_option maxRecDepth 100000 in
theorem joinF_on : ∀ (l : List (List UInt8)) (O : List UInt8), O ≠ [] → joinF O l = O ++ (kept l).flatMap fun q => 47 :: q
  | [], O, _ => by simp [joinF, kept]
  | p :: l, O, h => by
    by_cases hp : p = [] ∨ p = [46]
    · rw [joinF_skip hp, kept_no hp, joinF_on l O h]
    · rw [joinF_put hp, kept_yes hp, if_neg h, joinF_on l _ (by simp), List.flatMap_cons]
      simp
theorem joinF_new : ∀ l : List (List UInt8), joinF [] l = joinS (kept l)
  | [] => rfl
  | p :: l => by
    by_cases hp : p = [] ∨ p = [46]
    · rw [joinF_skip hp, kept_no hp, joinF_new l]
    · rw [joinF_put hp, kept_yes hp, if_pos rfl, List.nil_append, joinF_on l p (fun e => hp (.inl e))]
      rfl
theorem partsF_app (r : List UInt8) : ∀ (a cur : List UInt8), partsF cur (a ++ 47 :: r) = partsF cur a ++ partsL r
  | [], cur => by
    show partsF cur (47 :: r) = [cur] ++ partsL r
    rw [partsF, if_pos rfl]
    rfl
  | c :: a, cur => by
    rw [List.cons_append, partsF, partsF]
    by_cases h : c = 47
    · rw [if_pos h, if_pos h, partsF_app r a [], List.cons_append]
    · rw [if_neg h, if_neg h, partsF_app r a _]
theorem partsL_app (a r : List UInt8) : partsL (a ++ 47 :: r) = partsL a ++ partsL r := partsF_app r a []
set_option maxRecDepth 100000 in
theorem partsF_whole : ∀ (a cur : List UInt8), 47 ∉ a → partsF cur a = [cur ++ a]
  | [], cur, _ => by simp [partsF]
  | c :: a, cur, h => by
    rw [partsF, if_neg (fun e => h (by rw [e]; exact List.mem_cons_self)), partsF_whole a _ (fun h2 => h (List.mem_cons_of_mem _ h2)), List.append_assoc]
    rfl
theorem partsL_whole {a : List UInt8} (h : 47 ∉ a) : partsL a = [a] := partsF_whole a [] h
set_option maxRecDepth 100000 in
theorem joinS_more (p : List UInt8) (l : List (List UInt8)) (h : l ≠ []) : joinS (p :: l) = p ++ 47 :: joinS l := by
  match l, h with
  | q :: l, _ => simp [joinS]
set_option maxRecDepth 100000 in
theorem joinS_app (x : List (List UInt8)) : ∀ y : List (List UInt8), x ≠ [] → y ≠ [] → joinS (x ++ y) = joinS x ++ 47 :: joinS y := by
  induction x with
  | nil => intro y h _; exact absurd rfl h
  | cons p x ih =>
    intro y _ hy
    by_cases hx : x = []
    · subst hx
      rw [List.cons_append, List.nil_append, joinS_more p y hy]
      simp [joinS]
    · rw [List.cons_append, joinS_more p _ (by simp [hx]), ih y hx hy, joinS_more p x hx]
      simp
set_option maxRecDepth 100000 in
theorem joinS_parts : ∀ (s cur : List UInt8), joinS (partsF cur s) = cur ++ s
  | [], cur => by simp [partsF, joinS]
  | c :: s, cur => by
    rw [partsF]
    by_cases h : c = 47
    · rw [if_pos h, joinS_more cur _ (partsF_ne s []), joinS_parts s [], List.nil_append, h]
    · rw [if_neg h, joinS_parts s _, List.append_assoc]
      rfl
theorem parts_back (s : List UInt8) : joinS (partsL s) = s := joinS_parts s []
theorem parts_inj {a b : List UInt8} (h : partsL a = partsL b) : a = b := by rw [← parts_back a, ← parts_back b, h]
set_option maxRecDepth 100000 in
theorem partsL_join : ∀ K : List (List UInt8), K ≠ [] → (∀ q ∈ K, 47 ∉ q) → partsL (joinS K) = K
  | [], h, _ => absurd rfl h
  | p :: l, _, hq => by
    by_cases hl : l = []
    · subst hl
      have : joinS [p] = p := by simp [joinS]
      rw [this, partsL_whole (hq p List.mem_cons_self)]
    · rw [joinS_more p l hl, partsL_app, partsL_whole (hq p List.mem_cons_self), partsL_join l hl fun q h => hq q (List.mem_cons_of_mem _ h)]
      rfl
set_option maxRecDepth 100000 in
theorem parts_no : ∀ (s cur : List UInt8), 47 ∉ cur → ∀ q ∈ partsF cur s, 47 ∉ q
  | [], cur, h, q, hq => by
    rw [partsF, List.mem_singleton] at hq
    rw [hq]
    exact h
  | c :: s, cur, h, q, hq => by
    rw [partsF] at hq
    by_cases e : c = 47
    · rw [if_pos e] at hq
      rcases List.mem_cons.1 hq with rfl | hq
      · exact h
      · exact parts_no s [] List.not_mem_nil q hq
    · rw [if_neg e] at hq
      refine parts_no s _ (fun h2 => ?_) q hq
      rcases List.mem_append.1 h2 with h2 | h2
      · exact h h2
      · exact e (List.mem_singleton.1 h2).symm
set_option maxRecDepth 100000 in
theorem parts_bytes : ∀ (s cur : List UInt8) (q : List UInt8), q ∈ partsF cur s → ∀ c ∈ q, c ∈ cur ∨ c ∈ s
  | [], cur, q, hq, c, hc => by
    rw [partsF, List.mem_singleton] at hq
    rw [hq] at hc
    exact .inl hc
  | x :: s, cur, q, hq, c, hc => by
    rw [partsF] at hq
    by_cases e : x = 47
    · rw [if_pos e] at hq
      rcases List.mem_cons.1 hq with rfl | hq
      · exact .inl hc
      · rcases parts_bytes s [] q hq c hc with h | h
        · exact absurd h List.not_mem_nil
        · exact .inr (List.mem_cons_of_mem _ h)
    · rw [if_neg e] at hq
      rcases parts_bytes s _ q hq c hc with h | h
      · rcases List.mem_append.1 h with h | h
        · exact .inl h
        · rw [List.mem_singleton.1 h]
          exact .inr List.mem_cons_self
      · exact .inr (List.mem_cons_of_mem _ h)
set_option maxRecDepth 100000 in
theorem join_bytes {K : List (List UInt8)} {c : UInt8} (h : c ∈ joinS K) : c = 47 ∨ ∃ q ∈ K, c ∈ q := by
  match K, h with
  | p :: l, h =>
    rcases List.mem_append.1 h with h | h
    · exact .inr ⟨p, List.mem_cons_self, h⟩
    · obtain ⟨q, hq, hc⟩ := List.mem_flatMap.1 h
      rcases List.mem_cons.1 hc with rfl | hc
      · exact .inl rfl
      · exact .inr ⟨q, List.mem_cons_of_mem _ hq, hc⟩
set_option maxRecDepth 100000 in
/-- The kept parts of a path. -/
theorem clean_parts {s p : List UInt8} (h : cleanL s = (p, 0)) : p ≠ [] ∧ p.length ≤ 120 ∧ (∀ c ∈ p, okB c) ∧ partsL p ≠ [] ∧ (∀ q ∈ partsL p, q ≠ [46, 46] ∧ ¬ (q = [] ∨ q = [46]) ∧ 47 ∉ q) := by
  unfold cleanL at h
  by_cases h1 : [46, 46] ∈ partsL s
  · rw [if_pos h1] at h; cases h
  rw [if_neg h1] at h
  by_cases h2 : ¬ ∀ c ∈ s, okB c
  · rw [if_pos h2] at h; cases h
  rw [if_neg h2] at h
  have h2 := Decidable.not_not.1 h2
  by_cases h3 : joinF [] (partsL s) = [] ∨ 120 < (joinF [] (partsL s)).length
  · rw [if_pos h3] at h; cases h
  rw [if_neg h3] at h
  have hp : joinF [] (partsL s) = p := (Prod.mk.inj h).1
  rw [hp] at h3
  rw [joinF_new] at hp
  have hK0 : kept (partsL s) ≠ [] := fun e => by
    rw [e] at hp
    exact h3 (.inl hp.symm)
  have hno : ∀ q ∈ kept (partsL s), 47 ∉ q := fun q hq => parts_no s [] List.not_mem_nil q (kept_mem hq).1
  have hpp : partsL p = kept (partsL s) := by rw [← hp, partsL_join _ hK0 hno]
  refine ⟨fun e => h3 (.inl e), by omega, fun c hc => ?_, by rw [hpp]; exact hK0, fun q hq => ?_⟩
  · rw [← hp] at hc
    rcases join_bytes hc with rfl | ⟨q, hq, hcq⟩
    · decide
    · rcases parts_bytes s [] q (kept_mem hq).1 c hcq with h | h
      · exact absurd h List.not_mem_nil
      · exact h2 c h
  · rw [hpp] at hq
    exact ⟨fun e => h1 (by rw [← e]; exact (kept_mem hq).1), (kept_mem hq).2, hno q hq⟩
theorem kept_all {K : List (List UInt8)} (h : ∀ q ∈ K, ¬ (q = [] ∨ q = [46])) : kept K = K := by
  unfold kept
  exact List.filter_eq_self.2 fun q hq => decide_eq_true (h q hq)
theorem clean_of {t p : List UInt8} (h1 : [46, 46] ∉ partsL t) (h2 : ∀ c ∈ t, okB c) (h3 : joinS (kept (partsL t)) = p) (h4 : p ≠ []) (h5 : p.length ≤ 120) : cleanL t = (p, 0) := by
  unfold cleanL
  rw [if_neg h1, if_neg (not_not_intro h2), joinF_new, h3, if_neg (fun h => h.elim h4 (by omega))]
/-- P14.4. -/
theorem clean_twice {s p : List UInt8} (h : cleanL s = (p, 0)) : cleanL p = (p, 0) := by
  obtain ⟨h1, h2, h3, h4, h5⟩ := clean_parts h
  exact clean_of (fun hm => (h5 _ hm).1 rfl) h3 (by rw [kept_all fun q hq => (h5 q hq).2.1, parts_back]) h1 h2
set_option maxRecDepth 100000 in
theorem check_clean {s p : List UInt8} (h : cleanL s = (p, 0)) : checkL p = 0 := by
  unfold checkL
  rw [clean_twice h, if_neg (by simp)]
/-- The same, with slashes and dots around. -/
def wideF (K : List (List UInt8)) : List UInt8 := K.flatMap fun q => 46 :: 47 :: (q ++ [47, 47])
set_option maxRecDepth 100000 in
theorem parts_wide : ∀ K : List (List UInt8), (∀ q ∈ K, 47 ∉ q) → partsL (wideF K) = (K.flatMap fun q => [[46], q, []]) ++ [[]]
  | [], _ => rfl
  | q :: K, h => by
    have e : wideF (q :: K) = [46] ++ 47 :: (q ++ 47 :: ([] ++ 47 :: wideF K)) := by simp [wideF]
    rw [e, partsL_app, partsL_app, partsL_app, partsL_whole (by decide), partsL_whole (h q List.mem_cons_self), parts_wide K fun x hx => h x (List.mem_cons_of_mem _ hx)]
    rfl
theorem kept_wide : ∀ K : List (List UInt8), (∀ q ∈ K, ¬ (q = [] ∨ q = [46])) → kept ((K.flatMap fun q => [[46], q, []]) ++ [[]]) = K
  | [], _ => rfl
  | q :: K, h => by
    rw [List.flatMap_cons]
    show kept ([46] :: q :: [] :: ((K.flatMap fun q => [[46], q, []]) ++ [[]])) = q :: K
    rw [kept_no (.inr rfl), kept_yes (h q List.mem_cons_self), kept_no (.inl rfl), kept_wide K fun x hx => h x (List.mem_cons_of_mem _ hx)]
set_option maxRecDepth 100000 in
theorem clean_wide {s p : List UInt8} (h : cleanL s = (p, 0)) : cleanL (47 :: wideF (partsL p)) = (p, 0) := by
  obtain ⟨h1, h2, h3, h4, h5⟩ := clean_parts h
  have hw := parts_wide (partsL p) fun q hq => (h5 q hq).2.2
  have e : partsL (47 :: wideF (partsL p)) = [] :: ((partsL p).flatMap fun q => [[46], q, []]) ++ [[]] := by
    rw [show (47 :: wideF (partsL p)) = [] ++ 47 :: wideF (partsL p) from rfl, partsL_app, hw]
    rfl
  refine clean_of ?_ ?_ ?_ h1 h2
  · rw [e]
    intro hm
    rcases List.mem_append.1 hm with hm | hm
    · rcases List.mem_cons.1 hm with hm | hm
      · cases hm
      · obtain ⟨q, hq, hm⟩ := List.mem_flatMap.1 hm
        rcases List.mem_cons.1 hm with hm | hm
        · cases hm
        rcases List.mem_cons.1 hm with hm | hm
        · exact (h5 q hq).1 hm.symm
        · rcases List.mem_cons.1 hm with hm | hm
          · cases hm
          · cases hm
    · cases List.mem_singleton.1 hm
  · intro c hc
    rcases List.mem_cons.1 hc with rfl | hc
    · decide
    · obtain ⟨q, hq, hc⟩ := List.mem_flatMap.1 hc
      rcases List.mem_cons.1 hc with rfl | hc
      · decide
      rcases List.mem_cons.1 hc with rfl | hc
      · decide
      rcases List.mem_append.1 hc with hc | hc
      · rcases parts_bytes p [] q hq c hc with h | h
        · exact absurd h List.not_mem_nil
        · exact h3 c h
      · rcases List.mem_cons.1 hc with rfl | hc
        · decide
        · rw [List.mem_singleton.1 hc]
          decide
  · rw [e, List.cons_append, kept_no (.inl rfl), kept_wide _ fun q hq => (h5 q hq).2.1, parts_back]
/-- What is refused is nothing. -/
theorem clean_err (s : List UInt8) : (cleanL s).2 = 0 ∨ cleanL s = ([], 140) := by
  unfold cleanL
  split
  · exact .inr rfl
  split
  · exact .inr rfl
  split
  · exact .inr rfl
  · exact .inl rfl

/- The order. -/
theorem cmpF_more (x y : List UInt8) (xs ys : List (List UInt8)) : cmpF (x :: xs) (y :: ys) = if x < y then -1 else if y < x then 1 else cmpF xs ys := rfl
theorem cmpF_three : ∀ X Y : List (List UInt8), cmpF X Y = -1 ∨ cmpF X Y = 0 ∨ cmpF X Y = 1
  | [], [] => .inr (.inl rfl)
  | [], _ :: _ => .inl rfl
  | _ :: _, [] => .inr (.inr rfl)
  | x :: xs, y :: ys => by
    rw [cmpF_more]
    split
    · exact .inl rfl
    split
    · exact .inr (.inr rfl)
    · exact cmpF_three xs ys
theorem lt_not {x y : List UInt8} (h : x < y) : ¬ y < x := fun h2 => List.lt_irrefl x (List.lt_trans h h2)
theorem lt_one {x y : List UInt8} (h : ¬ x < y) (h2 : ¬ y < x) : x = y := List.le_antisymm (List.not_lt.1 h2) (List.not_lt.1 h)
theorem cmpF_turn : ∀ X Y : List (List UInt8), cmpF Y X = - cmpF X Y
  | [], [] => rfl
  | [], _ :: _ => rfl
  | _ :: _, [] => rfl
  | x :: xs, y :: ys => by
    rw [cmpF_more, cmpF_more]
    by_cases h : x < y
    · rw [if_pos h, if_neg (lt_not h), if_pos h]
      rfl
    · rw [if_neg h]
      by_cases h2 : y < x
      · rw [if_pos h2, if_pos h2, if_neg h] <;> rfl
      · rw [if_neg h2, if_neg h2, if_neg h]
        exact cmpF_turn xs ys
theorem cmpF_self : ∀ X : List (List UInt8), cmpF X X = 0
  | [] => rfl
  | x :: xs => by
    rw [cmpF_more, if_neg (List.lt_irrefl x), if_neg (List.lt_irrefl x), cmpF_self xs]
theorem cmpF_zero : ∀ X Y : List (List UInt8), cmpF X Y = 0 → X = Y
  | [], [], _ => rfl
  | [], _ :: _, h => by cases h
  | _ :: _, [], h => by cases h
  | x :: xs, y :: ys, h => by
    rw [cmpF_more] at h
    by_cases h1 : x < y
    · rw [if_pos h1] at h; cases h
    rw [if_neg h1] at h
    by_cases h2 : y < x
    · rw [if_pos h2] at h; cases h
    rw [if_neg h2] at h
    rw [lt_one h1 h2, cmpF_zero xs ys h]
theorem cmpF_trans : ∀ X Y Z : List (List UInt8), cmpF X Y ≤ 0 → cmpF Y Z ≤ 0 → cmpF X Z ≤ 0
  | [], _, [], _, _ => Int.le_refl _
  | [], _, _ :: _, _, _ => show (-1 : Int) ≤ 0 by decide
  | x :: xs, [], _, h, _ => absurd h (show ¬ (1 : Int) ≤ 0 by decide)
  | x :: xs, y :: ys, [], _, h => absurd h (show ¬ (1 : Int) ≤ 0 by decide)
  | x :: xs, y :: ys, z :: zs, h1, h2 => by
    rw [cmpF_more] at h1 h2 ⊢
    by_cases a1 : x < y
    · by_cases a2 : y < z
      · rw [if_pos (List.lt_trans a1 a2)]
        decide
      · rw [if_neg a2] at h2
        by_cases a3 : z < y
        · rw [if_pos a3] at h2
          exact absurd h2 (by decide)
        · rw [lt_one a2 a3] at a1
          rw [if_pos a1]
          decide
    · rw [if_neg a1] at h1
      by_cases a2 : y < x
      · rw [if_pos a2] at h1
        exact absurd h1 (by decide)
      · rw [if_neg a2] at h1
        have e := lt_one a1 a2
        subst e
        by_cases a3 : x < z
        · rw [if_pos a3]
          decide
        · rw [if_neg a3] at h2 ⊢
          by_cases a4 : z < x
          · rw [if_pos a4] at h2
            exact absurd h2 (by decide)
          · rw [if_neg a4] at h2 ⊢
            exact cmpF_trans xs ys zs h1 h2
theorem cmpF_longer : ∀ (X Y : List (List UInt8)), Y ≠ [] → cmpF X (X ++ Y) = -1
  | [], [], h => absurd rfl h
  | [], _ :: _, _ => rfl
  | x :: xs, Y, h => by
    rw [List.cons_append, cmpF_more, if_neg (List.lt_irrefl x), if_neg (List.lt_irrefl x)]
    exact cmpF_longer xs Y h
set_option maxRecDepth 100000 in
theorem cmpF_under (R : List (List UInt8)) : ∀ (X C : List (List UInt8)), cmpF X C = -1 → (¬ ∃ Y, Y ≠ [] ∧ C = X ++ Y) → cmpF (X ++ R) C = -1
  | [], [], h, _ => by cases h
  | [], c :: cs, _, h2 => absurd ⟨c :: cs, by simp, rfl⟩ h2
  | _ :: _, [], h, _ => by cases h
  | x :: xs, c :: cs, h, h2 => by
    rw [cmpF_more] at h
    rw [List.cons_append, cmpF_more]
    by_cases a1 : x < c
    · rw [if_pos a1]
    · rw [if_neg a1] at h ⊢
      by_cases a2 : c < x
      · rw [if_pos a2] at h; cases h
      · rw [if_neg a2] at h ⊢
        refine cmpF_under R xs cs h fun ⟨Y, hY, e⟩ => h2 ⟨Y, hY, ?_⟩
        rw [lt_one a1 a2, e]
        rfl
set_option maxRecDepth 100000 in
theorem under_iff {d p : List UInt8} : underL d p = true ↔ ∃ r, p = d ++ 47 :: r := by
  unfold underL
  rw [decide_eq_true_iff]
  constructor
  · rintro ⟨_, h⟩
    refine ⟨p.drop (d.length + 1), ?_⟩
    have := List.take_append_drop (d.length + 1) p
    rw [h] at this
    rw [← this]
    simp
  · rintro ⟨r, rfl⟩
    refine ⟨by simp, ?_⟩
    rw [show d ++ 47 :: r = (d ++ [47]) ++ r by simp]
    exact List.take_left' (by simp)
theorem under_parts {d p : List UInt8} (h : underL d p = true) : ∃ Y, Y ≠ [] ∧ partsL p = partsL d ++ Y := by
  obtain ⟨r, rfl⟩ := under_iff.1 h
  exact ⟨partsL r, partsF_ne r [], partsL_app d r⟩
theorem parts_under {d p : List UInt8} {Y : List (List UInt8)} (hY : Y ≠ []) (h : partsL p = partsL d ++ Y) : underL d p = true := by
  refine under_iff.2 ⟨joinS Y, ?_⟩
  rw [← parts_back p, h, joinS_app (partsL d) Y (partsF_ne d []) hY, parts_back]
/-- P14.5, what the law asks. -/
theorem cmp_zero {a b : List UInt8} : cmpL a b = 0 ↔ a = b := ⟨fun h => parts_inj (cmpF_zero _ _ h), fun h => by rw [h]; exact cmpF_self _⟩
theorem cmp_turn (a b : List UInt8) : cmpL b a = - cmpL a b := cmpF_turn _ _
theorem cmp_trans {a b c : List UInt8} (h1 : cmpL a b ≤ 0) (h2 : cmpL b c ≤ 0) : cmpL a c ≤ 0 := cmpF_trans _ _ _ h1 h2
theorem cmp_three (a b : List UInt8) : cmpL a b = -1 ∨ cmpL a b = 0 ∨ cmpL a b = 1 := cmpF_three _ _
theorem cmp_under {a b : List UInt8} (h : underL a b = true) : cmpL a b = -1 := by
  obtain ⟨Y, hY, e⟩ := under_parts h
  unfold cmpL
  rw [e]
  exact cmpF_longer _ _ hY
theorem cmp_behind {a b c : List UInt8} (h : underL a b = true) (h2 : underL a c = false) (h3 : cmpL a c < 0) : cmpL b c = -1 := by
  obtain ⟨Y, hY, e⟩ := under_parts h
  have h4 : cmpF (partsL a) (partsL c) = -1 := by
    have := cmp_three a c
    unfold cmpL at this h3
    omega
  unfold cmpL
  rw [e]
  refine cmpF_under Y _ _ h4 fun ⟨Z, hZ, e2⟩ => ?_
  rw [parts_under hZ e2] at h2
  cases h2
end Go.Proofs.Ytlnopdlpdnengaa
