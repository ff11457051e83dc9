/- Symbols of a text, places of a list whose last used byte is moved to the front, symbols in bits: plain. -/
import Derived.Test.YtcmhcfbmjceioaaS
namespace Go.Proofs.Ytcmhcfbmjceioaa

/-- The bytes, and those that stand in a text, rising. -/
def allB : List UInt8 := (List.range 256).map UInt8.ofNat
def ofL (s : List UInt8) : List UInt8 := allB.filter fun b => decide (b ∈ s)
theorem allB_mem (b : UInt8) : b ∈ allB := List.mem_map.2 ⟨b.toNat, List.mem_range.2 (UInt8.toNat_lt b), UInt8.ofNat_toNat⟩
theorem allB_sorted : allB.Pairwise (· < ·) := by
  unfold allB
  rw [List.pairwise_map]
  refine List.Pairwise.imp_of_mem ?_ List.pairwise_lt_range
  intro a b ha hb hab
  have ha := List.mem_range.1 ha
  have hb := List.mem_range.1 hb
  rw [UInt8.lt_iff_toNat_lt, UInt8.toNat_ofNat', UInt8.toNat_ofNat', Nat.mod_eq_of_lt ha, Nat.mod_eq_of_lt hb]
  exact hab
theorem ofL_mem (s : List UInt8) (b : UInt8) : b ∈ ofL s ↔ b ∈ s := by
  unfold ofL
  rw [List.mem_filter]
  exact ⟨fun h => of_decide_eq_true h.2, fun h => ⟨allB_mem b, decide_eq_true h⟩⟩
theorem ofL_sorted (s : List UInt8) : (ofL s).Pairwise (· < ·) := allB_sorted.filter _
theorem rising_one : ∀ {a b : List UInt8}, a.Pairwise (· < ·) → b.Pairwise (· < ·) → (∀ x, x ∈ a ↔ x ∈ b) → a = b := by
  intro a b ha hb h
  have hna : a.Nodup := List.nodup_iff_pairwise_ne.2 (ha.imp fun {x y} h e => by subst e; exact UInt8.lt_irrefl _ h)
  have hnb : b.Nodup := List.nodup_iff_pairwise_ne.2 (hb.imp fun {x y} h e => by subst e; exact UInt8.lt_irrefl _ h)
  refine List.Perm.eq_of_pairwise (le := (· < ·)) (fun x y _ _ h1 h2 => absurd (UInt8.lt_trans h1 h2) (UInt8.lt_irrefl _)) ha hb ?_
  exact (List.perm_ext_iff_of_nodup hna hnb).2 h
theorem ofL_rising {a : List UInt8} (h : a.Pairwise (· < ·)) : ofL a = a := rising_one (ofL_sorted a) h (ofL_mem a)
theorem ofL_twice (s : List UInt8) : ofL (ofL s) = ofL s := ofL_rising (ofL_sorted s)
/-- Symbols may be. -/
def MayL (a : List UInt8) : Prop := a ≠ [] ∧ ofL a = a
instance (a : List UInt8) : Decidable (MayL a) := inferInstanceAs (Decidable (_ ∧ _))
theorem mayL_iff (a : List UInt8) : MayL a ↔ a ≠ [] ∧ a.Pairwise (· < ·) :=
  ⟨fun h => ⟨h.1, by rw [← h.2]; exact ofL_sorted a⟩, fun h => ⟨h.1, ofL_rising h.2⟩⟩
theorem mayL_of (s : List UInt8) (h : s ≠ []) : MayL (ofL s) := by
  refine ⟨fun e => ?_, ofL_twice s⟩
  obtain ⟨x, hx⟩ := List.exists_mem_of_ne_nil _ h
  have := (ofL_mem s x).2 hx
  rw [e] at this
  exact absurd this List.not_mem_nil

/-- A list behind the byte at a place was moved to the front. -/
def turnL (list : List UInt8) (at_ : Nat) : List UInt8 := list.getD at_ 0 :: (list.take at_ ++ list.drop (at_ + 1))
theorem turnL_length (list : List UInt8) (p : Nat) (h : p < list.length) : (turnL list p).length = list.length := by
  unfold turnL
  rw [List.length_cons, List.length_append, List.length_take, List.length_drop]
  omega
theorem turnL_mem (list : List UInt8) (p : Nat) (h : p < list.length) (x : UInt8) : x ∈ turnL list p ↔ x ∈ list := by
  have e : list = list.take p ++ list.getD p 0 :: list.drop (p + 1) := by
    rw [List.getD_eq_getElem?_getD, List.getElem?_eq_getElem h]
    show list = list.take p ++ list[p] :: list.drop (p + 1)
    rw [← List.drop_eq_getElem_cons h, List.take_append_drop]
  unfold turnL
  conv => rhs; rw [e]
  rw [List.mem_cons, List.mem_append, List.mem_append, List.mem_cons]
  constructor
  · rintro (h | h | h)
    · exact .inr (.inl h)
    · exact .inl h
    · exact .inr (.inr h)
  · rintro (h | h | h)
    · exact .inr (.inl h)
    · exact .inl h
    · exact .inr (.inr h)
/-- The places of a text's bytes. -/
def frontL : List UInt8 → List UInt8 → Option (List Nat)
  | [], _ => some []
  | b :: s, list => if b ∈ list then (frontL s (turnL list (list.idxOf b))).map (list.idxOf b :: ·) else none
/-- The bytes at places. -/
def bytesL : List Int → List UInt8 → Option (List UInt8)
  | [], _ => some []
  | x :: l, list => if 0 ≤ x ∧ x < list.length then (bytesL l (turnL list x.toNat)).map (list.getD x.toNat 0 :: ·) else none
theorem idx_get (list : List UInt8) (b : UInt8) (h : b ∈ list) : list.getD (list.idxOf b) 0 = b := by
  have h1 := List.idxOf_lt_length_of_mem h
  rw [List.getD_eq_getElem?_getD, List.getElem?_eq_getElem h1]
  exact List.getElem_idxOf h1
theorem front_some : ∀ (s list : List UInt8), (∀ x ∈ s, x ∈ list) → ∃ l, frontL s list = some l ∧ l.length = s.length
  | [], list, _ => ⟨[], rfl, rfl⟩
  | b :: s, list, h => by
    have hb := h b List.mem_cons_self
    have h1 := List.idxOf_lt_length_of_mem hb
    obtain ⟨l, h2, h3⟩ := front_some s (turnL list (list.idxOf b)) fun x hx => (turnL_mem list _ h1 x).2 (h x (List.mem_cons_of_mem _ hx))
    refine ⟨list.idxOf b :: l, ?_, by rw [List.length_cons, List.length_cons, h3]⟩
    rw [frontL, if_pos hb, h2]
    rfl
theorem front_none : ∀ (s list : List UInt8), (∃ x ∈ s, x ∉ list) → frontL s list = none
  | [], list, h => by
    obtain ⟨x, hx, _⟩ := h
    exact absurd hx List.not_mem_nil
  | b :: s, list, h => by
    rw [frontL]
    by_cases hb : b ∈ list
    · have h1 := List.idxOf_lt_length_of_mem hb
      rw [if_pos hb, front_none s _ (by
        obtain ⟨x, hx, hn⟩ := h
        rcases List.mem_cons.1 hx with rfl | hx
        · exact absurd hb hn
        · exact ⟨x, hx, fun h2 => hn ((turnL_mem list _ h1 x).1 h2)⟩)]
      rfl
    · rw [if_neg hb]
/-- Places are read as their text again. -/
theorem back_front : ∀ (s list : List UInt8) (l : List Nat), frontL s list = some l → bytesL (l.map fun (x : Nat) => (x : Int)) list = some s
  | [], list, l, h => by
    simp only [frontL, Option.some.injEq] at h
    subst h
    rfl
  | b :: s, list, l, h => by
    rw [frontL] at h
    by_cases hb : b ∈ list
    · rw [if_pos hb] at h
      have h1 := List.idxOf_lt_length_of_mem hb
      rcases hf : frontL s (turnL list (list.idxOf b)) with _ | l2
      · rw [hf] at h
        simp at h
      · rw [hf] at h
        simp only [Option.map_some, Option.some.injEq] at h
        subst h
        have ih := back_front s _ l2 hf
        rw [List.map_cons, bytesL, if_pos ⟨by omega, by omega⟩, Int.toNat_natCast, ih, idx_get list b hb]
        rfl
    · rw [if_neg hb] at h
      simp at h
/-- Behind the first byte a place is 0 just where a byte is the one ahead of it. -/
theorem front_zero : ∀ (s list : List UInt8) (l : List Nat), frontL s list = some l → ∀ i, 0 < i → i < s.length → (l.getD i 0 = 0 ↔ s.getD i 0 = s.getD (i - 1) 0)
  | [], _, _, _ => fun i _ h => by simp at h
  | b :: s, list, l, h => by
    rw [frontL] at h
    by_cases hb : b ∈ list
    · rw [if_pos hb] at h
      have h1 := List.idxOf_lt_length_of_mem hb
      rcases hf : frontL s (turnL list (list.idxOf b)) with _ | l2
      · rw [hf] at h
        simp at h
      · rw [hf] at h
        simp only [Option.map_some, Option.some.injEq] at h
        subst h
        have hhead : turnL list (list.idxOf b) = b :: (list.take (list.idxOf b) ++ list.drop (list.idxOf b + 1)) := by rw [turnL, idx_get list b hb]
        intro i h0 hi
        obtain ⟨j, rfl⟩ : ∃ j, i = j + 1 := ⟨i - 1, by omega⟩
        simp only [List.length_cons] at hi
        rw [List.getD_cons_succ, List.getD_cons_succ, Nat.add_sub_cancel]
        cases j with
        | succ j =>
          rw [List.getD_cons_succ]
          exact front_zero s _ l2 hf (j + 1) (by omega) (by omega)
        | zero =>
          rw [List.getD_cons_zero]
          match s, hi, hf with
          | c :: s2, _, hf =>
            rw [frontL, hhead] at hf
            by_cases hc : c ∈ b :: (list.take (list.idxOf b) ++ list.drop (list.idxOf b + 1))
            · rw [if_pos hc] at hf
              rcases hg : frontL s2 (turnL (b :: (list.take (list.idxOf b) ++ list.drop (list.idxOf b + 1))) ((b :: (list.take (list.idxOf b) ++ list.drop (list.idxOf b + 1))).idxOf c)) with _ | l3
              · rw [hg] at hf
                simp at hf
              · rw [hg] at hf
                simp only [Option.map_some, Option.some.injEq] at hf
                subst hf
                rw [List.getD_cons_zero, List.getD_cons_zero]
                by_cases e : c = b
                · subst e
                  simp
                · rw [List.idxOf_cons]
                  have e2 : (b == c) = false := by simpa using fun h => e h.symm
                  rw [e2]
                  simp [e]
            · rw [if_neg hc] at hf
              simp at hf
    · rw [if_neg hb] at h
      simp at h

/-- Which bytes there are; which rows of sixteen have one. -/
def bitB (a : List UInt8) (b : Nat) : Nat := if UInt8.ofNat b ∈ a then 1 else 0
def rowB (a : List UInt8) (i : Nat) : Nat := if a.any (fun x => x.toNat / 16 == i) then 1 else 0
def rowBits (a : List UInt8) (i : Nat) : List Nat := if rowB a i = 1 then (List.range 16).map fun k => bitB a (16 * i + k) else []
/-- Symbols in bits. -/
def showL (a : List UInt8) : List Nat := (List.range 16).map (rowB a) ++ (List.range 16).flatMap (rowBits a)
/-- The bytes of one row. -/
def takeRow (l : List Nat) (p i : Nat) : List UInt8 := ((List.range 16).filter fun k => l.getD (p + k) 0 == 1).map fun k => UInt8.ofNat (16 * i + k)
/-- Row by row: none: the bits end too soon. -/
def goT (l : List Nat) (fl : Nat → Nat) : List Nat → Nat → List UInt8 → Option (List UInt8 × Nat)
  | [], p, out => some (out, p)
  | i :: is, p, out => if fl i = 0 then goT l fl is p out else if l.length < p + 16 then none else goT l fl is (p + 16) (out ++ takeRow l p i)
/-- What bits say from a place on: the symbols, the number of the bit behind them, the error. -/
def takeL (l : List Nat) (p : Nat) : List UInt8 × Nat × Nat :=
  if l.length < p then ([], 0, 2) else if l.length < p + 16 then ([], 0, 10) else
    match goT l (fun i => l.getD (p + i) 0) (List.range 16) (p + 16) [] with
    | none => ([], 0, 10)
    | some (out, q) => if out = [] then ([], 0, 60) else (out, q, 0)

theorem rowB_le (a : List UInt8) (i : Nat) : rowB a i = 0 ∨ rowB a i = 1 := by
  unfold rowB
  split
  · exact .inr rfl
  · exact .inl rfl
theorem rowBits_length (a : List UInt8) (i : Nat) : (rowBits a i).length = 16 * rowB a i := by
  unfold rowBits
  rcases rowB_le a i with h | h <;> rw [h] <;> simp
theorem show_length (a : List UInt8) : ∃ r, r ≤ 16 ∧ (showL a).length = 16 + 16 * r := by
  have h : ∀ n, ∃ r, r ≤ n ∧ ((List.range n).flatMap (rowBits a)).length = 16 * r := by
    intro n
    induction n with
    | zero => exact ⟨0, Nat.le_refl _, rfl⟩
    | succ n ih =>
      obtain ⟨r, h1, h2⟩ := ih
      rw [List.range_succ, List.flatMap_append, List.length_append, h2]
      simp only [List.flatMap_cons, List.flatMap_nil, List.append_nil, rowBits_length]
      rcases rowB_le a n with h | h
      · exact ⟨r, by omega, by rw [h]; omega⟩
      · exact ⟨r + 1, by omega, by rw [h]; omega⟩
  obtain ⟨r, h1, h2⟩ := h 16
  refine ⟨r, h1, ?_⟩
  unfold showL
  rw [List.length_append, h2, List.length_map, List.length_range]
/-- The bytes of a row, out of its bits. -/
def ofRow (a : List UInt8) (i : Nat) : List UInt8 := ((List.range 16).filter fun k => bitB a (16 * i + k) == 1).map fun k => UInt8.ofNat (16 * i + k)
theorem ofRow_none (a : List UInt8) (i : Nat) (hi : i < 16) (h : rowB a i = 0) : ofRow a i = [] := by
  unfold ofRow
  rw [List.map_eq_nil_iff, List.filter_eq_nil_iff]
  intro k hk
  have hk := List.mem_range.1 hk
  unfold bitB
  split
  · rename_i hm
    exfalso
    unfold rowB at h
    rw [if_pos] at h
    · simp at h
    · rw [List.any_eq_true]
      refine ⟨_, hm, ?_⟩
      rw [UInt8.toNat_ofNat', Nat.mod_eq_of_lt (by omega), show (16 * i + k) / 16 = i by omega]
      simp
  · simp
theorem takeRow_of (x y : List Nat) (a : List UInt8) (i : Nat) : takeRow (x ++ ((List.range 16).map fun k => bitB a (16 * i + k)) ++ y) x.length i = ofRow a i := by
  unfold takeRow ofRow
  congr 1
  refine List.filter_congr fun k hk => ?_
  have hk := List.mem_range.1 hk
  rw [List.getD_eq_getElem?_getD, List.append_assoc, List.getElem?_append_right (by omega), Nat.add_sub_cancel_left, List.getElem?_append_left (by simpa using hk), List.getElem?_map, List.getElem?_range hk]
  rfl
/-- What is told in bits is read again, behind whatever bits. -/
theorem goT_show (a : List UInt8) (fl : Nat → Nat) : ∀ (is : List Nat) (x y : List Nat) (out : List UInt8), (∀ i ∈ is, fl i = rowB a i ∧ i < 16) →
    goT (x ++ is.flatMap (rowBits a) ++ y) fl is x.length out = some (out ++ is.flatMap (ofRow a), x.length + (is.flatMap (rowBits a)).length)
  | [], x, y, out, _ => by simp [goT]
  | i :: is, x, y, out, h => by
    have hi := h i List.mem_cons_self
    have hr := fun j hj => h j (List.mem_cons_of_mem i hj)
    rw [goT, hi.1]
    rcases rowB_le a i with h0 | h0
    · have e : rowBits a i = [] := by unfold rowBits; rw [if_neg (by omega)]
      rw [if_pos h0]
      simp only [List.flatMap_cons, e, List.nil_append, ofRow_none a i hi.2 h0]
      exact goT_show a fl is x y out hr
    · have e : rowBits a i = (List.range 16).map fun k => bitB a (16 * i + k) := by unfold rowBits; rw [if_pos h0]
      have el : (rowBits a i).length = 16 := by rw [rowBits_length, h0]
      rw [if_neg (by omega), if_neg (by simp only [List.flatMap_cons, List.length_append, el]; omega)]
      have e2 : x ++ (i :: is).flatMap (rowBits a) ++ y = (x ++ rowBits a i) ++ is.flatMap (rowBits a) ++ y := by simp only [List.flatMap_cons, List.append_assoc]
      have e3 : takeRow (x ++ (i :: is).flatMap (rowBits a) ++ y) x.length i = ofRow a i := by
        have := takeRow_of x (is.flatMap (rowBits a) ++ y) a i
        rw [← e] at this
        rw [← this]
        simp only [List.flatMap_cons, List.append_assoc]
      rw [e3, e2]
      have ih := goT_show a fl is (x ++ rowBits a i) y (out ++ ofRow a i) hr
      rw [List.length_append, el] at ih
      rw [ih]
      simp only [List.flatMap_cons, List.append_assoc, List.length_append, el, Option.some.injEq, Prod.mk.injEq, true_and]
      omega
theorem rows_all (a : List UInt8) : (List.range 16).flatMap (ofRow a) = ofL a := by
  refine rising_one ?_ (ofL_sorted a) fun x => ?_
  · rw [List.pairwise_flatMap]
    refine ⟨fun i hi => ?_, ?_⟩
    · have hi := List.mem_range.1 hi
      unfold ofRow
      rw [List.pairwise_map]
      refine List.Pairwise.imp_of_mem ?_ (List.pairwise_lt_range.filter _)
      intro p q hp hq hpq
      have hp := List.mem_range.1 (List.mem_filter.1 hp).1
      have hq := List.mem_range.1 (List.mem_filter.1 hq).1
      rw [UInt8.lt_iff_toNat_lt, UInt8.toNat_ofNat', UInt8.toNat_ofNat', Nat.mod_eq_of_lt (by omega), Nat.mod_eq_of_lt (by omega)]
      omega
    · refine List.Pairwise.imp_of_mem ?_ List.pairwise_lt_range
      intro i j hi hj hij x hx y hy
      have hi := List.mem_range.1 hi
      have hj := List.mem_range.1 hj
      obtain ⟨p, hp, rfl⟩ := List.mem_map.1 hx
      obtain ⟨q, hq, rfl⟩ := List.mem_map.1 hy
      have hp := List.mem_range.1 (List.mem_filter.1 hp).1
      have hq := List.mem_range.1 (List.mem_filter.1 hq).1
      rw [UInt8.lt_iff_toNat_lt, UInt8.toNat_ofNat', UInt8.toNat_ofNat', Nat.mod_eq_of_lt (by omega), Nat.mod_eq_of_lt (by omega)]
      omega
  · rw [List.mem_flatMap, ofL_mem]
    constructor
    · rintro ⟨i, _, hx⟩
      obtain ⟨k, hk, rfl⟩ := List.mem_map.1 hx
      have := (List.mem_filter.1 hk).2
      unfold bitB at this
      split at this
      · assumption
      · simp at this
    · intro hx
      have hb := UInt8.toNat_lt x
      have e : 16 * (x.toNat / 16) + x.toNat % 16 = x.toNat := by omega
      have e2 : UInt8.ofNat (16 * (x.toNat / 16) + x.toNat % 16) = x := by rw [e, UInt8.ofNat_toNat]
      refine ⟨x.toNat / 16, List.mem_range.2 (by omega), List.mem_map.2 ⟨x.toNat % 16, List.mem_filter.2 ⟨List.mem_range.2 (by omega), ?_⟩, e2⟩⟩
      unfold bitB
      rw [e2, if_pos hx]
      rfl
theorem take_show (a : List UInt8) (h : MayL a) (x y : List Nat) : takeL (x ++ showL a ++ y) x.length = (a, x.length + (showL a).length, 0) := by
  obtain ⟨r, hr, hl⟩ := show_length a
  have hfl : ∀ i ∈ List.range 16, (x ++ showL a ++ y).getD (x.length + i) 0 = rowB a i ∧ i < 16 := by
    intro i hi
    have hi := List.mem_range.1 hi
    refine ⟨?_, hi⟩
    rw [List.getD_eq_getElem?_getD, List.append_assoc, List.getElem?_append_right (by omega), Nat.add_sub_cancel_left, List.getElem?_append_left (by omega)]
    unfold showL
    rw [List.getElem?_append_left (by simpa using hi), List.getElem?_map, List.getElem?_range hi]
    rfl
  have hg := goT_show a (fun i => (x ++ showL a ++ y).getD (x.length + i) 0) (List.range 16) (x ++ (List.range 16).map (rowB a)) y [] hfl
  have e : x ++ (List.range 16).map (rowB a) ++ (List.range 16).flatMap (rowBits a) ++ y = x ++ showL a ++ y := by unfold showL; simp only [List.append_assoc]
  rw [e, List.length_append, List.length_map, List.length_range, rows_all, h.2, List.nil_append] at hg
  unfold takeL
  rw [if_neg (by simp only [List.length_append]; omega), if_neg (by simp only [List.length_append]; omega), hg]
  simp only [h.1, if_false]
  have : (showL a).length = 16 + ((List.range 16).flatMap (rowBits a)).length := by
    unfold showL
    rw [List.length_append, List.length_map, List.length_range]
  rw [this, Nat.add_assoc]

end Go.Proofs.Ytcmhcfbmjceioaa
