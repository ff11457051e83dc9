/- Paths: plain: what Clean gathers part by part; what is left of a teller. -/
import Derived.Test.YtlnopdlpdnengaaPub
import Derived.Test.YtlnopdlpdnengaaPte
namespace Go.Proofs.Ytlnopdlpdnengaa
open Go.RowKit

/-- What Clean gathers, part by part; nothing where one may not be. -/
def cleanC : List UInt8 → List (List UInt8) → List UInt8
  | O, [] => O
  | O, p :: l => if p = [] ∨ p = [46] then cleanC O l
      else if p = [46, 46] ∨ 120 < p.length + O.length + (if O = [] then 0 else 1) ∨ ¬ ∀ c ∈ p, okB c then []
      else cleanC ((if O = [] then [] else O ++ [47]) ++ p) l
set_option maxRecDepth 100000 in
theorem cleanC_no : ∀ (l : List (List UInt8)) (O : List UInt8), (∃ p ∈ l, p = [46, 46] ∨ ¬ ∀ c ∈ p, okB c) → cleanC O l = []
  | [], _, h => by
    obtain ⟨p, hp, _⟩ := h
    exact absurd hp List.not_mem_nil
  | q :: l, O, h => by
    obtain ⟨p, hp, hb⟩ := h
    rw [cleanC]
    rcases List.mem_cons.1 hp with rfl | hp
    · rw [if_neg ?_, if_pos ?_]
      · rcases hb with hb | hb
        · exact .inl hb
        · exact .inr (.inr hb)
      · rintro (rfl | rfl)
        · rcases hb with hb | hb
          · cases hb
          · exact hb fun c hc => absurd hc List.not_mem_nil
        · rcases hb with hb | hb
          · simp at hb
          · refine hb fun c hc => ?_
            rw [List.mem_singleton.1 hc]
            exact ⟨by decide, by decide⟩
    · split
      · exact cleanC_no l _ ⟨p, hp, hb⟩
      · by_cases e2 : q = [46, 46] ∨ 120 < q.length + O.length + (if O = [] then 0 else 1) ∨ ¬ ∀ c ∈ q, okB c
        · rw [if_pos e2]
        · rw [if_neg e2]
          exact cleanC_no l _ ⟨p, hp, hb⟩
theorem joinF_len : ∀ (l : List (List UInt8)) (O : List UInt8), O.length ≤ (joinF O l).length
  | [], O => Nat.le_refl _
  | p :: l, O => by
    rw [joinF]
    split
    · exact joinF_len l O
    · refine Nat.le_trans ?_ (joinF_len l _)
      split
      · next h => rw [h]; exact Nat.zero_le _
      · rw [List.length_append, List.length_append]; omega
set_option maxRecDepth 100000 in
theorem cleanC_join : ∀ (l : List (List UInt8)) (O : List UInt8), O.length ≤ 120 → (∀ p ∈ l, p ≠ [46, 46] ∧ ∀ c ∈ p, okB c) → cleanC O l = if (joinF O l).length ≤ 120 then joinF O l else []
  | [], O, hO, _ => by rw [cleanC, joinF, if_pos hO]
  | p :: l, O, hO, h => by
    rw [cleanC, joinF]
    by_cases e : p = [] ∨ p = [46]
    · rw [if_pos e, if_pos e]
      exact cleanC_join l O hO fun q hq => h q (List.mem_cons_of_mem _ hq)
    · rw [if_neg e, if_neg e]
      have hp := h p List.mem_cons_self
      have hlen : ((if O = [] then [] else O ++ [47]) ++ p).length = p.length + O.length + (if O = [] then 0 else 1) := by
        split
        · next h => rw [h]; simp
        · rw [List.length_append, List.length_append, List.length_singleton]; omega
      by_cases e2 : 120 < p.length + O.length + (if O = [] then 0 else 1)
      · rw [if_pos (.inr (.inl e2)), if_neg]
        have := joinF_len l ((if O = [] then [] else O ++ [47]) ++ p)
        omega
      · rw [if_neg]
        · exact cleanC_join l _ (by omega) fun q hq => h q (List.mem_cons_of_mem _ hq)
        · rintro (h1 | h1 | h1)
          · exact hp.1 h1
          · exact e2 h1
          · exact h1 hp.2
set_option maxRecDepth 100000 in
theorem clean_code (s : List UInt8) : cleanL s = if cleanC [] (partsL s) = [] then ([], 140) else (cleanC [] (partsL s), 0) := by
  unfold cleanL
  by_cases h1 : [46, 46] ∈ partsL s
  · rw [if_pos h1, if_pos (cleanC_no _ _ ⟨_, h1, .inl rfl⟩)]
  rw [if_neg h1]
  by_cases h2 : ∀ c ∈ s, okB c
  · rw [if_neg (fun h => h h2)]
    have hall : ∀ p ∈ partsL s, p ≠ [46, 46] ∧ ∀ c ∈ p, okB c := fun p hp => ⟨fun e => h1 (e ▸ hp), fun c hc => (parts_bytes s [] p hp c hc).elim (fun h => absurd h List.not_mem_nil) fun h => h2 c h⟩
    rw [cleanC_join _ _ (Nat.zero_le _) hall]
    by_cases h3 : (joinF [] (partsL s)).length ≤ 120
    · rw [if_pos h3]
      by_cases h4 : joinF [] (partsL s) = []
      · rw [if_pos (.inl h4), if_pos h4]
      · rw [if_neg (fun h => h.elim h4 (fun h => by omega)), if_neg h4]
    · rw [if_neg h3, if_pos (.inr (by omega)), if_pos rfl]
  · rw [if_pos h2]
    rw [if_pos]
    refine cleanC_no _ _ ?_
    have ⟨c, hc, hb⟩ : ∃ c, c ∈ s ∧ ¬ okB c := by
      refine Classical.byContradiction fun hn => h2 fun c hc => Classical.byContradiction fun hb => hn ⟨c, hc, hb⟩
    have hj := parts_back s
    rw [← hj] at hc
    rcases join_bytes hc with rfl | ⟨q, hq, hcq⟩
    · exact absurd ⟨by decide, by decide⟩ hb
    · exact ⟨q, hq, .inr fun h => hb (h c hcq)⟩

/-- How many parts a teller has left, read out of memory. -/
def leftOf (w : World) (g : Nat) : Nat := match w.cell? ⟨g, 0, none⟩, w.cell? ⟨g + 1, 0, none⟩ with
  | some (.string r), some (.bool true) => (partsL r.data.toList).length
  | _, _ => 0
theorem left_is {w : World} {g : Nat} {L : List (List UInt8)} (h : Tell w g L) : leftOf w g = L.length := by
  obtain ⟨r, m, hr, hm, rfl, _⟩ := h
  have c1 : w.cell? ⟨g + 1, 0, none⟩ = some (.bool m) := blk_cell hm 0
  have c0 : w.cell? ⟨g, 0, none⟩ = some (.string (strP r)) := blk_cell hr 0
  unfold leftOf
  rw [c0, c1]
  cases m <;> rfl
def oneIf : Value → Nat
  | .bool true => 1
  | _ => 0
theorem any_left (L : List (List UInt8)) : oneIf (.bool (anyL L)) + L.tail.length = L.length := by
  cases L with
  | nil => rfl
  | cons p L => exact Nat.add_comm _ _
/-- What stands between what was gathered and the next part. -/
def btw (O : List UInt8) : ByteArray := if O = [] then ⟨#[]⟩ else ⟨#[47]⟩
theorem btw_size (O : List UInt8) : (btw O).size = if O = [] then 0 else 1 := by
  unfold btw
  split <;> rfl
theorem btw_put (O p : List UInt8) : strP O ++ (btw O ++ strP p) = strP ((if O = [] then [] else O ++ [47]) ++ p) := by
  unfold btw
  by_cases e : O = []
  · rw [if_pos e, if_pos e, e, show (⟨#[]⟩ : ByteArray) = strP [] from rfl, strP_app, strP_app]
    rfl
  · rw [if_neg e, if_neg e, show (⟨#[47]⟩ : ByteArray) = strP [47] from rfl, strP_app, strP_app, List.append_assoc]
end Go.Proofs.Ytlnopdlpdnengaa
