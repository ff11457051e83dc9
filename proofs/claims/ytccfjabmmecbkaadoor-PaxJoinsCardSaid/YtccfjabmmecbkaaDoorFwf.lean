/- fields.Number, Decimal. Conditions: texts of at most 2^47 bytes. -/
import Derived.Test.YtccfjabmmecbkaaDoorFwb
namespace Go.Proofs.YtccfjabmmecbkaaDoor
open Go.RowKit

set_option maxRecDepth 100000 in
theorem cutF_dropW (a b : UInt8) : ∀ s : List UInt8, cutF a.toNat b.toNat s = s.dropWhile (· ∈ [a, b])
  | [] => rfl
  | c :: s => by
    have hab : (c.toNat = a.toNat ∨ c.toNat = b.toNat) ↔ c ∈ [a, b] := by
      rw [List.mem_cons, List.mem_singleton, UInt8.toNat_inj, UInt8.toNat_inj]
    rw [cutF, List.dropWhile_cons]
    by_cases h : c ∈ [a, b]
    · rw [if_pos (hab.2 h), if_pos (by simpa using h)]
      exact cutF_dropW a b s
    · rw [if_neg (fun q => h (hab.1 q)), if_neg (by simpa using h)]
theorem mem_oct (c : UInt8) : c ∈ [48, 49, 50, 51, 52, 53, 54, 55] ↔ (48 ≤ c.toNat ∧ c.toNat ≤ 55) := by
  revert c
  have h : ∀ n : Fin 256, UInt8.ofNat n ∈ ([48, 49, 50, 51, 52, 53, 54, 55] : List UInt8) ↔ (48 ≤ (UInt8.ofNat n).toNat ∧ (UInt8.ofNat n).toNat ≤ 55) := by decide +kernel
  intro c
  have := h ⟨c.toNat, c.toNat_lt⟩
  rwa [UInt8.ofNat_toNat] at this
theorem mem_dec (c : UInt8) : c ∈ [48, 49, 50, 51, 52, 53, 54, 55, 56, 57] ↔ (48 ≤ c.toNat ∧ c.toNat ≤ 57) := by
  revert c
  have h : ∀ n : Fin 256, UInt8.ofNat n ∈ ([48, 49, 50, 51, 52, 53, 54, 55, 56, 57] : List UInt8) ↔ (48 ≤ (UInt8.ofNat n).toNat ∧ (UInt8.ofNat n).toNat ≤ 57) := by decide +kernel
  intro c
  have := h ⟨c.toNat, c.toNat_lt⟩
  rwa [UInt8.ofNat_toNat] at this
set_option maxRecDepth 100000 in
theorem mem_takeW {set s : List UInt8} {c : UInt8} (h : c ∈ s.takeWhile (· ∈ set)) : c ∈ set := by
  induction s with
  | nil => cases h
  | cons x s ih =>
    rw [List.takeWhile_cons] at h
    split at h
    · rename_i hx
      rcases List.mem_cons.1 h with e | e
      · rw [e]; simpa using hx
      · exact ih e
    · cases h
set_option maxRecDepth 100000 in
theorem head_dropW {set s : List UInt8} {c : UInt8} (h : (s.dropWhile (· ∈ set)).head? = some c) : c ∉ set := by
  induction s with
  | nil => cases h
  | cons x s ih =>
    rw [List.dropWhile_cons] at h
    split at h
    · exact ih h
    · rename_i hx
      rw [List.head?_cons] at h
      cases h
      simpa using hx
theorem dropW_len (p : UInt8 → Bool) (s : List UInt8) : (s.dropWhile p).length ≤ s.length := (List.dropWhile_sublist p).length_le
theorem takeW_len (p : UInt8 → Bool) (s : List UInt8) : (s.takeWhile p).length ≤ s.length := (List.takeWhile_sublist p).length_le
set_option maxRecDepth 100000 in
/-- Number, told by what is passed. -/
theorem numberA_pass (s s1 d s2 r : List UInt8) (h1 : s1 = s.dropWhile (· ∈ [32])) (hd : d = s1.takeWhile (· ∈ [48, 49, 50, 51, 52, 53, 54, 55])) (h2 : s2 = s1.dropWhile (· ∈ [48, 49, 50, 51, 52, 53, 54, 55])) (h3 : r = s2.dropWhile (· ∈ [32, 0])) :
    numberA s = if r ≠ [] then (0, 150) else valA 8 d := by
  have e1 : cutF 32 32 s = s1 := by
    have h := cutF_dropW 32 32 s
    rw [show (32 : UInt8).toNat = 32 from rfl] at h
    rw [h, h1]
    congr 1
    funext c
    simp
  have hds : d ++ s2 = s1 := by rw [hd, h2]; exact List.takeWhile_append_dropWhile
  obtain ⟨n2, n1⟩ := numF_val d s2 0 (by omega) (fun c hc => (mem_oct c).1 (mem_takeW (hd ▸ hc))) (fun c hc => fun q => head_dropW (h2 ▸ hc) ((mem_oct c).2 q))
  have e3 : cutF 32 0 s2 = r := by
    have h := cutF_dropW 32 0 s2
    rw [show (32 : UInt8).toNat = 32 from rfl, show (0 : UInt8).toNat = 0 from rfl] at h
    rw [h, h3]
  unfold numberA
  rw [e1, ← hds, n2, e3]
  by_cases hr : r ≠ []
  · rw [if_pos hr, if_pos hr]
  · rw [if_neg hr, if_neg hr]
    unfold valA
    cases hv : valF 8 d 0 with
    | none =>
      rw [hv] at n1
      rw [if_pos n1]
    | some m =>
      rw [hv] at n1
      rw [if_neg (by omega), n1.1]
theorem decimalA_pass (s d r : List UInt8) (hd : d = s.takeWhile (· ∈ [48, 49, 50, 51, 52, 53, 54, 55, 56, 57])) (hr : r = s.dropWhile (· ∈ [48, 49, 50, 51, 52, 53, 54, 55, 56, 57])) :
    decimalA s = if d = [] ∨ r ≠ [] ∨ (d.getD 0 0 = 48 ∧ 1 < d.length) then (0, 150) else valA 10 d := by
  have hds : d ++ r = s := by rw [hd, hr]; exact List.takeWhile_append_dropWhile
  have hdd : ∀ c ∈ d, 48 ≤ c.toNat ∧ c.toNat ≤ 57 := fun c hc => (mem_dec c).1 (mem_takeW (hd ▸ hc))
  cases r with
  | cons c r =>
    have hc : ¬ (48 ≤ c.toNat ∧ c.toNat ≤ 57) := fun q => head_dropW (c := c) (by rw [← hr]; rfl) ((mem_dec c).2 q)
    rw [if_pos (.inr (.inl (List.cons_ne_nil _ _)))]
    unfold decimalA
    split
    · rfl
    · rw [← hds, decF_none d c r 0 hc]
      rfl
  | nil =>
    rw [List.append_nil] at hds
    subst hds
    unfold decimalA
    by_cases e1 : d = []
    · rw [if_pos (.inl e1), if_pos (.inl e1)]
    by_cases e2 : d.getD 0 0 = 48 ∧ 1 < d.length
    · rw [if_pos (.inr e2), if_pos (.inr (.inr e2))]
    · rw [if_neg (by rintro (h | h); exact e1 h; exact e2 h), if_neg (by rintro (h | h | h); exact e1 h; exact h rfl; exact e2 h)]
      obtain ⟨m, h1, h2⟩ := decF_val d 0 (by omega) hdd
      rw [h1]
      unfold valA decEnd
      cases hv : valF 10 d 0 with
      | none =>
        rw [hv] at h2
        have h3 : 9007199254740992 < m := h2
        show (if 9007199254740992 < m then ((0 : Nat), (3 : Nat)) else (m, 0)) = (0, 3)
        rw [if_pos h3]
      | some k =>
        rw [hv] at h2
        have h3 : m = k ∧ k ≤ 9007199254740992 := h2
        show (if 9007199254740992 < m then ((0 : Nat), (3 : Nat)) else (m, 0)) = (k, 0)
        rw [if_neg (by omega), h3.1]

end Go.Proofs.YtccfjabmmecbkaaDoor
