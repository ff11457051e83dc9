/- fields.Number, Decimal. Conditions: texts of at most 2^47 bytes. -/
import Derived.Test.YtiihkjloenlfmaaDoorFwb
namespace Go.Proofs.YtiihkjloenlfmaaDoor
open Go.RowKit

set_option maxRecDepth 100000 in
theorem cutF_dropW (a b : UInt8) : ∀ s : List UInt8, cutF a.toNat b.toNat s = s.dropWhile (· ∈ [a, b])
  | [] => rfl
  | c :: s => by
    have hab : (c.toNat = a.toNat ∨ c.toNat = b.toNat) ↔ c ∈ [a, b] := by
      rw [List.mem_cons, List.mem_singleton, UInt8.toNat_inj, UInt8.toNat_inj]
    rw [cutF, List.dropWhile_cons]
    by_cases h : c ∈ [a, b]
    · rw [if_pos (hab.2 h), if_pos (by simpa using h)]
      exact cutF_dropW a b s
    · rw [if_neg (fun q => h (hab.1 q)), if_neg (by simpa using h)]
theorem mem_oct (c : UInt8) : c ∈ [48, 49, 50, 51, 52, 53, 54, 55] ↔ (48 ≤ c.toNat ∧ c.toNat ≤ 55) := by
  revert c
  have h : ∀ n : Fin 256, UInt8.ofNat n ∈ ([48, 49, 50, 51, 52, 53, 54, 55] : List UInt8) ↔ (48 ≤ (UInt8.ofNat n).toNat ∧ (UInt8.ofNat n).toNat ≤ 55) := by decide +kernel
  intro c
  have := h ⟨c.toNat, c.toNat_lt⟩
  rwa [UInt8.ofNat_toNat] at this
theorem mem_dec (c : UInt8) : c ∈ [48, 49, 50, 51, 52, 53, 54, 55, 56, 57] ↔ (48 ≤ c.toNat ∧ c.toNat ≤ 57) := by
  revert c
  have h : ∀ n : Fin 256, UInt8.ofNat n ∈ ([48, 49, 50, 51, 52, 53, 54, 55, 56, 57] : List UInt8) ↔ (48 ≤ (UInt8.ofNat n).toNat ∧ (UInt8.ofNat n).toNat ≤ 57) := by decide +kernel
  intro c
  have := h ⟨c.toNat, c.toNat_lt⟩
  rwa [UInt8.ofNat_toNat] at this
set_option maxRecDepth 100000 in
theorem mem_takeW {set s : List UInt8} {c : UInt8} (h : c ∈ s.takeWhile (· ∈ set)) : c ∈ set := by
  induction s with
  | nil => cases h
  | cons x s ih =>
    rw [List.takeWhile_cons] at h
    split at h
    · rename_i hx
      rcases List.mem_cons.1 h with e | e
      · rw [e]; simpa using hx
      · exact ih e
    · cases h
set_option maxRecDepth 100000 in
theorem head_dropW {set s : List UInt8} {c : UInt8} (h : (s.dropWhile (· ∈ set)).head? = some c) : c ∉ set := by
  induction s with
  | nil => cases h
  | cons x s ih =>
    rw [List.dropWhile_cons] at h
    split at h
    · exact ih h
    · rename_i hx
      rw [List.head?_cons] at h
      cases h
      simpa using hx
theorem dropW_len (p : UInt8 → Bool) (s : List UInt8) : (s.dropWhile p).length ≤ s.length := (List.dropWhile_sublist p).length_le
theorem takeW_len (p : UInt8 → Bool) (s : List UInt8) : (s.takeWhile p).length ≤ s.length := (List.takeWhile_sublist p).length_le
set_option maxRecDepth 100000 in
/-- Number, told by what is passed. -/
theorem numberA_pass (s s1 d s2 r : List UInt8) (h1 : s1 = s.dropWhile (· ∈ [32])) (hd : d = s1.takeWhile (· ∈ [48, 49, 50, 51, 52, 53, 54, 55])) (h2 : s2 = s1.dropWhile (· ∈ [48, 49, 50, 51, 52, 53, 54, 55])) (h3 : r = s2.dropWhile (· ∈ [32, 0])) :
    numberA s = if r ≠ [] then (0, 150) else valA 8 d := by
  have e1 : cutF 32 32 s = s1 := by
    have h := cutF_dropW 32 32 s
    rw [show (32 : UInt8).toNat = 32 from rfl] at h
    rw [h, h1]
    congr 1
    funext c
    simp
  have hds : d ++ s2 = s1 := by rw [hd, h2]; exact List.takeWhile_append_dropWhile
  obtain ⟨n2, n1⟩ := numF_val d s2 0 (by omega) (fun c hc => (mem_oct c).1 (mem_takeW (hd ▸ hc))) (fun c hc => fun q => head_dropW (h2 ▸ hc) ((mem_oct c).2 q))
  have e3 : cutF 32 0 s2 = r := by
    have h := cutF_dropW 32 0 s2
    rw [show (32 : UInt8).toNat = 32 from rfl, show (0 : UInt8).toNat = 0 from rfl] at h
    rw [h, h3]
  unfold numberA
  rw [e1, ← hds, n2, e3]
  by_cases hr : r ≠ []
  · rw [if_pos hr, if_pos hr]
  · rw [if_neg hr, if_neg hr]
    unfold valA
    cases hv : valF 8 d 0 with
    | none =>
      rw [hv] at n1
      rw [if_pos n1]
    | some m =>
      rw [hv] at n1
      rw [if_neg (by omega), n1.1]
theorem decimalA_pass (s d r : List UInt8) (hd : d = s.takeWhile (· ∈ [48, 49, 50, 51, 52, 53, 54, 55, 56, 57])) (hr : r = s.dropWhile (· ∈ [48, 49, 50, 51, 52, 53, 54, 55, 56, 57])) :
    decimalA s = if d = [] ∨ r ≠ [] ∨ (d.getD 0 0 = 48 ∧ 1 < d.length) then (0, 150) else valA 10 d := by
  have hds : d ++ r = s := by rw [hd, hr]; exact List.takeWhile_append_dropWhile
  have hdd : ∀ c ∈ d, 48 ≤ c.toNat ∧ c.toNat ≤ 57 := fun c hc => (mem_dec c).1 (mem_takeW (hd ▸ hc))
  cases r with
  | cons c r =>
    have hc : ¬ (48 ≤ c.toNat ∧ c.toNat ≤ 57) := fun q => head_dropW (c := c) (by rw [← hr]; rfl) ((mem_dec c).2 q)
    rw [if_pos (.inr (.inl (List.cons_ne_nil _ _)))]
    unfold decimalA
    split
    · rfl
    · rw [← hds, decF_none d c r 0 hc]
      rfl
  | nil =>
    rw [List.append_nil] at hds
    subst hds
    unfold decimalA
    by_cases e1 : d = []
    · rw [if_pos (.inl e1), if_pos (.inl e1)]
    by_cases e2 : d.getD 0 0 = 48 ∧ 1 < d.length
    · rw [if_pos (.inr e2), if_pos (.inr (.inr e2))]
    · rw [if_neg (by rintro (h | h); exact e1 h; exact e2 h), if_neg (by rintro (h | h | h); exact e1 h; exact h rfl; exact e2 h)]
      obtain ⟨m, h1, h2⟩ := decF_val d 0 (by omega) hdd
      rw [h1]
      unfold valA decEnd
      cases hv : valF 10 d 0 with
      | none =>
        rw [hv] at h2
        have h3 : 9007199254740992 < m := h2
        show (if 9007199254740992 < m then ((0 : Nat), (3 : Nat)) else (m, 0)) = (0, 3)
        rw [if_pos h3]
      | some k =>
        rw [hv] at h2
        have h3 : m = k ∧ k ≤ 9007199254740992 := h2
        show (if 9007199254740992 < m then ((0 : Nat), (3 : Nat)) else (m, 0)) = (k, 0)
        rw [if_neg (by omega), h3.1]

set_option maxHeartbeats 1600000 in
set_option maxRecDepth 100000 in
theorem cnumber_any (w : World) (s : ByteArray) (hs : s.size ≤ 140737488355328) : Calls Tryd.prog 41 #[.string s] w fun e w' => e = .returned (.tuple #[.int .i64 (numberA s.data.toList).1, .int .i64 (numberA s.data.toList).2]) ∧ Below w.heap.size w w' := by
  obtain ⟨s1, h1⟩ : ∃ x, x = s.data.toList.dropWhile (· ∈ [32]) := ⟨_, rfl⟩
  obtain ⟨d, hd⟩ : ∃ x, x = s1.takeWhile (· ∈ [48, 49, 50, 51, 52, 53, 54, 55]) := ⟨_, rfl⟩
  obtain ⟨s2, h2⟩ : ∃ x, x = s1.dropWhile (· ∈ [48, 49, 50, 51, 52, 53, 54, 55]) := ⟨_, rfl⟩
  obtain ⟨r, h3⟩ : ∃ x, x = s2.dropWhile (· ∈ [32, 0]) := ⟨_, rfl⟩
  rw [numberA_pass _ s1 d s2 r h1 hd h2 h3]
  have H0 := Lib.hid (passer_any w s hs)
  have H1 : Hid (∀ (wx : World) (g : Nat), Pass wx g s → Calls Tryd.prog 65 #[.string ⟨#[32]⟩, .pointer (some ⟨g, 0, none⟩)] wx fun e w' => e = .returned (.tuple #[.string (strF (s.data.toList.takeWhile (· ∈ [32]))), .string (strF s1)]) ∧ Pass w' g (strF s1) ∧ Step g [g] [] wx w') := Lib.hid fun wx g hp => by
    have h := pass_any wx g ⟨#[32]⟩ s hp
    rw [show (⟨#[32]⟩ : ByteArray).data.toList = [32] from rfl, ← h1] at h
    exact h
  have H2 : Hid (∀ (wx : World) (g : Nat), Pass wx g (strF s1) → Calls Tryd.prog 65 #[.string ⟨#[48, 49, 50, 51, 52, 53, 54, 55]⟩, .pointer (some ⟨g, 0, none⟩)] wx fun e w' => e = .returned (.tuple #[.string (strF d), .string (strF s2)]) ∧ Pass w' g (strF s2) ∧ Step g [g] [] wx w') := Lib.hid fun wx g hp => by
    have h := pass_any wx g ⟨#[48, 49, 50, 51, 52, 53, 54, 55]⟩ (strF s1) hp
    rw [show (⟨#[48, 49, 50, 51, 52, 53, 54, 55]⟩ : ByteArray).data.toList = [48, 49, 50, 51, 52, 53, 54, 55] from rfl, strF_list, ← h2, ← hd] at h
    exact h
  have H3 : Hid (∀ (wx : World) (g : Nat), Pass wx g (strF s2) → Calls Tryd.prog 65 #[.string ⟨#[32, 0]⟩, .pointer (some ⟨g, 0, none⟩)] wx fun e w' => e = .returned (.tuple #[.string (strF (s2.takeWhile (· ∈ [32, 0]))), .string (strF r)]) ∧ Pass w' g (strF r) ∧ Step g [g] [] wx w') := Lib.hid fun wx g hp => by
    have h := pass_any wx g ⟨#[32, 0]⟩ (strF s2) hp
    rw [show (⟨#[32, 0]⟩ : ByteArray).data.toList = [32, 0] from rfl, strF_list, ← h3] at h
    exact h
  have hdl : (strF d).size ≤ 140737488355328 := by
    have a := takeW_len (· ∈ [48, 49, 50, 51, 52, 53, 54, 55]) s1
    have b := dropW_len (· ∈ [32]) s.data.toList
    rw [← hd] at a
    rw [← h1] at b
    have c : s.data.toList.length = s.size := rfl
    show d.length ≤ _
    omega
  have HV : Hid (∀ wx : World, Calls Tryd.prog 53 #[.string (strF d), .int .i64 8] wx fun e w' => e = .returned (.tuple #[.int .i64 (valA 8 (strF d).data.toList).1, .int .i64 (valA 8 (strF d).data.toList).2]) ∧ w' = wx) := Lib.hid fun wx : World => value_walk wx (strF d) 8 hdl (by omega) (by omega) (fun c hc => by
    have := (mem_oct c).1 (mem_takeW (hd ▸ hc))
    omega)
  rw [strF_list] at HV
  generalize s.data.toList.takeWhile (· ∈ [32]) = P1 at *
  generalize s2.takeWhile (· ∈ [32, 0]) = P3 at *
  generalize valA 8 d = V at *
  obtain ⟨v1, v2⟩ := V
  dsimp only at HV
  clear h1 hd h2 h3
  have HR : Hid ((if r ≠ [] then ((0 : Nat), (150 : Nat)) else (v1, v2)) = if r = [] then (v1, v2) else (0, 150)) := Lib.hid (by by_cases e : r = [] <;> simp [e])
  rw [HR.out]
  by_cases e : r = []
  · rw [if_pos e]
    have d0 : ((strF r).toList.isEmpty) = true := by rw [e, strF_toList]; rfl
    clear e HR
    generalize strF r = R at *
    generalize strF d = D at *
    generalize strF s1 = S1 at *
    generalize strF s2 = S2 at *
    generalize strF P1 = P1 at *
    generalize strF P3 = P3 at *
    go_enter Tryd.func41, Tryd.ntmps41
    go_wp2_with fail
    refine H0.out.mono ?_
    rintro e w1 ⟨rfl, hp, hsz, hb⟩
    have HB := Lib.hid hb
    obtain ⟨g, hg⟩ : ∃ g, g = w.heap.size := ⟨_, rfl⟩
    rw [← hg] at hp ⊢
    have HGN := Lib.hid (show w.heap.size ≤ g by rw [hg]; exact Nat.le_refl _)
    have HP := Lib.hid hp
    clear hb hg hp hsz
    go_wp2_with fail
    refine (H1.out w1 g HP.out).mono ?_
    rintro e w2 ⟨rfl, hp, hst⟩
    have HP1 := Lib.hid hp
    have HB1 := Lib.hid (HB.out.trans (hst.below.mono HGN.out))
    clear hp hst
    go_wp2_with fail
    refine (H2.out w2 g HP1.out).mono ?_
    rintro e w3 ⟨rfl, hp, hst⟩
    have HP2 := Lib.hid hp
    have HB2 := Lib.hid (HB1.out.trans (hst.below.mono HGN.out))
    clear hp hst
    go_wp2_with fail
    refine (H3.out w3 g HP2.out).mono ?_
    rintro e w4 ⟨rfl, hp, hst⟩
    have HP3 := Lib.hid hp
    have HB3 := Lib.hid (HB2.out.trans (hst.below.mono HGN.out))
    clear hp hst
    go_wp2_with fail
    refine (HV.out w4).mono ?_
    rintro e w5 ⟨rfl, rfl⟩
    go_wp2_with fail
    go_ret2
    exact ⟨rfl, HB3.out⟩
  · rw [if_neg e]
    have d0 : ((strF r).toList.isEmpty) = false := by
      rw [strF_toList]
      cases r with
      | nil => exact absurd rfl e
      | cons c r => rfl
    clear e HR
    generalize strF r = R at *
    generalize strF d = D at *
    generalize strF s1 = S1 at *
    generalize strF s2 = S2 at *
    generalize strF P1 = P1 at *
    generalize strF P3 = P3 at *
    go_enter Tryd.func41, Tryd.ntmps41
    go_wp2_with fail
    refine H0.out.mono ?_
    rintro e w1 ⟨rfl, hp, hsz, hb⟩
    have HB := Lib.hid hb
    obtain ⟨g, hg⟩ : ∃ g, g = w.heap.size := ⟨_, rfl⟩
    rw [← hg] at hp ⊢
    have HGN := Lib.hid (show w.heap.size ≤ g by rw [hg]; exact Nat.le_refl _)
    have HP := Lib.hid hp
    clear hb hg hp hsz
    go_wp2_with fail
    refine (H1.out w1 g HP.out).mono ?_
    rintro e w2 ⟨rfl, hp, hst⟩
    have HP1 := Lib.hid hp
    have HB1 := Lib.hid (HB.out.trans (hst.below.mono HGN.out))
    clear hp hst
    go_wp2_with fail
    refine (H2.out w2 g HP1.out).mono ?_
    rintro e w3 ⟨rfl, hp, hst⟩
    have HP2 := Lib.hid hp
    have HB2 := Lib.hid (HB1.out.trans (hst.below.mono HGN.out))
    clear hp hst
    go_wp2_with fail
    refine (H3.out w3 g HP2.out).mono ?_
    rintro e w4 ⟨rfl, hp, hst⟩
    have HP3 := Lib.hid hp
    have HB3 := Lib.hid (HB2.out.trans (hst.below.mono HGN.out))
    clear hp hst
    go_wp2_with fail
    go_ret2
    exact ⟨rfl, HB3.out⟩
end Go.Proofs.YtiihkjloenlfmaaDoor
