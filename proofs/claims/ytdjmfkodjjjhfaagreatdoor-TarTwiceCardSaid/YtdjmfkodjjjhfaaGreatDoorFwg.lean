/- fields.value: the number that digits say. Conditions: bytes that are decimal digits. -/
import Derived.Test.YtdjmfkodjjjhfaaGreatDoorFwh
import Derived.Test.YtdjmfkodjjjhfaaGreatDoorFwe
namespace Go.Proofs.YtdjmfkodjjjhfaaGreatDoor
open Go.RowKit

/-- The number that digits to the base b say; none above 2^53. -/
def valF (b : Nat) : List UInt8 → Nat → Option Nat
  | [], n => some n
  | c :: s, n => if 9007199254740992 < n * b + (c.toNat - 48) then none else valF b s (n * b + (c.toNat - 48))
def valA (b : Nat) (s : List UInt8) : Nat × Nat := match valF b s 0 with
  | none => (0, 3)
  | some n => (n, 0)
/-- Once too great, always. -/
theorem numF_big : ∀ (d r : List UInt8) (n : Nat), 9007199254740992 < n → (∀ c ∈ d, 48 ≤ c.toNat ∧ c.toNat ≤ 55) → (∀ c, r.head? = some c → ¬ (48 ≤ c.toNat ∧ c.toNat ≤ 55)) → numF (d ++ r) n = (n, r)
  | [], [], n, _, _, _ => rfl
  | [], c :: r, n, _, _, h => by
    rw [List.nil_append, numF, if_neg (h c rfl)]
  | c :: d, r, n, hn, hd, h => by
    rw [List.cons_append, numF, if_pos (hd c List.mem_cons_self), if_neg (by omega)]
    exact numF_big d r n hn (fun c hc => hd c (List.mem_cons_of_mem _ hc)) h
theorem numF_val : ∀ (d r : List UInt8) (n : Nat), n ≤ 9007199254740992 → (∀ c ∈ d, 48 ≤ c.toNat ∧ c.toNat ≤ 55) → (∀ c, r.head? = some c → ¬ (48 ≤ c.toNat ∧ c.toNat ≤ 55)) →
    (numF (d ++ r) n).2 = r ∧ (match valF 8 d n with | none => 9007199254740992 < (numF (d ++ r) n).1 | some m => (numF (d ++ r) n).1 = m ∧ m ≤ 9007199254740992)
  | [], [], n, hn, _, _ => ⟨rfl, rfl, hn⟩
  | [], c :: r, n, hn, _, h => by
    rw [List.nil_append, numF, if_neg (h c rfl)]
    exact ⟨rfl, rfl, hn⟩
  | c :: d, r, n, hn, hd, h => by
    rw [List.cons_append, numF, if_pos (hd c List.mem_cons_self), if_pos hn, valF, Nat.mul_comm n 8]
    by_cases e : 9007199254740992 < 8 * n + (c.toNat - 48)
    · rw [if_pos e, numF_big d r _ e (fun c hc => hd c (List.mem_cons_of_mem _ hc)) h]
      exact ⟨rfl, e⟩
    · rw [if_neg e]
      exact numF_val d r _ (by omega) (fun c hc => hd c (List.mem_cons_of_mem _ hc)) h
theorem decF_big : ∀ (d : List UInt8) (n : Nat), 9007199254740992 < n → (∀ c ∈ d, 48 ≤ c.toNat ∧ c.toNat ≤ 57) → decF d n = some n
  | [], n, _, _ => rfl
  | c :: d, n, hn, hd => by
    have := hd c List.mem_cons_self
    rw [decF, if_neg (by omega), if_neg (by omega)]
    exact decF_big d n hn fun c hc => hd c (List.mem_cons_of_mem _ hc)
theorem decF_val : ∀ (d : List UInt8) (n : Nat), n ≤ 9007199254740992 → (∀ c ∈ d, 48 ≤ c.toNat ∧ c.toNat ≤ 57) → ∃ m, decF d n = some m ∧ (match valF 10 d n with | none => 9007199254740992 < m | some k => m = k ∧ k ≤ 9007199254740992)
  | [], n, hn, _ => ⟨n, rfl, rfl, hn⟩
  | c :: d, n, hn, hd => by
    have := hd c List.mem_cons_self
    rw [decF, if_neg (by omega), if_pos hn, valF, Nat.mul_comm n 10]
    by_cases e : 9007199254740992 < 10 * n + (c.toNat - 48)
    · rw [if_pos e]
      exact ⟨_, decF_big d _ e fun c hc => hd c (List.mem_cons_of_mem _ hc), e⟩
    · rw [if_neg e]
      exact decF_val d _ (by omega) fun c hc => hd c (List.mem_cons_of_mem _ hc)
theorem decF_none : ∀ (d : List UInt8) (c : UInt8) (r : List UInt8) (n : Nat), ¬ (48 ≤ c.toNat ∧ c.toNat ≤ 57) → decF (d ++ c :: r) n = none
  | [], c, r, n, h => by
    rw [List.nil_append, decF, if_pos (by omega)]
  | x :: d, c, r, n, h => by
    rw [List.cons_append, decF]
    split
    · rfl
    · exact decF_none d c r _ h
set_option maxRecDepth 100000 in
/-- The number so far, of the first q digits. -/
theorem valF_take (b : Nat) : ∀ (s : List UInt8) (q n m : Nat), q < s.length → valF b (s.take q) n = some m → valF b s n = valF b (s.drop q) m
  | s, 0, n, m, _, h => by
    have : n = m := Option.some.inj h
    rw [this]
    rfl
  | [], q + 1, n, m, hq, h => by cases hq
  | c :: s, q + 1, n, m, hq, h => by
    rw [List.take_succ_cons, valF] at h
    rw [valF, List.drop_succ_cons]
    by_cases e : 9007199254740992 < n * b + (c.toNat - 48)
    · rw [if_pos e] at h
      cases h
    · rw [if_neg e] at h ⊢
      exact valF_take b s q _ m (by simpa using hq) h

set_option maxHeartbeats 1600000 in
set_option maxRecDepth 100000 in
theorem value_walk (w : World) (s : ByteArray) (b : Nat) (hs : s.size ≤ 140737488355328) (_ : 2 ≤ b) (hb : b ≤ 10) (hd : ∀ c ∈ s.data.toList, 48 ≤ c.toNat ∧ c.toNat ≤ 57) :
    Calls Tryz.prog 105 #[.string s, .int .i64 b] w fun e w' => e = .returned (.tuple #[.int .i64 (valA b s.data.toList).1, .int .i64 (valA b s.data.toList).2]) ∧ w' = w := by
  have HD := Lib.hid hd
  have HA : Hid (∀ v, v = valF b s.data.toList 0 → (valA b s.data.toList) = match v with | none => (0, 3) | some n => (n, 0)) := Lib.hid fun v hv => by subst hv; rfl
  generalize hans : valA b s.data.toList = ans at *
  clear hd hans
  go_enter Tryz.func105, Tryz.ntmps105
  go_wp2_with fail
  go_loopw [6, 10] (fun sv si wx => ∃ q v : Nat, sv = .int .i64 v ∧ si = .int .i64 q ∧ q ≤ s.size ∧ v ≤ 9007199254740992 ∧ wx = w ∧ Hid (valF b s.data.toList 0 = valF b (s.data.toList.drop q) v)) (fun _ si _ => s.size - (intOf si).toNat)
  case atStart => exact ⟨0, 0, rfl, rfl, Nat.zero_le _, Nat.zero_le _, rfl, Lib.hid rfl⟩
  case round =>
    obtain ⟨q, v, rfl, rfl, hq, hv, rfl, HV⟩ := hrel
    have HVB := Lib.hid hv
    by_cases e : q < s.size
    · have d0 : decide ((q : Int) < (s.size : Int)) = true := decide_eq_true (by omega)
      have hqz : (q : Int) < s.size := by omega
      have hmem := HD.out s[q] (by rw [← fbyte s q e, List.getD_eq_getElem?_getD, List.getElem?_eq_getElem (by show q < s.size; exact e)]; exact List.getElem_mem _)
      have hdrop : s.data.toList.drop q = s[q] :: s.data.toList.drop (q + 1) := by
        rw [← fbyte s q e, List.getD_eq_getElem?_getD, List.getElem?_eq_getElem (by show q < s.size; exact e)]
        exact List.drop_eq_getElem_cons _
      have hnext := HV.out
      rw [hdrop, valF] at hnext
      have hcn := s[q].toNat_lt
      have hm : v * b ≤ 9007199254740992 * 10 := Nat.mul_le_mul hv hb
      obtain ⟨z, hz⟩ : ∃ z, z = v * b := ⟨_, rfl⟩
      rw [← hz] at hm hnext
      have hzi : (v : Int) * (b : Int) = (z : Int) := by rw [hz]; exact (Int.natCast_mul v b).symm
      have h48 := hmem.1
      have h57 := hmem.2
      obtain ⟨x, hx⟩ : ∃ x, x = s[q].toNat - 48 := ⟨_, rfl⟩
      rw [← hx] at hnext
      have hxi : (s[q].toNat : Int) - 48 = (x : Int) := by omega
      have hx9 : x ≤ 9 := by omega
      obtain ⟨y, hy⟩ : ∃ y, y = z + x := ⟨_, rfl⟩
      rw [← hy] at hnext
      have hyi : (z : Int) + (x : Int) = (y : Int) := by omega
      have hyb : y ≤ 90071992547409929 := by omega
      have HQ := Lib.hid e
      clear hz hdrop hmem hv hx hy
      by_cases e2 : 9007199254740992 < y
      · have d1 : decide ((9007199254740992 : Int) < (y : Int)) = true := decide_eq_true (by omega)
        rw [if_pos e2] at hnext
        have ha := Lib.hid (HA.out none hnext.symm)
        clear hnext
        go_wp2_with fail
        rw [ha.out]
        go_ret2
        exact ⟨rfl, rfl⟩
      · have d1 : decide ((9007199254740992 : Int) < (y : Int)) = false := decide_eq_false (by omega)
        rw [if_neg e2] at hnext
        have HN := Lib.hid hnext
        clear hnext
        go_wp2_with fail
        go_roundw
        case rel => exact ⟨q + 1, y, rfl, by go_num, by omega, by omega, by first | rfl | trivial, HN⟩
        case measure => simp [intOf]; omega
    · have hqs : q = s.size := by omega
      have d0 : decide ((q : Int) < (s.size : Int)) = false := decide_eq_false (by omega)
      have hfin : valF b s.data.toList 0 = some v := by
        rw [HV.out, List.drop_eq_nil_of_le (by show s.size ≤ q; omega)]
        rfl
      have ha := Lib.hid (HA.out _ hfin.symm)
      clear hqs hfin
      go_wp2_with fail
      rw [ha.out]
      go_ret2
      exact ⟨rfl, rfl⟩
end Go.Proofs.YtdjmfkodjjjhfaaGreatDoor
/- fields.Number, Decimal. Conditions: texts of at most 2^47 bytes. -/
namespace Go.Proofs.YtdjmfkodjjjhfaaGreatDoor
open Go.RowKit

set_option maxRecDepth 100000 in
theorem cutF_dropW (a b : UInt8) : ∀ s : List UInt8, cutF a.toNat b.toNat s = s.dropWhile (· ∈ [a, b])
  | [] => rfl
  | c :: s => by
    have hab : (c.toNat = a.toNat ∨ c.toNat = b.toNat) ↔ c ∈ [a, b] := by
      rw [List.mem_cons, List.mem_singleton, UInt8.toNat_inj, UInt8.toNat_inj]
    rw [cutF, List.dropWhile_cons]
    by_cases h : c ∈ [a, b]
    · rw [if_pos (hab.2 h), if_pos (by simpa using h)]
      exact cutF_dropW a b s
    · rw [if_neg (fun q => h (hab.1 q)), if_neg (by simpa using h)]
theorem mem_oct (c : UInt8) : c ∈ [48, 49, 50, 51, 52, 53, 54, 55] ↔ (48 ≤ c.toNat ∧ c.toNat ≤ 55) := by
  revert c
  have h : ∀ n : Fin 256, UInt8.ofNat n ∈ ([48, 49, 50, 51, 52, 53, 54, 55] : List UInt8) ↔ (48 ≤ (UInt8.ofNat n).toNat ∧ (UInt8.ofNat n).toNat ≤ 55) := by decide +kernel
  intro c
  have := h ⟨c.toNat, c.toNat_lt⟩
  rwa [UInt8.ofNat_toNat] at this
theorem mem_dec (c : UInt8) : c ∈ [48, 49, 50, 51, 52, 53, 54, 55, 56, 57] ↔ (48 ≤ c.toNat ∧ c.toNat ≤ 57) := by
  revert c
  have h : ∀ n : Fin 256, UInt8.ofNat n ∈ ([48, 49, 50, 51, 52, 53, 54, 55, 56, 57] : List UInt8) ↔ (48 ≤ (UInt8.ofNat n).toNat ∧ (UInt8.ofNat n).toNat ≤ 57) := by decide +kernel
  intro c
  have := h ⟨c.toNat, c.toNat_lt⟩
  rwa [UInt8.ofNat_toNat] at this
set_option maxRecDepth 100000 in
theorem mem_takeW {set s : List UInt8} {c : UInt8} (h : c ∈ s.takeWhile (· ∈ set)) : c ∈ set := by
  induction s with
  | nil => cases h
  | cons x s ih =>
    rw [List.takeWhile_cons] at h
    split at h
    · rename_i hx
      rcases List.mem_cons.1 h with e | e
      · rw [e]; simpa using hx
      · exact ih e
    · cases h
set_option maxRecDepth 100000 in
theorem head_dropW {set s : List UInt8} {c : UInt8} (h : (s.dropWhile (· ∈ set)).head? = some c) : c ∉ set := by
  induction s with
  | nil => cases h
  | cons x s ih =>
    rw [List.dropWhile_cons] at h
    split at h
    · exact ih h
    · rename_i hx
      rw [List.head?_cons] at h
      cases h
      simpa using hx
theorem dropW_len (p : UInt8 → Bool) (s : List UInt8) : (s.dropWhile p).length ≤ s.length := (List.dropWhile_sublist p).length_le
theorem takeW_len (p : UInt8 → Bool) (s : List UInt8) : (s.takeWhile p).length ≤ s.length := (List.takeWhile_sublist p).length_le
set_option maxRecDepth 100000 in
/-- Number, told by what is passed. -/
theorem numberA_pass (s s1 d s2 r : List UInt8) (h1 : s1 = s.dropWhile (· ∈ [32])) (hd : d = s1.takeWhile (· ∈ [48, 49, 50, 51, 52, 53, 54, 55])) (h2 : s2 = s1.dropWhile (· ∈ [48, 49, 50, 51, 52, 53, 54, 55])) (h3 : r = s2.dropWhile (· ∈ [32, 0])) :
    numberA s = if r ≠ [] then (0, 150) else valA 8 d := by
  have e1 : cutF 32 32 s = s1 := by
    have h := cutF_dropW 32 32 s
    rw [show (32 : UInt8).toNat = 32 from rfl] at h
    rw [h, h1]
    congr 1
    funext c
    simp
  have hds : d ++ s2 = s1 := by rw [hd, h2]; exact List.takeWhile_append_dropWhile
  obtain ⟨n2, n1⟩ := numF_val d s2 0 (by omega) (fun c hc => (mem_oct c).1 (mem_takeW (hd ▸ hc))) (fun c hc => fun q => head_dropW (h2 ▸ hc) ((mem_oct c).2 q))
  have e3 : cutF 32 0 s2 = r := by
    have h := cutF_dropW 32 0 s2
    rw [show (32 : UInt8).toNat = 32 from rfl, show (0 : UInt8).toNat = 0 from rfl] at h
    rw [h, h3]
  unfold numberA
  rw [e1, ← hds, n2, e3]
  by_cases hr : r ≠ []
  · rw [if_pos hr, if_pos hr]
  · rw [if_neg hr, if_neg hr]
    unfold valA
    cases hv : valF 8 d 0 with
    | none =>
      rw [hv] at n1
      rw [if_pos n1]
    | some m =>
      rw [hv] at n1
      rw [if_neg (by omega), n1.1]
theorem decimalA_pass (s d r : List UInt8) (hd : d = s.takeWhile (· ∈ [48, 49, 50, 51, 52, 53, 54, 55, 56, 57])) (hr : r = s.dropWhile (· ∈ [48, 49, 50, 51, 52, 53, 54, 55, 56, 57])) :
    decimalA s = if d = [] ∨ r ≠ [] ∨ (d.getD 0 0 = 48 ∧ 1 < d.length) then (0, 150) else valA 10 d := by
  have hds : d ++ r = s := by rw [hd, hr]; exact List.takeWhile_append_dropWhile
  have hdd : ∀ c ∈ d, 48 ≤ c.toNat ∧ c.toNat ≤ 57 := fun c hc => (mem_dec c).1 (mem_takeW (hd ▸ hc))
  cases r with
  | cons c r =>
    have hc : ¬ (48 ≤ c.toNat ∧ c.toNat ≤ 57) := fun q => head_dropW (c := c) (by rw [← hr]; rfl) ((mem_dec c).2 q)
    rw [if_pos (.inr (.inl (List.cons_ne_nil _ _)))]
    unfold decimalA
    split
    · rfl
    · rw [← hds, decF_none d c r 0 hc]
      rfl
  | nil =>
    rw [List.append_nil] at hds
    subst hds
    unfold decimalA
    by_cases e1 : d = []
    · rw [if_pos (.inl e1), if_pos (.inl e1)]
    by_cases e2 : d.getD 0 0 = 48 ∧ 1 < d.length
    · rw [if_pos (.inr e2), if_pos (.inr (.inr e2))]
    · rw [if_neg (by rintro (h | h); exact e1 h; exact e2 h), if_neg (by rintro (h | h | h); exact e1 h; exact h rfl; exact e2 h)]
      obtain ⟨m, h1, h2⟩ := decF_val d 0 (by omega) hdd
      rw [h1]
      unfold valA decEnd
      cases hv : valF 10 d 0 with
      | none =>
        rw [hv] at h2
        have h3 : 9007199254740992 < m := h2
        show (if 9007199254740992 < m then ((0 : Nat), (3 : Nat)) else (m, 0)) = (0, 3)
        rw [if_pos h3]
      | some k =>
        rw [hv] at h2
        have h3 : m = k ∧ k ≤ 9007199254740992 := h2
        show (if 9007199254740992 < m then ((0 : Nat), (3 : Nat)) else (m, 0)) = (k, 0)
        rw [if_neg (by omega), h3.1]

set_option maxHeartbeats 1600000 in
set_option maxRecDepth 100000 in
theorem cnumber_any (w : World) (s : ByteArray) (hs : s.size ≤ 140737488355328) : Calls Tryz.prog 149 #[.string s] w fun e w' => e = .returned (.tuple #[.int .i64 (numberA s.data.toList).1, .int .i64 (numberA s.data.toList).2]) ∧ Below w.heap.size w w' := by
  obtain ⟨s1, h1⟩ : ∃ x, x = s.data.toList.dropWhile (· ∈ [32]) := ⟨_, rfl⟩
  obtain ⟨d, hd⟩ : ∃ x, x = s1.takeWhile (· ∈ [48, 49, 50, 51, 52, 53, 54, 55]) := ⟨_, rfl⟩
  obtain ⟨s2, h2⟩ : ∃ x, x = s1.dropWhile (· ∈ [48, 49, 50, 51, 52, 53, 54, 55]) := ⟨_, rfl⟩
  obtain ⟨r, h3⟩ : ∃ x, x = s2.dropWhile (· ∈ [32, 0]) := ⟨_, rfl⟩
  rw [numberA_pass _ s1 d s2 r h1 hd h2 h3]
  have H0 := Lib.hid (passer_any w s hs)
  have H1 : Hid (∀ (wx : World) (g : Nat), Pass wx g s → Calls Tryz.prog 131 #[.string ⟨#[32]⟩, .pointer (some ⟨g, 0, none⟩)] wx fun e w' => e = .returned (.tuple #[.string (strF (s.data.toList.takeWhile (· ∈ [32]))), .string (strF s1)]) ∧ Pass w' g (strF s1) ∧ Step g [g] [] wx w') := Lib.hid fun wx g hp => by
    have h := pass_any wx g ⟨#[32]⟩ s hp
    rw [show (⟨#[32]⟩ : ByteArray).data.toList = [32] from rfl, ← h1] at h
    exact h
  have H2 : Hid (∀ (wx : World) (g : Nat), Pass wx g (strF s1) → Calls Tryz.prog 131 #[.string ⟨#[48, 49, 50, 51, 52, 53, 54, 55]⟩, .pointer (some ⟨g, 0, none⟩)] wx fun e w' => e = .returned (.tuple #[.string (strF d), .string (strF s2)]) ∧ Pass w' g (strF s2) ∧ Step g [g] [] wx w') := Lib.hid fun wx g hp => by
    have h := pass_any wx g ⟨#[48, 49, 50, 51, 52, 53, 54, 55]⟩ (strF s1) hp
    rw [show (⟨#[48, 49, 50, 51, 52, 53, 54, 55]⟩ : ByteArray).data.toList = [48, 49, 50, 51, 52, 53, 54, 55] from rfl, strF_list, ← h2, ← hd] at h
    exact h
  have H3 : Hid (∀ (wx : World) (g : Nat), Pass wx g (strF s2) → Calls Tryz.prog 131 #[.string ⟨#[32, 0]⟩, .pointer (some ⟨g, 0, none⟩)] wx fun e w' => e = .returned (.tuple #[.string (strF (s2.takeWhile (· ∈ [32, 0]))), .string (strF r)]) ∧ Pass w' g (strF r) ∧ Step g [g] [] wx w') := Lib.hid fun wx g hp => by
    have h := pass_any wx g ⟨#[32, 0]⟩ (strF s2) hp
    rw [show (⟨#[32, 0]⟩ : ByteArray).data.toList = [32, 0] from rfl, strF_list, ← h3] at h
    exact h
  have hdl : (strF d).size ≤ 140737488355328 := by
    have a := takeW_len (· ∈ [48, 49, 50, 51, 52, 53, 54, 55]) s1
    have b := dropW_len (· ∈ [32]) s.data.toList
    rw [← hd] at a
    rw [← h1] at b
    have c : s.data.toList.length = s.size := rfl
    show d.length ≤ _
    omega
  have HV : Hid (∀ wx : World, Calls Tryz.prog 105 #[.string (strF d), .int .i64 8] wx fun e w' => e = .returned (.tuple #[.int .i64 (valA 8 (strF d).data.toList).1, .int .i64 (valA 8 (strF d).data.toList).2]) ∧ w' = wx) := Lib.hid fun wx : World => value_walk wx (strF d) 8 hdl (by omega) (by omega) (fun c hc => by
    have := (mem_oct c).1 (mem_takeW (hd ▸ hc))
    omega)
  rw [strF_list] at HV
  generalize s.data.toList.takeWhile (· ∈ [32]) = P1 at *
  generalize s2.takeWhile (· ∈ [32, 0]) = P3 at *
  generalize valA 8 d = V at *
  obtain ⟨v1, v2⟩ := V
  dsimp only at HV
  clear h1 hd h2 h3
  have HR : Hid ((if r ≠ [] then ((0 : Nat), (150 : Nat)) else (v1, v2)) = if r = [] then (v1, v2) else (0, 150)) := Lib.hid (by by_cases e : r = [] <;> simp [e])
  rw [HR.out]
  by_cases e : r = []
  · rw [if_pos e]
    have d0 : ((strF r).toList.isEmpty) = true := by rw [e, strF_toList]; rfl
    clear e HR
    generalize strF r = R at *
    generalize strF d = D at *
    generalize strF s1 = S1 at *
    generalize strF s2 = S2 at *
    generalize strF P1 = P1 at *
    generalize strF P3 = P3 at *
    go_enter Tryz.func149, Tryz.ntmps149
    go_wp2_with fail
    refine H0.out.mono ?_
    rintro e w1 ⟨rfl, hp, hsz, hb⟩
    have HB := Lib.hid hb
    obtain ⟨g, hg⟩ : ∃ g, g = w.heap.size := ⟨_, rfl⟩
    rw [← hg] at hp ⊢
    have HGN := Lib.hid (show w.heap.size ≤ g by rw [hg]; exact Nat.le_refl _)
    have HP := Lib.hid hp
    clear hb hg hp hsz
    go_wp2_with fail
    refine (H1.out w1 g HP.out).mono ?_
    rintro e w2 ⟨rfl, hp, hst⟩
    have HP1 := Lib.hid hp
    have HB1 := Lib.hid (HB.out.trans (hst.below.mono HGN.out))
    clear hp hst
    go_wp2_with fail
    refine (H2.out w2 g HP1.out).mono ?_
    rintro e w3 ⟨rfl, hp, hst⟩
    have HP2 := Lib.hid hp
    have HB2 := Lib.hid (HB1.out.trans (hst.below.mono HGN.out))
    clear hp hst
    go_wp2_with fail
    refine (H3.out w3 g HP2.out).mono ?_
    rintro e w4 ⟨rfl, hp, hst⟩
    have HP3 := Lib.hid hp
    have HB3 := Lib.hid (HB2.out.trans (hst.below.mono HGN.out))
    clear hp hst
    go_wp2_with fail
    refine (HV.out w4).mono ?_
    rintro e w5 ⟨rfl, rfl⟩
    go_wp2_with fail
    go_ret2
    exact ⟨rfl, HB3.out⟩
  · rw [if_neg e]
    have d0 : ((strF r).toList.isEmpty) = false := by
      rw [strF_toList]
      cases r with
      | nil => exact absurd rfl e
      | cons c r => rfl
    clear e HR
    generalize strF r = R at *
    generalize strF d = D at *
    generalize strF s1 = S1 at *
    generalize strF s2 = S2 at *
    generalize strF P1 = P1 at *
    generalize strF P3 = P3 at *
    go_enter Tryz.func149, Tryz.ntmps149
    go_wp2_with fail
    refine H0.out.mono ?_
    rintro e w1 ⟨rfl, hp, hsz, hb⟩
    have HB := Lib.hid hb
    obtain ⟨g, hg⟩ : ∃ g, g = w.heap.size := ⟨_, rfl⟩
    rw [← hg] at hp ⊢
    have HGN := Lib.hid (show w.heap.size ≤ g by rw [hg]; exact Nat.le_refl _)
    have HP := Lib.hid hp
    clear hb hg hp hsz
    go_wp2_with fail
    refine (H1.out w1 g HP.out).mono ?_
    rintro e w2 ⟨rfl, hp, hst⟩
    have HP1 := Lib.hid hp
    have HB1 := Lib.hid (HB.out.trans (hst.below.mono HGN.out))
    clear hp hst
    go_wp2_with fail
    refine (H2.out w2 g HP1.out).mono ?_
    rintro e w3 ⟨rfl, hp, hst⟩
    have HP2 := Lib.hid hp
    have HB2 := Lib.hid (HB1.out.trans (hst.below.mono HGN.out))
    clear hp hst
    go_wp2_with fail
    refine (H3.out w3 g HP2.out).mono ?_
    rintro e w4 ⟨rfl, hp, hst⟩
    have HP3 := Lib.hid hp
    have HB3 := Lib.hid (HB2.out.trans (hst.below.mono HGN.out))
    clear hp hst
    go_wp2_with fail
    go_ret2
    exact ⟨rfl, HB3.out⟩
end Go.Proofs.YtdjmfkodjjjhfaaGreatDoor
/- fields.Decimal, Digits, Cut, Text, Sum. Conditions: texts of at most 2^47 bytes; Digits: the tables are there. -/
namespace Go.Proofs.YtdjmfkodjjjhfaaGreatDoor
open Go.RowKit

theorem itoa_dec (n : Nat) : (Lib.itoa (n : Int)) = decL n := by
  rw [Lib.itoa_nonneg]
  induction n using Nat.strongRecOn with
  | _ n ih =>
    rw [Lib.decDigits, decL]
    by_cases h : n < 10
    · rw [dif_pos h, if_pos h]; rfl
    · rw [dif_neg h, if_neg h, ih (n / 10) (by omega)]; rfl
set_option maxRecDepth 100000 in
theorem cdigits_any (w : World) (hT : Tabs w) (n : Int) (hn1 : -9223372036854775808 ≤ n) (hn2 : n ≤ 9223372036854775807) : Calls Tryz.prog 93 #[.int .i64 n] w fun e w' => e = .returned (.string (strF (digitsA n))) ∧ Below w.heap.size w w' := by
  by_cases e : n < 0
  · have d0 : decide (n < 0) = true := decide_eq_true e
    have ha : digitsA n = [] := by unfold digitsA; rw [if_pos e]
    rw [ha]
    clear hT ha
    go_enter Tryz.func93, Tryz.ntmps93
    go_wp2_with fail
    go_ret
    exact ⟨rfl, Below.refl _ _⟩
  · have d0 : decide (n < 0) = false := decide_eq_false e
    have HI := Lib.hid (itoa_any w hT n hn1 hn2)
    obtain ⟨m, rfl⟩ : ∃ m : Nat, n = m := ⟨n.toNat, by omega⟩
    rw [itoa_dec] at HI
    rw [digits_dec]
    unfold strF
    generalize (decL m).toArray = D at *
    clear hT
    go_enter Tryz.func93, Tryz.ntmps93
    go_wp2_with fail
    refine HI.out.mono ?_
    rintro e w1 ⟨rfl, hb⟩
    have HB := Lib.hid hb
    clear hb
    go_wp2_with fail
    go_ret
    exact ⟨rfl, HB.out⟩

set_option maxHeartbeats 1600000 in
set_option maxRecDepth 100000 in
theorem cdecimal_any (w : World) (s : ByteArray) (hs : s.size ≤ 140737488355328) : Calls Tryz.prog 65 #[.string s] w fun e w' => e = .returned (.tuple #[.int .i64 (decimalA s.data.toList).1, .int .i64 (decimalA s.data.toList).2]) ∧ Below w.heap.size w w' := by
  obtain ⟨d, hd⟩ : ∃ x, x = s.data.toList.takeWhile (· ∈ [48, 49, 50, 51, 52, 53, 54, 55, 56, 57]) := ⟨_, rfl⟩
  obtain ⟨r, hr⟩ : ∃ x, x = s.data.toList.dropWhile (· ∈ [48, 49, 50, 51, 52, 53, 54, 55, 56, 57]) := ⟨_, rfl⟩
  rw [decimalA_pass _ d r hd hr]
  have H0 := Lib.hid (passer_any w s hs)
  have H1 : Hid (∀ (wx : World) (g : Nat), Pass wx g s → Calls Tryz.prog 131 #[.string ⟨#[48, 49, 50, 51, 52, 53, 54, 55, 56, 57]⟩, .pointer (some ⟨g, 0, none⟩)] wx fun e w' => e = .returned (.tuple #[.string (strF d), .string (strF r)]) ∧ Step g [g] [] wx w') := Lib.hid fun wx g hp => by
    have h := pass_any wx g ⟨#[48, 49, 50, 51, 52, 53, 54, 55, 56, 57]⟩ s hp
    rw [show (⟨#[48, 49, 50, 51, 52, 53, 54, 55, 56, 57]⟩ : ByteArray).data.toList = [48, 49, 50, 51, 52, 53, 54, 55, 56, 57] from rfl, ← hr, ← hd] at h
    exact h.mono fun e w' q => ⟨q.1, q.2.2⟩
  have hdl : (strF d).size ≤ 140737488355328 := by
    have a := takeW_len (· ∈ [48, 49, 50, 51, 52, 53, 54, 55, 56, 57]) s.data.toList
    rw [← hd] at a
    have c : s.data.toList.length = s.size := rfl
    show d.length ≤ _
    omega
  have HV : Hid (∀ wx : World, Calls Tryz.prog 105 #[.string (strF d), .int .i64 10] wx fun e w' => e = .returned (.tuple #[.int .i64 (valA 10 (strF d).data.toList).1, .int .i64 (valA 10 (strF d).data.toList).2]) ∧ w' = wx) := Lib.hid fun wx : World => value_walk wx (strF d) 10 hdl (by omega) (by omega) (fun c hc => (mem_dec c).1 (mem_takeW (hd ▸ hc)))
  rw [strF_list] at HV
  generalize valA 10 d = V at *
  obtain ⟨v1, v2⟩ := V
  dsimp only at HV
  clear hd hr
  cases d with
  | nil =>
    rw [if_pos (.inl rfl)]
    have d0 : ((strF []).toList.isEmpty) = true := by rw [strF_toList]; rfl
    generalize strF r = R at *
    generalize strF [] = D at *
    go_enter Tryz.func65, Tryz.ntmps65
    go_wp2_with fail
    refine H0.out.mono ?_
    rintro e w1 ⟨rfl, hp, hsz, hb⟩
    have HB := Lib.hid hb
    obtain ⟨g, hg⟩ : ∃ g, g = w.heap.size := ⟨_, rfl⟩
    rw [← hg] at hp ⊢
    have HGN := Lib.hid (show w.heap.size ≤ g by rw [hg]; exact Nat.le_refl _)
    have HP := Lib.hid hp
    clear hb hg hp hsz
    go_wp2_with fail
    refine (H1.out w1 g HP.out).mono ?_
    rintro e w2 ⟨rfl, hst⟩
    have HB1 := Lib.hid (HB.out.trans (hst.below.mono HGN.out))
    clear hst
    go_wp2_with fail
    go_ret2
    exact ⟨rfl, HB1.out⟩
  | cons c d =>
    have d0 : ((strF (c :: d)).toList.isEmpty) = false := by rw [strF_toList]; rfl
    cases r with
    | cons x r =>
      rw [if_pos (.inr (.inl (List.cons_ne_nil _ _)))]
      have d1 : ((strF (x :: r)).toList.isEmpty) = false := by rw [strF_toList]; rfl
      generalize strF (x :: r) = R at *
      generalize strF (c :: d) = D at *
      go_enter Tryz.func65, Tryz.ntmps65
      go_wp2_with fail
      refine H0.out.mono ?_
      rintro e w1 ⟨rfl, hp, hsz, hb⟩
      have HB := Lib.hid hb
      obtain ⟨g, hg⟩ : ∃ g, g = w.heap.size := ⟨_, rfl⟩
      rw [← hg] at hp ⊢
      have HGN := Lib.hid (show w.heap.size ≤ g by rw [hg]; exact Nat.le_refl _)
      have HP := Lib.hid hp
      clear hb hg hp hsz
      go_wp2_with fail
      refine (H1.out w1 g HP.out).mono ?_
      rintro e w2 ⟨rfl, hst⟩
      have HB1 := Lib.hid (HB.out.trans (hst.below.mono HGN.out))
      clear hst
      go_wp2_with fail
      go_ret2
      exact ⟨rfl, HB1.out⟩
    | nil =>
      have d1 : ((strF []).toList.isEmpty) = true := by rw [strF_toList]; rfl
      have hc0 : ∀ D : ByteArray, D = strF (c :: d) → ∃ h : 0 < D.size, D[0]'h = c := fun D h => by subst h; exact ⟨Nat.succ_pos _, rfl⟩
      obtain ⟨D, hD⟩ : ∃ D, D = strF (c :: d) := ⟨_, rfl⟩
      have hz : D.size = d.length + 1 := by rw [hD]; rfl
      obtain ⟨h0, hc⟩ := hc0 D hD
      have hz0 : (0 : Int) < (D.size : Int) := by omega
      rw [← hD] at d0 H1 HV hdl
      clear hD hc0
      generalize strF [] = R at *
      by_cases e1 : c = 48
      · have d2 : (((D[0]'h0).toNat : Int) == 48) = true := by rw [hc, e1]; rfl
        by_cases e2 : 1 < d.length + 1
        · rw [if_pos (.inr (.inr ⟨e1, e2⟩))]
          have d3 : decide ((1 : Int) < (D.size : Int)) = true := decide_eq_true (by omega)
          clear hc e1
          go_enter Tryz.func65, Tryz.ntmps65
          go_wp2_with fail
          refine H0.out.mono ?_
          rintro e w1 ⟨rfl, hp, hsz, hb⟩
          have HB := Lib.hid hb
          obtain ⟨g, hg⟩ : ∃ g, g = w.heap.size := ⟨_, rfl⟩
          rw [← hg] at hp ⊢
          have HGN := Lib.hid (show w.heap.size ≤ g by rw [hg]; exact Nat.le_refl _)
          have HP := Lib.hid hp
          clear hb hg hp hsz
          go_wp2_with fail
          refine (H1.out w1 g HP.out).mono ?_
          rintro e w2 ⟨rfl, hst⟩
          have HB1 := Lib.hid (HB.out.trans (hst.below.mono HGN.out))
          clear hst
          go_wp2_with fail
          go_ret2
          exact ⟨rfl, HB1.out⟩
        · rw [if_neg (by rintro (h | h | h); cases h; exact h rfl; exact e2 h.2)]
          have d3 : decide ((1 : Int) < (D.size : Int)) = false := decide_eq_false (by omega)
          clear hc e1
          go_enter Tryz.func65, Tryz.ntmps65
          go_wp2_with fail
          refine H0.out.mono ?_
          rintro e w1 ⟨rfl, hp, hsz, hb⟩
          have HB := Lib.hid hb
          obtain ⟨g, hg⟩ : ∃ g, g = w.heap.size := ⟨_, rfl⟩
          rw [← hg] at hp ⊢
          have HGN := Lib.hid (show w.heap.size ≤ g by rw [hg]; exact Nat.le_refl _)
          have HP := Lib.hid hp
          clear hb hg hp hsz
          go_wp2_with fail
          refine (H1.out w1 g HP.out).mono ?_
          rintro e w2 ⟨rfl, hst⟩
          have HB1 := Lib.hid (HB.out.trans (hst.below.mono HGN.out))
          clear hst
          go_wp2_with fail
          refine (HV.out w2).mono ?_
          rintro e w3 ⟨rfl, rfl⟩
          go_wp2_with fail
          go_ret2
          exact ⟨rfl, HB1.out⟩
      · have d2 : (((D[0]'h0).toNat : Int) == 48) = false := by
          rw [hc]
          exact beq_false_of_ne fun q => e1 (UInt8.toNat_inj.1 (by have h : (48 : UInt8).toNat = 48 := rfl; omega))
        rw [if_neg (by rintro (h | h | h); cases h; exact h rfl; exact e1 h.1)]
        clear hc e1
        go_enter Tryz.func65, Tryz.ntmps65
        go_wp2_with fail
        refine H0.out.mono ?_
        rintro e w1 ⟨rfl, hp, hsz, hb⟩
        have HB := Lib.hid hb
        obtain ⟨g, hg⟩ : ∃ g, g = w.heap.size := ⟨_, rfl⟩
        rw [← hg] at hp ⊢
        have HGN := Lib.hid (show w.heap.size ≤ g by rw [hg]; exact Nat.le_refl _)
        have HP := Lib.hid hp
        clear hb hg hp hsz
        go_wp2_with fail
        refine (H1.out w1 g HP.out).mono ?_
        rintro e w2 ⟨rfl, hst⟩
        have HB1 := Lib.hid (HB.out.trans (hst.below.mono HGN.out))
        clear hst
        go_wp2_with fail
        refine (HV.out w2).mono ?_
        rintro e w3 ⟨rfl, rfl⟩
        go_wp2_with fail
        go_ret2
        exact ⟨rfl, HB1.out⟩
end Go.Proofs.YtdjmfkodjjjhfaaGreatDoor
