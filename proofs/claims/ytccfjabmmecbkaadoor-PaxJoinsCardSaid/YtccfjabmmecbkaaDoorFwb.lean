/- fields.value: the number that digits say. Conditions: bytes that are decimal digits. -/
import Derived.Test.YtccfjabmmecbkaaDoorFwa
namespace Go.Proofs.YtccfjabmmecbkaaDoor
open Go.RowKit

/-- The number that digits to the base b say; none above 2^53. -/
def valF (b : Nat) : List UInt8 → Nat → Option Nat
  | [], n => some n
  | c :: s, n => if 9007199254740992 < n * b + (c.toNat - 48) then none else valF b s (n * b + (c.toNat - 48))
def valA (b : Nat) (s : List UInt8) : Nat × Nat := match valF b s 0 with
  | none => (0, 3)
  | some n => (n, 0)
/-- Once too great, always. -/
theorem numF_big : ∀ (d r : List UInt8) (n : Nat), 9007199254740992 < n → (∀ c ∈ d, 48 ≤ c.toNat ∧ c.toNat ≤ 55) → (∀ c, r.head? = some c → ¬ (48 ≤ c.toNat ∧ c.toNat ≤ 55)) → numF (d ++ r) n = (n, r)
  | [], [], n, _, _, _ => rfl
  | [], c :: r, n, _, _, h => by
    rw [List.nil_append, numF, if_neg (h c rfl)]
  | c :: d, r, n, hn, hd, h => by
    rw [List.cons_append, numF, if_pos (hd c List.mem_cons_self), if_neg (by omega)]
    exact numF_big d r n hn (fun c hc => hd c (List.mem_cons_of_mem _ hc)) h
theorem numF_val : ∀ (d r : List UInt8) (n : Nat), n ≤ 9007199254740992 → (∀ c ∈ d, 48 ≤ c.toNat ∧ c.toNat ≤ 55) → (∀ c, r.head? = some c → ¬ (48 ≤ c.toNat ∧ c.toNat ≤ 55)) →
    (numF (d ++ r) n).2 = r ∧ (match valF 8 d n with | none => 9007199254740992 < (numF (d ++ r) n).1 | some m => (numF (d ++ r) n).1 = m ∧ m ≤ 9007199254740992)
  | [], [], n, hn, _, _ => ⟨rfl, rfl, hn⟩
  | [], c :: r, n, hn, _, h => by
    rw [List.nil_append, numF, if_neg (h c rfl)]
    exact ⟨rfl, rfl, hn⟩
  | c :: d, r, n, hn, hd, h => by
    rw [List.cons_append, numF, if_pos (hd c List.mem_cons_self), if_pos hn, valF, Nat.mul_comm n 8]
    by_cases e : 9007199254740992 < 8 * n + (c.toNat - 48)
    · rw [if_pos e, numF_big d r _ e (fun c hc => hd c (List.mem_cons_of_mem _ hc)) h]
      exact ⟨rfl, e⟩
    · rw [if_neg e]
      exact numF_val d r _ (by omega) (fun c hc => hd c (List.mem_cons_of_mem _ hc)) h
theorem decF_big : ∀ (d : List UInt8) (n : Nat), 9007199254740992 < n → (∀ c ∈ d, 48 ≤ c.toNat ∧ c.toNat ≤ 57) → decF d n = some n
  | [], n, _, _ => rfl
  | c :: d, n, hn, hd => by
    have := hd c List.mem_cons_self
    rw [decF, if_neg (by omega), if_neg (by omega)]
    exact decF_big d n hn fun c hc => hd c (List.mem_cons_of_mem _ hc)
theorem decF_val : ∀ (d : List UInt8) (n : Nat), n ≤ 9007199254740992 → (∀ c ∈ d, 48 ≤ c.toNat ∧ c.toNat ≤ 57) → ∃ m, decF d n = some m ∧ (match valF 10 d n with | none => 9007199254740992 < m | some k => m = k ∧ k ≤ 9007199254740992)
  | [], n, hn, _ => ⟨n, rfl, rfl, hn⟩
  | c :: d, n, hn, hd => by
    have := hd c List.mem_cons_self
    rw [decF, if_neg (by omega), if_pos hn, valF, Nat.mul_comm n 10]
    by_cases e : 9007199254740992 < 10 * n + (c.toNat - 48)
    · rw [if_pos e]
      exact ⟨_, decF_big d _ e fun c hc => hd c (List.mem_cons_of_mem _ hc), e⟩
    · rw [if_neg e]
      exact decF_val d _ (by omega) fun c hc => hd c (List.mem_cons_of_mem _ hc)
theorem decF_none : ∀ (d : List UInt8) (c : UInt8) (r : List UInt8) (n : Nat), ¬ (48 ≤ c.toNat ∧ c.toNat ≤ 57) → decF (d ++ c :: r) n = none
  | [], c, r, n, h => by
    rw [List.nil_append, decF, if_pos (by omega)]
  | x :: d, c, r, n, h => by
    rw [List.cons_append, decF]
    split
    · rfl
    · exact decF_none d c r _ h
set_option maxRecDepth 100000 in
/-- The number so far, of the first q digits. -/
theorem valF_take (b : Nat) : ∀ (s : List UInt8) (q n m : Nat), q < s.length → valF b (s.take q) n = some m → valF b s n = valF b (s.drop q) m
  | s, 0, n, m, _, h => by
    have : n = m := Option.some.inj h
    rw [this]
    rfl
  | [], q + 1, n, m, hq, h => by cases hq
  | c :: s, q + 1, n, m, hq, h => by
    rw [List.take_succ_cons, valF] at h
    rw [valF, List.drop_succ_cons]
    by_cases e : 9007199254740992 < n * b + (c.toNat - 48)
    · rw [if_pos e] at h
      cases h
    · rw [if_neg e] at h ⊢
      exact valF_take b s q _ m (by simpa using hq) h

set_option maxHeartbeats 1600000 in
set_option maxRecDepth 100000 in
theorem value_walk (w : World) (s : ByteArray) (b : Nat) (hs : s.size ≤ 140737488355328) (_ : 2 ≤ b) (hb : b ≤ 10) (hd : ∀ c ∈ s.data.toList, 48 ≤ c.toNat ∧ c.toNat ≤ 57) :
    Calls Tryd.prog 29 #[.string s, .int .i64 b] w fun e w' => e = .returned (.tuple #[.int .i64 (valA b s.data.toList).1, .int .i64 (valA b s.data.toList).2]) ∧ w' = w := by
  have HD := Lib.hid hd
  have HA : Hid (∀ v, v = valF b s.data.toList 0 → (valA b s.data.toList) = match v with | none => (0, 3) | some n => (n, 0)) := Lib.hid fun v hv => by subst hv; rfl
  generalize hans : valA b s.data.toList = ans at *
  clear hd hans
  go_enter Tryd.func29, Tryd.ntmps29
  go_wp2_with fail
  go_loopw [6, 10] (fun sv si wx => ∃ q v : Nat, sv = .int .i64 v ∧ si = .int .i64 q ∧ q ≤ s.size ∧ v ≤ 9007199254740992 ∧ wx = w ∧ Hid (valF b s.data.toList 0 = valF b (s.data.toList.drop q) v)) (fun _ si _ => s.size - (intOf si).toNat)
  case atStart => exact ⟨0, 0, rfl, rfl, Nat.zero_le _, Nat.zero_le _, rfl, Lib.hid rfl⟩
  case round =>
    obtain ⟨q, v, rfl, rfl, hq, hv, rfl, HV⟩ := hrel
    have HVB := Lib.hid hv
    by_cases e : q < s.size
    · have d0 : decide ((q : Int) < (s.size : Int)) = true := decide_eq_true (by omega)
      have hqz : (q : Int) < s.size := by omega
      have hmem := HD.out s[q] (by rw [← fbyte s q e, List.getD_eq_getElem?_getD, List.getElem?_eq_getElem (by show q < s.size; exact e)]; exact List.getElem_mem _)
      have hdrop : s.data.toList.drop q = s[q] :: s.data.toList.drop (q + 1) := by
        rw [← fbyte s q e, List.getD_eq_getElem?_getD, List.getElem?_eq_getElem (by show q < s.size; exact e)]
        exact List.drop_eq_getElem_cons _
      have hnext := HV.out
      rw [hdrop, valF] at hnext
      have hcn := s[q].toNat_lt
      have hm : v * b ≤ 9007199254740992 * 10 := Nat.mul_le_mul hv hb
      obtain ⟨z, hz⟩ : ∃ z, z = v * b := ⟨_, rfl⟩
      rw [← hz] at hm hnext
      have hzi : (v : Int) * (b : Int) = (z : Int) := by rw [hz]; exact (Int.natCast_mul v b).symm
      have h48 := hmem.1
      have h57 := hmem.2
      obtain ⟨x, hx⟩ : ∃ x, x = s[q].toNat - 48 := ⟨_, rfl⟩
      rw [← hx] at hnext
      have hxi : (s[q].toNat : Int) - 48 = (x : Int) := by omega
      have hx9 : x ≤ 9 := by omega
      obtain ⟨y, hy⟩ : ∃ y, y = z + x := ⟨_, rfl⟩
      rw [← hy] at hnext
      have hyi : (z : Int) + (x : Int) = (y : Int) := by omega
      have hyb : y ≤ 90071992547409929 := by omega
      have HQ := Lib.hid e
      clear hz hdrop hmem hv hx hy
      by_cases e2 : 9007199254740992 < y
      · have d1 : decide ((9007199254740992 : Int) < (y : Int)) = true := decide_eq_true (by omega)
        rw [if_pos e2] at hnext
        have ha := Lib.hid (HA.out none hnext.symm)
        clear hnext
        go_wp2_with fail
        rw [ha.out]
        go_ret2
        exact ⟨rfl, rfl⟩
      · have d1 : decide ((9007199254740992 : Int) < (y : Int)) = false := decide_eq_false (by omega)
        rw [if_neg e2] at hnext
        have HN := Lib.hid hnext
        clear hnext
        go_wp2_with fail
        go_roundw
        case rel => exact ⟨q + 1, y, rfl, by go_num, by omega, by omega, by first | rfl | trivial, HN⟩
        case measure => simp [intOf]; omega
    · have hqs : q = s.size := by omega
      have d0 : decide ((q : Int) < (s.size : Int)) = false := decide_eq_false (by omega)
      have hfin : valF b s.data.toList 0 = some v := by
        rw [HV.out, List.drop_eq_nil_of_le (by show s.size ≤ q; omega)]
        rfl
      have ha := Lib.hid (HA.out _ hfin.symm)
      clear hqs hfin
      go_wp2_with fail
      rw [ha.out]
      go_ret2
      exact ⟨rfl, rfl⟩
end Go.Proofs.YtccfjabmmecbkaaDoor
