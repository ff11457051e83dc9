/- The reference of rotate, walked: ahead. -/
import Derived.Test.YtglcideecelemaaGb
import Derived.ChangeMaps5
import Derived.BigQuiet
namespace Go.Proofs.Ytglcideecelemaa
open Go.RowKit

theorem rat_get (s : ByteArray) (k j : Nat) (hj : j = k % s.size) (h : j < s.size) : s[j] = rat s.data.toList k := by
  have hl : s.data.toList.length = s.size := rfl
  have h2 := rat_some s.data.toList j (by rw [hl]; exact h)
  have h3 : s.data.toList[j]? = some s[j] := by
    rw [List.getElem?_eq_getElem (by rw [hl]; exact h)]
    rfl
  rw [h3] at h2
  rw [Option.some.inj h2, hj]
  have := rat_mod s.data.toList k
  rw [hl] at this
  exact this
theorem rlt_first (s : ByteArray) (i j m : Nat) (hi : i < s.size) (hj : j < s.size) (hm : m < s.size) (heq : ∀ k, k < m → rat s.data.toList (i + k) = rat s.data.toList (j + k)) (hne : rat s.data.toList (i + m) ≠ rat s.data.toList (j + m)) :
    decide (RLt s.data.toList i j) = decide (rat s.data.toList (i + m) < rat s.data.toList (j + m)) := by
  by_cases h : rat s.data.toList (i + m) < rat s.data.toList (j + m)
  · have h1 := rotL_lt_first s.data.toList i j m hi hj hm heq h
    rw [decide_eq_true h, decide_eq_true (show RLt s.data.toList i j from .inl h1)]
  · have h2 : rat s.data.toList (j + m) < rat s.data.toList (i + m) := by
      rcases UInt8.lt_or_lt_of_ne hne with h3 | h3
      · exact absurd h3 h
      · exact h3
    have h1 := rotL_lt_first s.data.toList j i m hj hi hm (fun k hk => (heq k hk).symm) h2
    rw [decide_eq_false h, decide_eq_false (fun h3 => RLt.irrefl _ i (h3.trans (.inl h1)))]
theorem rlt_none (s : ByteArray) (i j : Nat) (hi : i < s.size) (hj : j < s.size) (heq : ∀ k, k < s.size → rat s.data.toList (i + k) = rat s.data.toList (j + k)) : decide (RLt s.data.toList i j) = decide (i < j) := by
  have hl : s.data.toList.length = s.size := rfl
  have hr : rotL s.data.toList i = rotL s.data.toList j := by
    refine (rotL_eq _ _ _ (by rw [hl]; omega) (by rw [hl]; omega)).2 fun k => ?_
    have h1 := heq (k % s.size) (Nat.mod_lt _ (by omega))
    have h2 := rat_add s.data.toList i k
    have h3 := rat_add s.data.toList j k
    rw [hl] at h2 h3
    rw [← h2, ← h3]
    exact h1
  by_cases h : i < j
  · rw [decide_eq_true h, decide_eq_true (show RLt s.data.toList i j from .inr ⟨hr, h⟩)]
  · rw [decide_eq_false h, decide_eq_false]
    rintro (h3 | ⟨_, h3⟩)
    · rw [hr] at h3
      exact List.lt_irrefl _ h3
    · exact h h3

set_option maxHeartbeats 1600000 in
set_option maxRecDepth 100000 in
theorem rahead_any (w : World) (s : ByteArray) (i j : Nat) (hi : i < s.size) (hj : j < s.size) (hs : s.size ≤ 1000000) :
    Calls Try.prog 33 #[.string s, .int .i64 i, .int .i64 j] w fun e w' => e = .returned (.bool (decide (RLt s.data.toList i j))) ∧ ∃ m, w' = w.drewN m := by
  go_enter Try.func33, Try.ntmps33
  go_wp2_with fail
  go_loopw [7] (fun x wr => ∃ k : Nat, k ≤ s.size ∧ x = .int .i64 k ∧ (∀ q, q < k → rat s.data.toList (i + q) = rat s.data.toList (j + q)) ∧ ∃ m, wr = w.drewN m) (fun x _ => s.size - (intOf x).toNat)
  case atStart => exact ⟨0, Nat.zero_le _, rfl, fun q h => by omega, 0, rfl⟩
  case round =>
    obtain ⟨k, hk, rfl, heq, m, rfl⟩ := hrel
    have HEQ := Lib.hid heq
    clear heq
    by_cases e1 : k < s.size
    · obtain ⟨a, ha⟩ : ∃ a, a = (i + k) % s.size := ⟨_, rfl⟩
      obtain ⟨b, hb⟩ : ∃ b, b = (j + k) % s.size := ⟨_, rfl⟩
      have hal : a < s.size := by rw [ha]; exact Nat.mod_lt _ (by omega)
      have hbl : b < s.size := by rw [hb]; exact Nat.mod_lt _ (by omega)
      have hma : ((i : Int) + (k : Int)) % (s.size : Int) = (a : Int) := by rw [ha]; simp
      have hmb : ((j : Int) + (k : Int)) % (s.size : Int) = (b : Int) := by rw [hb]; simp
      have hra := rat_get s (i + k) a ha hal
      have hrb := rat_get s (j + k) b hb hbl
      clear ha hb
      by_cases e2 : s[a] = s[b]
      · have q : (((s[a].toNat : Nat) : Int) == ((s[b].toNat : Nat) : Int)) = true := by rw [e2]; simp
        have HK := Lib.hid (show rat s.data.toList (i + k) = rat s.data.toList (j + k) by rw [← hra, ← hrb, e2])
        clear e2 hra hrb
        go_wp2_with fail
        go_roundw
        case rel =>
          refine ⟨k + 1, by omega, by go_num, fun q h1 => ?_, _, rfl⟩
          by_cases e : q = k
          · rw [e]; exact HK.out
          · exact HEQ.out q (by omega)
        case measure => simp [intOf]; omega
      · have q : (((s[a].toNat : Nat) : Int) == ((s[b].toNat : Nat) : Int)) = false := by
          simp only [beq_eq_false_iff_ne, ne_eq]
          intro h
          exact e2 (UInt8.toNat_inj.1 (by omega))
        have hd := rlt_first s i j k hi hj e1 HEQ.out (by rw [← hra, ← hrb]; exact e2)
        rw [← hra, ← hrb] at hd
        have HD := Lib.hid hd
        clear e2 hra hrb hd
        go_wp2_with fail
        go_ret
        refine ⟨?_, _, rfl⟩
        rw [HD.out]
        have hdd : decide (s[a].toNat < s[b].toNat) = decide (s[a] < s[b]) := decide_eq_decide.2 UInt8.lt_iff_toNat_lt.symm
        rw [← hdd]
        rfl
    · obtain rfl : k = s.size := by omega
      have HD := Lib.hid (rlt_none s i j hi hj HEQ.out)
      go_wp2_with fail
      go_ret
      refine ⟨?_, _, rfl⟩
      rw [HD.out]
      rfl

end Go.Proofs.Ytglcideecelemaa
