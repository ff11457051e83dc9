/- The reference of rotate, walked: Rank. Conditions: at most a million bytes. -/
import Derived.Test.YtgoghcdigkgkmaaGi
import Derived.Test.YtgoghcdigkgkmaaKl
namespace Go.Proofs.Ytgoghcdigkgkmaa
open Go.RowKit

set_option maxHeartbeats 1600000 in
set_option maxRecDepth 100000 in
theorem rrank_any (w : World) (s : ByteArray) (i : Nat) (hi : i < s.size) (hs : s.size ≤ 1000000) : Calls Try.prog 16 #[.string s, .int .i64 i] w (RankPost w s.data.toList i) := by
  have hsl : s.data.toList.length = s.size := rfl
  have HO := Lib.hid (rord_any w s hs)
  have HSL := Lib.hid hsl
  have d1 : decide ((i : Int) < 0) = false := decide_eq_false (by omega)
  have d2 : decide ((s.size : Int) ≤ (i : Int)) = false := decide_eq_false (by omega)
  clear hsl
  go_enter Try.func16, Try.ntmps16
  go_wp2_with fail
  refine HO.out.mono ?_
  rintro e w2 ⟨A, c, L, rfl, hown, hord, hb⟩
  obtain ⟨k, hk, hv, hlow⟩ := isRank_find hord i (by rw [HSL.out]; exact hi)
  have hlL : L.length = s.size := (isOrd_length hord).trans HSL.out
  have hin := (ints_of_own hown).2 (by omega)
  obtain ⟨g, o, rfl, hc⟩ := hin
  have HC := Lib.hid hc
  have HR := Lib.hid (show IsRank s.data.toList i k from ⟨L, hord, hk, hv⟩)
  have HB := Lib.hid hb
  have HV := Lib.hid hv
  have HLOW := Lib.hid hlow
  obtain ⟨n, hn⟩ : ∃ n, n = L.length := ⟨_, rfl⟩
  rw [← hn] at hk hlL ⊢
  have HN := Lib.hid hn
  have hn6 : n ≤ 1000000 := by omega
  clear hown hord hb hc hv hlow hn hlL
  go_wp2_with fail
  go_loop [7] (fun x => ∃ q : Nat, q ≤ k ∧ x = .int .i64 q) (fun x => n - (intOf x).toNat)
  case atStart => exact ⟨0, Nat.zero_le _, rfl⟩
  case round =>
    obtain ⟨q, hq, rfl⟩ := hrel
    have hcq := HC.out q (by rw [← HN.out]; omega)
    have d3 : decide ((q : Int) < (n : Int)) = true := decide_eq_true (by omega)
    by_cases e : q = k
    · subst e
      rw [HV.out] at hcq
      have d4 : ((i : Int) == (i : Int)) = true := beq_self_eq_true _
      go_wp2_with fail
      go_ret2
      exact ⟨q, rfl, HR.out, HB.out⟩
    · have hne := HLOW.out q (by omega)
      obtain ⟨v, hvv⟩ : ∃ v, v = L.getD q 0 := ⟨_, rfl⟩
      rw [← hvv] at hcq hne
      clear hvv
      have d4 : ((v : Int) == (i : Int)) = false := beq_false_of_ne (by omega)
      go_wp2_with fail
      go_round
      case rel => exact ⟨q + 1, by omega, by go_num⟩
      case measure => simp [intOf]; omega

set_option maxRecDepth 100000 in
theorem rrank_arg (w : World) (s : ByteArray) (i : Int) (h : i < 0 ∨ (s.size : Int) ≤ i) : Calls Try.prog 16 #[.string s, .int .i64 i] w fun e w' => e = .returned (.tuple #[.int .i64 0, .int .i64 2]) ∧ w = w' := by
  by_cases h1 : i < 0
  · have d1 : decide (i < 0) = true := decide_eq_true h1
    clear h
    go_enter Try.func16, Try.ntmps16
    go_wp2_with fail
    go_ret2
    exact ⟨rfl, rfl⟩
  · have h2 : (s.size : Int) ≤ i := by omega
    have d1 : decide (i < 0) = false := decide_eq_false h1
    have d2 : decide ((s.size : Int) ≤ i) = true := decide_eq_true h2
    clear h
    go_enter Try.func16, Try.ntmps16
    go_wp2_with fail
    go_ret2
    exact ⟨rfl, rfl⟩

end Go.Proofs.Ytgoghcdigkgkmaa
