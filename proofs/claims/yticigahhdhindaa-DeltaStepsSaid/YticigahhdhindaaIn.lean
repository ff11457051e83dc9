/- Two lists of numbers held against each other, as law 4 does (kistlaw04.Ints). Conditions: at most a million numbers. -/
import Derived.Test.YticigahhdhindaaI
namespace Go.Proofs.Yticigahhdhindaa
open Go.RowKit

set_option maxHeartbeats 1600000 in
set_option maxRecDepth 100000 in
theorem ints_same (w : World) (A B : Option Addr) (n c d : Nat) (L : List Nat) (h : IntsIn w A n L) (k : IntsIn w B n L) (hn : n ≤ 1000000) :
    Calls Try.prog 14 #[.slice A n c, .slice B n d] w fun e w' => e = .returned (.bool true) ∧ ∃ m, w' = w.drewN m := by
  have d0 : ((n : Int) != (n : Int)) = false := by simp
  have H := Lib.hid h
  have K := Lib.hid k
  clear h k
  go_enter Try.func14, Try.ntmps14
  go_wp2_with fail
  go_loopw [5] (fun x wr => ∃ q : Nat, q ≤ n ∧ x = .int .i64 q ∧ ∃ m, wr = w.drewN m) (fun x _ => n - (intOf x).toNat)
  case atStart => exact ⟨0, Nat.zero_le _, rfl, 0, rfl⟩
  case round =>
    obtain ⟨q, hq, rfl, hd⟩ := hrel
    have HD := Lib.hid hd
    by_cases e : q < n
    · obtain ⟨b1, o1, rfl, hc1⟩ := H.out.2 (by omega)
      obtain ⟨b2, o2, rfl, hc2⟩ := K.out.2 (by omega)
      have c1 : wr.cell? ⟨b1, o1 + q, none⟩ = some (.int .i64 (L.getD q 0)) := by obtain ⟨m, rfl⟩ := hd; exact hc1 q e
      have c2 : wr.cell? ⟨b2, o2 + q, none⟩ = some (.int .i64 (L.getD q 0)) := by obtain ⟨m, rfl⟩ := hd; exact hc2 q e
      obtain ⟨v, hv⟩ : ∃ v, v = L.getD q 0 := ⟨_, rfl⟩
      rw [← hv] at c1 c2
      clear hv hd hc1 hc2
      have d1 : decide ((q : Int) < (n : Int)) = true := decide_eq_true (by omega)
      have d2 : ((v : Int) != (v : Int)) = false := by simp
      go_wp2_with fail
      go_quiet (fail)
      go_wp2_with fail
      go_roundw
      case rel =>
        obtain ⟨m, hm⟩ := HD.out
        exact ⟨q + 1, by omega, by go_num, m + nq, by rw [hm]; simp⟩
      case measure => simp [intOf]; omega
    · have d1 : decide ((q : Int) < (n : Int)) = false := decide_eq_false (by omega)
      clear hd
      go_wp2_with fail
      go_ret
      exact ⟨rfl, HD.out⟩

end Go.Proofs.Yticigahhdhindaa
