/- How long the run at a text's beginning is, as the program counts it; what a run is written in. No conditions. -/
import Derived.Test.YtihmlhkjafajmaaEe
namespace Go.Proofs.Ytihmlhkjafajmaa
open Go.RowKit

theorem headRun_runN (x : UInt8) (l : List UInt8) : headRun (x :: l) = 0 + runN x (255 - 0) ((x :: l).drop 0) := by
  show runN x 254 l + 1 = 0 + runN x (254 + 1) (x :: l)
  rw [runN, if_pos rfl]
  omega
theorem head_more (l : List UInt8) (k : Nat) (x y : UInt8) (hy : l[k]? = some y) (he : y = x) (h255 : k < 255) (h : headRun l = k + runN x (255 - k) (l.drop k)) :
    headRun l = (k + 1) + runN x (255 - (k + 1)) (l.drop (k + 1)) := by
  have hlt : k < l.length := by
    rcases Nat.lt_or_ge k l.length with h1 | h1
    · exact h1
    · rw [List.getElem?_eq_none h1] at hy; cases hy
  have hd : l.drop k = y :: l.drop (k + 1) := by
    rw [List.drop_eq_getElem_cons hlt]
    rw [List.getElem?_eq_getElem hlt] at hy
    rw [Option.some.inj hy]
  rw [h, hd, show 255 - k = (255 - (k + 1)) + 1 by omega, runN, if_pos he]
  omega

set_option maxHeartbeats 1600000 in
set_option maxRecDepth 1000000 in
theorem crun_any (w : World) (t : ByteArray) (hs : t.size ≤ 9223372036854775807) :
    Calls Try.prog 16 #[.string t] w fun e w' => e = .returned (.int .i64 (headRun t.data.toList)) ∧ Below w.heap.size w w' := by
  go_enter Try.func16, Try.ntmps16
  go_wp2_with fail
  go_loopw [3] (fun i wx => ∃ k : Nat, k ≤ 255 ∧ k ≤ t.size ∧ i = .int .i64 k ∧ (∀ h : 0 < t.size, headRun t.data.toList = k + runN t[0] (255 - k) (t.data.toList.drop k)) ∧ Below w.heap.size w wx) (fun i _ => 255 - (intOf i).toNat)
  case atStart =>
    refine ⟨0, by omega, by omega, rfl, fun h => ?_, Below.refl _ _⟩
    rw [list_head t h]
    exact headRun_runN _ _
  case round =>
    obtain ⟨k, h1, h2, rfl, hk, hbx⟩ := hrel
    have HBX := Lib.hid hbx
    clear hbx
    by_cases e1 : k < t.size
    · have h0 : 0 < t.size := by omega
      have hk' := hk h0
      clear hk
      by_cases e2 : k < 255
      · by_cases e3 : t[k] = t[0]
        · have HK := Lib.hid (head_more t.data.toList k t[0] t[k] (data_get t k e1) e3 e2 hk')
          have q : (((t[k].toNat : Nat) : Int) == ((t[0].toNat : Nat) : Int)) = true := by rw [e3]; simp
          clear hk'
          have d2 : decide ((k : Int) < if (255 : Int) < (t.size : Int) then 255 else (t.size : Int)) = true := decide_eq_true (by split <;> omega)
          go_wp2_with fail
          go_region
          go_wp2_with fail
          go_roundw
          case rel => exact ⟨k + 1, by omega, by omega, by go_num, fun _ => HK.out, below_drewN HBX.out 1⟩
          case measure => simp [intOf]; omega
        · have HK := Lib.hid (headRun_end t.data.toList k t[0] hk' (.inr (.inr ⟨t[k], data_get t k e1, e3⟩)))
          have q : (((t[k].toNat : Nat) : Int) == ((t[0].toNat : Nat) : Int)) = false := by
            simp only [beq_eq_false_iff_ne, ne_eq]
            intro h
            exact e3 (UInt8.toNat_inj.1 (by omega))
          clear hk' e3
          have d2 : decide ((k : Int) < if (255 : Int) < (t.size : Int) then 255 else (t.size : Int)) = true := decide_eq_true (by split <;> omega)
          go_wp2_with fail
          go_region
          go_wp2_with fail
          all_goals (
            go_ret
            exact ⟨by rw [HK.out]; rfl, below_drewN HBX.out 1⟩)
      · have HK := Lib.hid (headRun_end t.data.toList k t[0] hk' (.inr (.inl (by omega))))
        clear hk'
        have d0 : (255 : Int) < (t.size : Int) := by omega
        have d2 : decide ((k : Int) < 255) = false := decide_eq_false (by omega)
        go_wp2_with fail
        go_region
        go_wp2_with fail
        go_ret
        exact ⟨by rw [HK.out]; rfl, below_drewN HBX.out 1⟩
    · have hz : headRun t.data.toList = k := by
        by_cases h0 : 0 < t.size
        · exact headRun_end t.data.toList k t[0] (hk h0) (.inl (by show t.size ≤ k; omega))
        · have ht : t.data.toList = [] := List.eq_nil_of_length_eq_zero (by show t.size = 0; omega)
          rw [ht]
          show 0 = k
          omega
      have HK := Lib.hid hz
      clear hk hz
      have d2 : decide ((k : Int) < if (255 : Int) < (t.size : Int) then 255 else (t.size : Int)) = false := decide_eq_false (by split <;> omega)
      go_wp2_with fail
      go_region
      go_wp2_with fail
      go_ret
      exact ⟨by rw [HK.out]; rfl, below_drewN HBX.out 1⟩

theorem cwritten_any (w : World) (k : Nat) (hk : k ≤ 255) : Calls Try.prog 20 #[.int .i64 k] w fun e w' => e = .returned (.int .i64 ((if k < 4 then k else 5 : Nat) : Int)) ∧ w = w' := by
  by_cases h : k < 4
  · rw [if_pos h]
    go_enter Try.func20, Try.ntmps20
    go_wp2_with fail
    go_ret
    exact ⟨rfl, rfl⟩
  · rw [if_neg h]
    go_enter Try.func20, Try.ntmps20
    go_wp2_with fail
    go_ret
    exact ⟨rfl, rfl⟩

end Go.Proofs.Ytihmlhkjafajmaa
