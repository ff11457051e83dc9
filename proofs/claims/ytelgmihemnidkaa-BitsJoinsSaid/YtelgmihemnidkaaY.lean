/- mayBe tells whether bits may be. Conditions: a text of at most a million bytes. -/
import Derived.Test.YtelgmihemnidkaaN
import Derived.Test.YtelgmihemnidkaaX
import Derived.BigRegion
namespace Go.Proofs.Ytelgmihemnidkaa
open Go.RowKit

def MayPost (w : World) (b : Bool) (e : Ending) (w' : World) : Prop := e = .returned (.bool b) ∧ Below w.heap.size w w'

theorem may_walk (w : World) (s : ByteArray) (n : Int) (hs : s.size ≤ 1000000) (hn : -9223372036854775808 ≤ n ∧ n ≤ 9223372036854775807) :
    Calls Try.prog 34 #[.agg #[.string s, .int .i64 n]] w (MayPost w (mayB s n)) := by
  have hbl : Below w.heap.size w (w.alloc (.cells #[.string s, .int .i64 n] 54)) := (Below.refl _ _).alloc (Nat.le_refl _) _
  by_cases hneg : n < 0
  · rw [may_neg s n hneg]
    go_enter Try.func34, Try.ntmps34
    go_wp2
    go_ret
    exact ⟨rfl, hbl⟩
  obtain ⟨k, rfl⟩ := Int.eq_ofNat_of_zero_le (show 0 ≤ n by omega)
  by_cases h8 : k % 8 = 0
  · have hb : ((s.size : Int) == (k : Int) / 8) = mayB s k := by
      rw [may_whole s k h8, Bool.eq_iff_iff, beq_iff_eq, decide_eq_true_iff]; omega
    have hd : ((k : Int) % 8 == 0) = true := by rw [beq_iff_eq]; omega
    rw [← hb]
    have HB := Lib.hid hb
    have H8 := Lib.hid h8
    clear hb h8
    go_enter Try.func34, Try.ntmps34
    go_wp2
    go_region
    go_wp2
    go_ret
    exact ⟨rfl, by first | exact hbl | exact hbl.drew⟩
  have hd : ((k : Int) % 8 == 0) = false := by rw [beq_eq_false_iff_ne]; omega
  by_cases h1 : s.size = k / 8 + 1
  · have hlt : k / 8 < s.size := by omega
    have hb : ((s[k / 8].toNat : Int) * 2 ^ (k % 8) % 256 == 0) = mayB s k := by
      rw [may_rest s k h8 h1 hlt, Bool.eq_iff_iff, beq_iff_eq, decide_eq_true_iff]
      have e : ((s[k / 8].toNat : Int) * 2 ^ (k % 8) % 256) = ((s[k / 8].toNat * 2 ^ (k % 8) % 256 : Nat) : Int) := by rw [Int.natCast_emod, Int.natCast_mul, Int.natCast_pow]; rfl
      rw [e]
      omega
    have hq : ((s.size : Int) == (k : Int) / 8 + 1) = true := by rw [beq_iff_eq]; omega
    have hi0 : 0 ≤ (k : Int) / 8 := by omega
    have hi1 : (k : Int) / 8 < s.size := by omega
    rw [← hb]
    have HB := Lib.hid hb
    have H8 := Lib.hid h8
    have H1 := Lib.hid h1
    clear hb h8 h1
    go_enter Try.func34, Try.ntmps34
    go_wp2
    go_region
    go_wp2
    go_ret
    exact ⟨rfl, by first | exact hbl | exact hbl.drew⟩
  · have hq : ((s.size : Int) == (k : Int) / 8 + 1) = false := by rw [beq_eq_false_iff_ne]; omega
    rw [may_rest_no s k h8 h1]
    have H8 := Lib.hid h8
    have H1 := Lib.hid h1
    clear h8 h1
    go_enter Try.func34, Try.ntmps34
    go_wp2
    go_region
    go_wp2
    go_ret
    exact ⟨rfl, by first | exact hbl | exact hbl.drew⟩

end Go.Proofs.Ytelgmihemnidkaa
