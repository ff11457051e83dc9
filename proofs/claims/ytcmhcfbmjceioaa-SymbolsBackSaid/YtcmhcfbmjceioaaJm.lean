/- The reference of symbols, walked: Take, from any place; what is asked of the code's functions. -/
import Derived.Test.YtcmhcfbmjceioaaJk
import Derived.Test.YtcmhcfbmjceioaaRo
import Derived.Test.YtcmhcfbmjceioaaIn
import Derived.Test.YtcmhcfbmjceioaaL
namespace Go.Proofs.Ytcmhcfbmjceioaa
open Go.RowKit

def takeAns (l : List Nat) (p : Int) : List UInt8 × Nat × Nat := if p < 0 then ([], 0, 2) else takeL l p.toNat
/-- What Take answers. -/
def TakePost (w : World) (ans : List UInt8 × Nat × Nat) (e : Ending) (w' : World) : Prop := e = .returned (.tuple #[.string (strB ans.1), .int .i64 ans.2.1, .int .i64 ans.2.2]) ∧ Below w.heap.size w w'

set_option maxRecDepth 100000 in
theorem rtake_all (w : World) (A : Option Addr) (n c : Nat) (p : Int) (L : List Nat) (hL : IntsIn w A n L) (hnc : n ≤ c) (hn : n ≤ 10000000) (hp : p ≤ 9223372036854775807) :
    Calls Try.prog 21 #[.slice A n c, .int .i64 p] w (TakePost w (takeAns L p)) := by
  have hlen := hL.1
  by_cases h1 : p < 0
  · have hans : takeAns L p = ([], 0, 2) := if_pos h1
    rw [hans]
    have d1 : decide (p < 0) = true := decide_eq_true h1
    clear hans hL hlen hp
    go_enter Try.func21, Try.ntmps21
    go_wp2_with fail
    go_ret3
    exact ⟨rfl, Below.refl _ _⟩
  · obtain ⟨q, rfl⟩ : ∃ q : Nat, p = q := ⟨p.toNat, by omega⟩
    have hans : takeAns L (q : Int) = takeL L q := by
      unfold takeAns
      rw [if_neg h1, Int.toNat_natCast]
    rw [hans]
    by_cases h2 : n < q
    · have ht : takeL L q = ([], 0, 2) := by
        unfold takeL
        rw [if_pos (by omega)]
      rw [ht]
      have d1 : decide ((q : Int) < 0) = false := decide_eq_false h1
      have d2 : decide ((n : Int) < (q : Int)) = true := decide_eq_true (by omega)
      clear hans hL hlen hp ht h1
      go_enter Try.func21, Try.ntmps21
      go_wp2_with fail
      go_ret3
      exact ⟨rfl, Below.refl _ _⟩
    · by_cases h3 : n < q + 16
      · have ht : takeL L q = ([], 0, 10) := by
          unfold takeL
          rw [if_neg (by omega), if_pos (by omega)]
        rw [ht]
        have d1 : decide ((q : Int) < 0) = false := decide_eq_false h1
        have d2 : decide ((n : Int) < (q : Int)) = false := decide_eq_false (by omega)
        obtain ⟨d, hd⟩ : ∃ d, d = n - q := ⟨_, rfl⟩
        have hdz : (n : Int) - (q : Int) = (d : Int) := by omega
        have hd16 : d < 16 := by omega
        have d3 : decide ((d : Int) < 16) = true := decide_eq_true (by omega)
        clear hans hL hlen hp ht h1 hd h3
        go_enter Try.func21, Try.ntmps21
        go_wp2_with fail
        go_ret3
        exact ⟨rfl, Below.refl _ _⟩
      · exact rtake_any w A n c q L hL hnc hn (by omega)

/-- What is asked of the code's functions, for texts of at most 20000 bytes. -/
structure SymDone : Prop where
  of : ∀ (w : World) (s : ByteArray), s.size ≤ 20000 → Calls Try.prog 10 #[.string s] w fun e w' => e = .returned (.string (strB (ofL s.data.toList))) ∧ Below w.heap.size w w'
  front : ∀ (w : World) (s a : ByteArray), s.size ≤ 20000 → a.size ≤ 20000 → Calls Try.prog 13 #[.string s, .string a] w (FrontPost w s.data.toList a.data.toList)
  back : ∀ (w : World) (A : Option Addr) (n c : Nat) (L : List Int) (a : ByteArray), ZIn w A n L → n ≤ c → n ≤ 20000 → a.size ≤ 20000 → Calls Try.prog 16 #[.slice A n c, .string a] w fun e w' => e = .returned (.tuple #[.string (strB (backAns L a.data.toList).1), .int .i64 (backAns L a.data.toList).2]) ∧ Below w.heap.size w w'
  shows : ∀ (w : World) (a : ByteArray), a.size ≤ 20000 → MayL a.data.toList → Calls Try.prog 18 #[.string a] w (ShowPost w (showL a.data.toList) 0)
  refuses : ∀ (w : World) (a : ByteArray), a.size ≤ 20000 → ¬ MayL a.data.toList → Calls Try.prog 18 #[.string a] w (ShowPost w [] 2)
  take : ∀ (w : World) (s : ByteArray) (p : Int), s.size ≤ 20000 → p ≤ 9223372036854775807 → -9223372036854775808 ≤ p → Calls Try.prog 20 #[.string s, .int .i64 p] w (TakePost w (takeAns (bitsB s.data.toList) p))

end Go.Proofs.Ytcmhcfbmjceioaa
