/- The laws' plain part: what the code tells is what the reference tells. -/
import Derived.Test.YtkhabmbclepjpaaDi
import Derived.Test.YtkhabmbclepjpaaL
import Derived.ChangeMaps5
namespace Go.Proofs.Ytkhabmbclepjpaa
open Go.RowKit

theorem bzip_same (l : List UInt8) : bzipN l = 4294967295 - crcFold 4294967295 l := by
  unfold bzipN
  rw [moreN_fold _ _ (by decide)]
theorem pack_turn (l : List UInt8) : pack (turnB l) = l.map r8 := by
  induction l with
  | nil => rfl
  | cons c l ih =>
    have h : c :: l = [c] ++ l := rfl
    rw [h, turnB_append, turnB_one, pack_cons8 _ _ (by rw [List.length_reverse, bitsN_length]), ih]
    rfl
theorem ieee_same (l : List UInt8) : ieeeN l = ieeeF l := by
  unfold ieeeN ieeeF
  rw [pack_turn, rev32_val, bzip_same]

end Go.Proofs.Ytkhabmbclepjpaa
