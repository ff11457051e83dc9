/- The statement UstarTurned of ustar (a tied card) holds of the code. Conditions: the listed library's tables hold what the program's text lays in them (the card ties that); no other. -/
import Derived.Test.YtiihkjloenlfmaaDoorUvh
import Derived.Test.YtiihkjloenlfmaaDoorUn4c
namespace Go.Proofs.YtiihkjloenlfmaaDoor
theorem ustarTurned_holds : Rows.UstarTurnedCardSaid := UstarTurned.over done
#print axioms ustarTurned_holds
end Go.Proofs.YtiihkjloenlfmaaDoor
