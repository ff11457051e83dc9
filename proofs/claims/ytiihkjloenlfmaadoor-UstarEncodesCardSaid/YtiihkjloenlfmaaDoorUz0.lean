/- The statement UstarEncodes of ustar (a tied card) holds of the code. Conditions: the listed library's tables hold what the program's text lays in them (the card ties that); no other. -/
import Derived.Test.YtiihkjloenlfmaaDoorUvh
import Derived.Test.YtiihkjloenlfmaaDoorUn0c
namespace Go.Proofs.YtiihkjloenlfmaaDoor
theorem ustarEncodes_holds : Rows.UstarEncodesCardSaid := UstarEncodes.over done
#print axioms ustarEncodes_holds
end Go.Proofs.YtiihkjloenlfmaaDoor
