/- The statement UstarDecodes of ustar (a tied card) holds of the code. Conditions: the listed library's tables hold what the program's text lays in them (the card ties that); no other. -/
import Derived.Test.YtiihkjloenlfmaaDoorUvh
import Derived.Test.YtiihkjloenlfmaaDoorUn1c
namespace Go.Proofs.YtiihkjloenlfmaaDoor
theorem ustarDecodes_holds : Rows.UstarDecodesCardSaid := UstarDecodes.over done
#print axioms ustarDecodes_holds
end Go.Proofs.YtiihkjloenlfmaaDoor
