/- The statement UstarNames of ustar (a tied card) holds of the code. Conditions: the listed library's tables hold what the program's text lays in them (the card ties that); no other. -/
import Derived.Test.YtiihkjloenlfmaaDoorUvh
import Derived.Test.YtiihkjloenlfmaaDoorUn5c
namespace Go.Proofs.YtiihkjloenlfmaaDoor
theorem ustarNames_holds : Rows.UstarNamesCardSaid := UstarNames.over done
#print axioms ustarNames_holds
end Go.Proofs.YtiihkjloenlfmaaDoor
