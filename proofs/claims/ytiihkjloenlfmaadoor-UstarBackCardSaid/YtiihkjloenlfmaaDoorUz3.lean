/- The statement UstarBack of ustar (a tied card) holds of the code. Conditions: the listed library's tables hold what the program's text lays in them (the card ties that); no other. -/
import Derived.Test.YtiihkjloenlfmaaDoorUvh
import Derived.Test.YtiihkjloenlfmaaDoorUn3c
namespace Go.Proofs.YtiihkjloenlfmaaDoor
theorem ustarBack_holds : Rows.UstarBackCardSaid := UstarBack.over done
#print axioms ustarBack_holds
end Go.Proofs.YtiihkjloenlfmaaDoor
