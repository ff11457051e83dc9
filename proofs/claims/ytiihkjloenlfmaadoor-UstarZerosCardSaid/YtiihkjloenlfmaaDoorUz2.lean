/- The statement UstarZeros of ustar (a tied card) holds of the code. Conditions: the listed library's tables hold what the program's text lays in them (the card ties that); no other. -/
import Derived.Test.YtiihkjloenlfmaaDoorUvh
import Derived.Test.YtiihkjloenlfmaaDoorUn2c
namespace Go.Proofs.YtiihkjloenlfmaaDoor
theorem ustarZeros_holds : Rows.UstarZerosCardSaid := UstarZeros.over done
#print axioms ustarZeros_holds
end Go.Proofs.YtiihkjloenlfmaaDoor
