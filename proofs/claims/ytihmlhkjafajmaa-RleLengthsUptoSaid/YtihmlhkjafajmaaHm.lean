/- Encode makes a text at most a quarter longer; a byte more makes it as long, or one or two bytes longer: RleLengths. Conditions: the arguments are of bulk at most 1048576 (the statement's second form): Encode makes more than comes in. -/
import Derived.Test.YtihmlhkjafajmaaHh
import Derived.Test.YtihmlhkjafajmaaFf
namespace Go.Proofs.Ytihmlhkjafajmaa

theorem rleLengths_holds : Rows.RleLengthsUptoSaid := RleLengthsU.over done

end Go.Proofs.Ytihmlhkjafajmaa
