/- What Fit says to fit is written into so many bytes, and with a byte more it would not be: RleCuts. Conditions: the arguments are of bulk at most 1048576 (the statement's second form): Encode makes more than comes in. -/
import Derived.Test.YtihmlhkjafajmaaHh
import Derived.Test.YtihmlhkjafajmaaFf
namespace Go.Proofs.Ytihmlhkjafajmaa

theorem rleCuts_holds : Rows.RleCutsUptoSaid := RleCutsU.over done

end Go.Proofs.Ytihmlhkjafajmaa
