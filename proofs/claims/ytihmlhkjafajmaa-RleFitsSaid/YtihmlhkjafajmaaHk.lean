/- For every text of at most 400 bytes and every bound the program's Fit answers as the document's does, and awake answers true: RleFits. Conditions: none beyond the statement's own. -/
import Derived.Test.YtihmlhkjafajmaaHh
import Derived.Test.YtihmlhkjafajmaaFe
namespace Go.Proofs.Ytihmlhkjafajmaa

theorem rleFits_holds : Rows.RleFitsSaid := RleFits.over done

end Go.Proofs.Ytihmlhkjafajmaa
