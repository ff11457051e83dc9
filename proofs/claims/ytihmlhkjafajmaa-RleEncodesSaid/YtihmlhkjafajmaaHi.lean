/- For every text of at most 5000 bytes the program's Encode answers as the document's does, and awake answers true: RleEncodes. Conditions: none beyond the statement's own. -/
import Derived.Test.YtihmlhkjafajmaaHh
import Derived.Test.YtihmlhkjafajmaaFe
namespace Go.Proofs.Ytihmlhkjafajmaa

theorem rleEncodes_holds : Rows.RleEncodesSaid := RleEncodes.over done

end Go.Proofs.Ytihmlhkjafajmaa
