/- For every text of at most 4000 bytes the program's Decode answers as the document's does, and awake answers true: RleDecodes. Conditions: none beyond the statement's own. -/
import Derived.Test.YtihmlhkjafajmaaHh
import Derived.Test.YtihmlhkjafajmaaFe
namespace Go.Proofs.Ytihmlhkjafajmaa

theorem rleDecodes_holds : Rows.RleDecodesSaid := RleDecodes.over done

end Go.Proofs.Ytihmlhkjafajmaa
