/- What the program's Encode wrote, its Decode reads as it was, for texts of at most MaxText bytes: RleBack. Conditions: none beyond the statement's own. -/
import Derived.Test.YtihmlhkjafajmaaHh
import Derived.Test.YtihmlhkjafajmaaFe
namespace Go.Proofs.Ytihmlhkjafajmaa

theorem rleBack_holds : Rows.RleBackSaid := RleBack.over done

end Go.Proofs.Ytihmlhkjafajmaa
