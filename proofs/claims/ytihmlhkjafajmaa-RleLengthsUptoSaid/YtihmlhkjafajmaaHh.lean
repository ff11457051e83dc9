/- What the program's calls of rle do, together: texts of at most 2097152 bytes. -/
import Derived.Test.YtihmlhkjafajmaaHg
import Derived.Test.YtihmlhkjafajmaaFa
namespace Go.Proofs.Ytihmlhkjafajmaa

theorem done : RleDone where
  enc := cenc_any
  dec := cdec_any
  fit := fun w s most hs h1 h2 => cfit_any w s most hs h1 h2

end Go.Proofs.Ytihmlhkjafajmaa
