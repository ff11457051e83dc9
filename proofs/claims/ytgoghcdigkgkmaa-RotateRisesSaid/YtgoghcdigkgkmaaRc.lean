/- RotateRises holds: for every input the law returns true. No conditions. -/
import Derived.Test.YtgoghcdigkgkmaaRb
import Derived.Test.YtgoghcdigkgkmaaPs
namespace Go.Proofs.Ytgoghcdigkgkmaa

theorem rotateRises_holds : Rows.RotateRisesSaid := RotateRises.over (sort_any.less (by omega)) (sort_any.less (by omega))

end Go.Proofs.Ytgoghcdigkgkmaa
