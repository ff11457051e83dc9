/- RotateOrders and RotateRanks hold: for every input the law returns true. No conditions. -/
import Derived.Test.YtgoghcdigkgkmaaKp
import Derived.Test.YtgoghcdigkgkmaaPs
namespace Go.Proofs.Ytgoghcdigkgkmaa

theorem rotateOrders_holds : Rows.RotateOrdersSaid := RotateOrders.over (sort_any.less (by omega))
theorem rotateRanks_holds : Rows.RotateRanksSaid := RotateRanks.over (sort_any.less (by omega))

end Go.Proofs.Ytgoghcdigkgkmaa
