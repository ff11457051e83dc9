/- RotateCmps, RotatePeriods, RotateTwice hold: for every input the law returns true. No conditions. -/
import Derived.Test.YtgoghcdigkgkmaaKn
import Derived.Test.YtgoghcdigkgkmaaPc
namespace Go.Proofs.Ytgoghcdigkgkmaa

theorem rotateCmps_holds : Rows.RotateCmpsSaid := RotateCmps.over (sort_twelve.less (by omega))
theorem rotatePeriods_holds : Rows.RotatePeriodsSaid := RotatePeriods.over (sort_twelve.less (by omega))
theorem rotateTwice_holds : Rows.RotateTwiceSaid := RotateTwice.over (sort_twelve.less (by omega))

end Go.Proofs.Ytgoghcdigkgkmaa
