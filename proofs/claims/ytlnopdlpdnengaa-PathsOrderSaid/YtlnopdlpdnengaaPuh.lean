/- Stage 14: each of the six statements about paths holds of the landed code. Conditions: none but the given statements' own. -/
import Derived.Test.YtlnopdlpdnengaaPth
import Derived.Test.YtlnopdlpdnengaaPue
import Derived.Test.YtlnopdlpdnengaaPuf
import Derived.Test.YtlnopdlpdnengaaPug
namespace Go.Proofs.Ytlnopdlpdnengaa
open Go.RowKit

theorem done : PathsDone where
  clean := fun w s h => cclean_any w s (by omega)
  check := fun w s h => ccheck_any w s (by omega)
  parts := fun w s h => cparts_any w s (by omega)
  cmp := fun w a b ha hb => ccmp_any w a b (by omega) (by omega)
  split := fun w p h => csplit_any w p h
  under := fun w d p hd hp => cunder_any w d p hd hp
theorem pathsCleans_holds : Rows.PathsCleansSaid := PathsCleans.over done
theorem pathsParts_holds : Rows.PathsPartsSaid := PathsParts.over done
theorem pathsCmps_holds : Rows.PathsCmpsSaid := PathsCmps.over done
theorem pathsSplits_holds : Rows.PathsSplitsSaid := PathsSplits.over done
theorem pathsTwice_holds : Rows.PathsTwiceSaid := PathsTwice.over done
theorem pathsOrder_holds : Rows.PathsOrderSaid := PathsOrder.over done
end Go.Proofs.Ytlnopdlpdnengaa
