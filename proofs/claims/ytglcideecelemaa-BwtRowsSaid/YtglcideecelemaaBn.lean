/- BwtRows holds: for every text and row the law returns true. No conditions. -/
import Derived.Test.YtglcideecelemaaBm
import Derived.Test.YtglcideecelemaaPs
namespace Go.Proofs.Ytglcideecelemaa

theorem bwtRows_holds : Rows.BwtRowsSaid := BwtRows.over (sort_any.less (by omega))

end Go.Proofs.Ytglcideecelemaa
