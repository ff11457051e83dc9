/- BwtTurns holds: for every text, rotation and byte the law returns true. No conditions. -/
import Derived.Test.YtglcideecelemaaBo
import Derived.Test.YtglcideecelemaaPs
namespace Go.Proofs.Ytglcideecelemaa

theorem bwtTurns_holds : Rows.BwtTurnsSaid := BwtTurns.over (sort_any.less (by omega))

end Go.Proofs.Ytglcideecelemaa
