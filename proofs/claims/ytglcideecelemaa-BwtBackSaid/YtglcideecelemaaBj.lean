/- BwtBack holds: for every text the law returns true. No conditions. -/
import Derived.Test.YtglcideecelemaaBi
import Derived.Test.YtglcideecelemaaPs
namespace Go.Proofs.Ytglcideecelemaa

theorem bwtBack_holds : Rows.BwtBackSaid := BwtBack.over (sort_any.less (by omega))

end Go.Proofs.Ytglcideecelemaa
