/- BwtForwards and BwtBacks hold: for every input the law returns true. No conditions. -/
import Derived.Test.YtglcideecelemaaBu
import Derived.Test.YtglcideecelemaaPs
namespace Go.Proofs.Ytglcideecelemaa

theorem bwtForwards_holds : Rows.BwtForwardsSaid := BwtForwards.over (sort_any.less (by omega))
theorem bwtBacks_holds : Rows.BwtBacksSaid := BwtBacks.over (sort_any.less (by omega))

end Go.Proofs.Ytglcideecelemaa
