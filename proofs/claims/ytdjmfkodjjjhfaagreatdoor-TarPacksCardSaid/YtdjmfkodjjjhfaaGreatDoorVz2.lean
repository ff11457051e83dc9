/- The statement TarPacks of tar (a tied card) holds of the code. Conditions: the listed library's tables hold what the program's text lays in them (the card ties that); no other. -/
import Derived.Test.YtdjmfkodjjjhfaaGreatDoorTvt
import Derived.Test.YtdjmfkodjjjhfaaGreatDoorVn2c
namespace Go.Proofs.YtdjmfkodjjjhfaaGreatDoor
theorem tarPacks_holds : Rows.TarPacksCardSaid := TarPacks.over tdone
#print axioms tarPacks_holds
end Go.Proofs.YtdjmfkodjjjhfaaGreatDoor
