/- The statement TarUnpacks of tar (a tied card) holds of the code. Conditions: the listed library's tables hold what the program's text lays in them (the card ties that); no other. -/
import Derived.Test.YtdjmfkodjjjhfaaGreatDoorTvt
import Derived.Test.YtdjmfkodjjjhfaaGreatDoorVn3c
namespace Go.Proofs.YtdjmfkodjjjhfaaGreatDoor
theorem tarUnpacks_holds : Rows.TarUnpacksCardSaid := TarUnpacks.over tdone
#print axioms tarUnpacks_holds
end Go.Proofs.YtdjmfkodjjjhfaaGreatDoor
