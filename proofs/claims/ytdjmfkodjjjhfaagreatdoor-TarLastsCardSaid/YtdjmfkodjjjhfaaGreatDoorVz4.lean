/- The statement TarLasts of tar (a tied card) holds of the code. Conditions: the listed library's tables hold what the program's text lays in them (the card ties that); no other. -/
import Derived.Test.YtdjmfkodjjjhfaaGreatDoorTvt
import Derived.Test.YtdjmfkodjjjhfaaGreatDoorVn4c
namespace Go.Proofs.YtdjmfkodjjjhfaaGreatDoor
theorem tarLasts_holds : Rows.TarLastsCardSaid := TarLasts.over tdone
#print axioms tarLasts_holds
end Go.Proofs.YtdjmfkodjjjhfaaGreatDoor
