/- The statement TarCuts of tar (a tied card) holds of the code. Conditions: the listed library's tables hold what the program's text lays in them (the card ties that); no other. -/
import Derived.Test.YtdjmfkodjjjhfaaGreatDoorTvt
import Derived.Test.YtdjmfkodjjjhfaaGreatDoorVn6c
namespace Go.Proofs.YtdjmfkodjjjhfaaGreatDoor
theorem tarCuts_holds : Rows.TarCutsCardSaid := TarCuts.over tdone
#print axioms tarCuts_holds
end Go.Proofs.YtdjmfkodjjjhfaaGreatDoor
