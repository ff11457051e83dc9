/- The statement TarTwice of tar (a tied card) holds of the code. Conditions: the listed library's tables hold what the program's text lays in them (the card ties that); no other. -/
import Derived.Test.YtdjmfkodjjjhfaaGreatDoorTvt
import Derived.Test.YtdjmfkodjjjhfaaGreatDoorVn7c
namespace Go.Proofs.YtdjmfkodjjjhfaaGreatDoor
theorem tarTwice_holds : Rows.TarTwiceCardSaid := TarTwice.over tdone
#print axioms tarTwice_holds
end Go.Proofs.YtdjmfkodjjjhfaaGreatDoor
