/- The statement TarBack of tar (a tied card) holds of the code. Conditions: the listed library's tables hold what the program's text lays in them (the card ties that); no other. -/
import Derived.Test.YtdjmfkodjjjhfaaGreatDoorTvt
import Derived.Test.YtdjmfkodjjjhfaaGreatDoorVn5c
namespace Go.Proofs.YtdjmfkodjjjhfaaGreatDoor
theorem tarBack_holds : Rows.TarBackCardSaid := TarBack.over tdone
#print axioms tarBack_holds
end Go.Proofs.YtdjmfkodjjjhfaaGreatDoor
