/- The statement TarReads of tar (a tied card) holds of the code. Conditions: the listed library's tables hold what the program's text lays in them (the card ties that); no other. -/
import Derived.Test.YtdjmfkodjjjhfaaGreatDoorTvt
import Derived.Test.YtdjmfkodjjjhfaaGreatDoorVn1c
namespace Go.Proofs.YtdjmfkodjjjhfaaGreatDoor
theorem tarReads_holds : Rows.TarReadsCardSaid := TarReads.over tdone
#print axioms tarReads_holds
end Go.Proofs.YtdjmfkodjjjhfaaGreatDoor
