/- The statement TarEntries of tar (a tied card) holds of the code. Conditions: the listed library's tables hold what the program's text lays in them (the card ties that); the file comes to at most 1048576 bytes. -/
import Derived.Test.YtdjmfkodjjjhfaaGreatDoorTvt
import Derived.Test.YtdjmfkodjjjhfaaGreatDoorVn0c
namespace Go.Proofs.YtdjmfkodjjjhfaaGreatDoor
theorem tarEntries_holds : Rows.TarEntriesUptoCardSaid := TarEntries.over tdone
#print axioms tarEntries_holds
end Go.Proofs.YtdjmfkodjjjhfaaGreatDoor
