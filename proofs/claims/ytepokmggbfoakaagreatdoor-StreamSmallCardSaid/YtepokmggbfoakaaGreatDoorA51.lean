/- The statements of stream: that what was packed is read again (Back, Joins), that no beginning of it is a stream (Cuts), that it is small (Small): each for every input, without condition, over the code's own Pack, Take and Unpack. -/
import Derived.Test.YtepokmggbfoakaaGreatDoorA43
import Derived.Test.YtepokmggbfoakaaGreatDoorA45
import Derived.Test.YtepokmggbfoakaaGreatDoorA47
import Derived.Test.YtepokmggbfoakaaGreatDoorA49
import Derived.Test.YtepokmggbfoakaaGreatDoorA50
namespace Go.Proofs.YtepokmggbfoakaaGreatDoor
theorem streamBack_holds : Rows.StreamBackCardSaid := StreamBack.Cy DT
theorem streamJoins_holds : Rows.StreamJoinsCardSaid := StreamJoins.Cy DT
theorem streamCuts_holds : Rows.StreamCutsCardSaid := StreamCuts.Cy DT
theorem streamSmall_holds : Rows.StreamSmallCardSaid := StreamSmall.Cy DT
end Go.Proofs.YtepokmggbfoakaaGreatDoor
