/- The statement of stream on Take: at any byte of any text a stream is read as the document says, or refused: for every input, without condition. -/
import Derived.Test.YtepokmggbfoakaaGreatDoorT39
namespace Go.Proofs.YtepokmggbfoakaaGreatDoor
open _root_.Go.Proofs.Tryz
theorem streamTakes_holds : Rows.StreamTakesCardSaid := StreamTakes.Na Cw
