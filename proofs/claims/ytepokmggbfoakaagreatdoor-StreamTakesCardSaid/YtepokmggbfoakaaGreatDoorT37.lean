import Derived.Test.YtepokmggbfoakaaGreatDoorT36
import Derived.Test.YtepokmggbfoakaaGreatDoorCards
import Derived.Test.YtepokmggbfoakaaGreatDoorTie
import Derived.SliceStrings
import Derived.LaidMore
import Derived.Stop.Joined
set_option maxRecDepth 100000
namespace Go.Proofs.YtepokmggbfoakaaGreatDoor
open _root_.Go.Proofs.Tryz
open Go.RowKit
theorem JE:true=Tryz.pinned.checked.prog.looks []:=by kernel_rfl
theorem LC:Tryz.pinned.checked.prog.mainIs=some (Rows.streamPacksCard.stood.harness.1,Rows.streamPacksCard.stood.harness.2.toList):=by kernel_rfl
theorem I9(os:Os)(args:Array Value):laidMetH prog Rows.streamPacksRow.laid ((World.doorLaid prog 24 os).forCall (fun _ _=>0) ⟨#[],args, []⟩).memory:=
 laidMetH_of_parts3 (fuel:=8) (laidMet_of_run' 8 (by kernel_rfl) (by kernel_rfl)) (by kernel_rfl) (by kernel_rfl)
