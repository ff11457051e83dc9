import Derived.Test.YtepokmggbfoakaaGreatDoorA00
set_option maxRecDepth 100000
namespace Go.Proofs.YtepokmggbfoakaaGreatDoor
open Go.RowKit
theorem yy(x k:Nat):aj x (k+1)=(x / 2 ^ k % 2) :: aj x k:=by rw[Qx k 1,i4];rfl
end Go.Proofs.YtepokmggbfoakaaGreatDoor
