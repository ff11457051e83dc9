import Derived.Test.YthakcjehhlpjnaaGreatA00
set_option maxRecDepth 100000
namespace Go.Proofs.YthakcjehhlpjnaaGreat
open Go.RowKit
theorem oG(x k:Nat):aj x (k+1)=(x / 2 ^ k % 2) :: aj x k:=by
 rw[Nat.add_comm k 1,ik]
 rfl
end Go.Proofs.YthakcjehhlpjnaaGreat
