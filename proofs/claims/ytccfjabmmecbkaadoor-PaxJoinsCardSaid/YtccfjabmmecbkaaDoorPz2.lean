/- The statement PaxJoins of pax (a tied card) holds of the code. Conditions: the listed library's tables hold what the program's text lays in them (the card ties that); no other. -/
import Derived.Test.YtccfjabmmecbkaaDoorPwh
import Derived.Test.YtccfjabmmecbkaaDoorPn2c
namespace Go.Proofs.YtccfjabmmecbkaaDoor
theorem paxJoins_holds : Rows.PaxJoinsCardSaid := PaxJoins.over done
#print axioms paxJoins_holds
end Go.Proofs.YtccfjabmmecbkaaDoor
