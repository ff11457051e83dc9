/- The statement PaxBack of pax (a tied card) holds of the code. Conditions: the listed library's tables hold what the program's text lays in them (the card ties that); no other. -/
import Derived.Test.YtccfjabmmecbkaaDoorPwh
import Derived.Test.YtccfjabmmecbkaaDoorPn1c
namespace Go.Proofs.YtccfjabmmecbkaaDoor
theorem paxBack_holds : Rows.PaxBackCardSaid := PaxBack.over done
#print axioms paxBack_holds
end Go.Proofs.YtccfjabmmecbkaaDoor
