/- The statement PaxLasts of pax (a tied card) holds of the code. Conditions: the listed library's tables hold what the program's text lays in them (the card ties that); no other. -/
import Derived.Test.YtccfjabmmecbkaaDoorPwh
import Derived.Test.YtccfjabmmecbkaaDoorPn0c
namespace Go.Proofs.YtccfjabmmecbkaaDoor
theorem paxLasts_holds : Rows.PaxLastsCardSaid := PaxLasts.over done
#print axioms paxLasts_holds
end Go.Proofs.YtccfjabmmecbkaaDoor
