/- The seven statements of fields (tied cards) hold of the code. Conditions: the listed library's tables hold what the program's text lays in them (the cards tie that); no other. -/
import Derived.Test.YthnmodbfejmibaaDoorFwi
import Derived.Test.YthnmodbfejmibaaDoorFn0c
import Derived.Test.YthnmodbfejmibaaDoorFn1c
import Derived.Test.YthnmodbfejmibaaDoorFn2c
import Derived.Test.YthnmodbfejmibaaDoorFn3c
import Derived.Test.YthnmodbfejmibaaDoorFn4c
import Derived.Test.YthnmodbfejmibaaDoorFn5c
import Derived.Test.YthnmodbfejmibaaDoorFn6c
namespace Go.Proofs.YthnmodbfejmibaaDoor
theorem fieldsOctals_holds : Rows.FieldsOctalsCardSaid := FieldsOctals.over done
theorem fieldsNumbers_holds : Rows.FieldsNumbersCardSaid := FieldsNumbers.over done
theorem fieldsTexts_holds : Rows.FieldsTextsCardSaid := FieldsTexts.over done
theorem fieldsDecimals_holds : Rows.FieldsDecimalsCardSaid := FieldsDecimals.over done
theorem fieldsSums_holds : Rows.FieldsSumsCardSaid := FieldsSums.over done
theorem fieldsBack_holds : Rows.FieldsBackCardSaid := FieldsBack.over done
theorem fieldsTurned_holds : Rows.FieldsTurnedCardSaid := FieldsTurned.over done
#print axioms fieldsOctals_holds
#print axioms fieldsTurned_holds
end Go.Proofs.YthnmodbfejmibaaDoor
