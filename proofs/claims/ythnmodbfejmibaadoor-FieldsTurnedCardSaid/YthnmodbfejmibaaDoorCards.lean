/-
  DERIVED. GIVEN WITH THE SEED: THE CARDS: each row of YthnmodbfejmibaaDoorRows.lean that lists a variable, with what it lists TIED to the program's text (the seventh form; the later family's looks); each row that meets fmt, with fmt's text TOLD by the authors' own Lean function (tested against real Go, not proved from fmt's source: count such statements apart). THE CARD IS WHAT COUNTS. Prove the row's statement (the work); the ties are given (YthnmodbfejmibaaDoorTie.lean); close each card by the builder's one call (the guide's Derived/Test/ToyasCard.lean, 'card_holds'). Laid BY PROGRAM, IN A SANDBOX (cutbox-door.mjs). By AI agents, Wed Nov 11 2026. No macro, syntax, notation, axiom, sorry.
-/
import Derived.Test.YthnmodbfejmibaaDoorRows
import GoSem.ClaimSeven
namespace Go.Proofs.YthnmodbfejmibaaDoor
namespace Rows

/-- THE TIED CARD OF 'kistlaw15.FieldsOctals'. -/
def fieldsOctalsCard : Claim7 := { stood := { row := fieldsOctalsRow, standIns := [], harness := (true, "d12175892cfb973f561d9aa6ffc1152faad1aacca470fa99d3cc66e036e8cc89"), looks := false }, kinds := [], alts := [], laidByText := true, laidKinds := [.data, .data, .data], laidTests := true, laidLooks := .later }
def FieldsOctalsCardSaid : Prop := Claim7.holds Tryd.pinned (.plain (OpenSpec.ofChange fieldsOctalsSpec)) fieldsOctalsCard

/-- THE TIED CARD OF 'kistlaw15.FieldsNumbers'. -/
def fieldsNumbersCard : Claim7 := { stood := { row := fieldsNumbersRow, standIns := [], harness := (true, "d12175892cfb973f561d9aa6ffc1152faad1aacca470fa99d3cc66e036e8cc89"), looks := false }, kinds := [], alts := [], laidByText := true, laidKinds := [.data, .data, .data], laidTests := true, laidLooks := .later }
def FieldsNumbersCardSaid : Prop := Claim7.holds Tryd.pinned (.plain (OpenSpec.ofChange fieldsNumbersSpec)) fieldsNumbersCard

/-- THE TIED CARD OF 'kistlaw15.FieldsTexts'. -/
def fieldsTextsCard : Claim7 := { stood := { row := fieldsTextsRow, standIns := [], harness := (true, "d12175892cfb973f561d9aa6ffc1152faad1aacca470fa99d3cc66e036e8cc89"), looks := false }, kinds := [], alts := [], laidByText := true, laidKinds := [.data, .data, .data], laidTests := true, laidLooks := .later }
def FieldsTextsCardSaid : Prop := Claim7.holds Tryd.pinned (.plain (OpenSpec.ofChange fieldsTextsSpec)) fieldsTextsCard

/-- THE TIED CARD OF 'kistlaw15.FieldsDecimals'. -/
def fieldsDecimalsCard : Claim7 := { stood := { row := fieldsDecimalsRow, standIns := [], harness := (true, "d12175892cfb973f561d9aa6ffc1152faad1aacca470fa99d3cc66e036e8cc89"), looks := false }, kinds := [], alts := [], laidByText := true, laidKinds := [.data, .data, .data], laidTests := true, laidLooks := .later }
def FieldsDecimalsCardSaid : Prop := Claim7.holds Tryd.pinned (.plain (OpenSpec.ofChange fieldsDecimalsSpec)) fieldsDecimalsCard

/-- THE TIED CARD OF 'kistlaw15.FieldsSums'. -/
def fieldsSumsCard : Claim7 := { stood := { row := fieldsSumsRow, standIns := [], harness := (true, "d12175892cfb973f561d9aa6ffc1152faad1aacca470fa99d3cc66e036e8cc89"), looks := false }, kinds := [], alts := [], laidByText := true, laidKinds := [.data, .data, .data], laidTests := true, laidLooks := .later }
def FieldsSumsCardSaid : Prop := Claim7.holds Tryd.pinned (.plain (OpenSpec.ofChange fieldsSumsSpec)) fieldsSumsCard

/-- THE TIED CARD OF 'kistlaw15.FieldsBack'. -/
def fieldsBackCard : Claim7 := { stood := { row := fieldsBackRow, standIns := [], harness := (true, "d12175892cfb973f561d9aa6ffc1152faad1aacca470fa99d3cc66e036e8cc89"), looks := false }, kinds := [], alts := [], laidByText := true, laidKinds := [.data, .data, .data], laidTests := true, laidLooks := .later }
def FieldsBackCardSaid : Prop := Claim7.holds Tryd.pinned (.plain (OpenSpec.ofChange fieldsBackSpec)) fieldsBackCard

/-- THE TIED CARD OF 'kistlaw15.FieldsTurned'. -/
def fieldsTurnedCard : Claim7 := { stood := { row := fieldsTurnedRow, standIns := [], harness := (true, "d12175892cfb973f561d9aa6ffc1152faad1aacca470fa99d3cc66e036e8cc89"), looks := false }, kinds := [], alts := [], laidByText := true, laidKinds := [.data, .data, .data], laidTests := true, laidLooks := .later }
def FieldsTurnedCardSaid : Prop := Claim7.holds Tryd.pinned (.plain (OpenSpec.ofChange fieldsTurnedSpec)) fieldsTurnedCard

/-- THE SECOND FORM's CARD OF 'kistlaw15.FieldsOctals'. -/
def fieldsOctalsUptoCard : Claim7 := { stood := { row := fieldsOctalsUptoRow, standIns := [], harness := (true, "d12175892cfb973f561d9aa6ffc1152faad1aacca470fa99d3cc66e036e8cc89"), looks := false }, kinds := [], alts := [], laidByText := true, laidKinds := [.data, .data, .data], laidTests := true, laidLooks := .later }
def FieldsOctalsUptoCardSaid : Prop := Claim7.holds Tryd.pinned (.plain (OpenSpec.upto fieldsOctalsSpec)) fieldsOctalsUptoCard

/-- THE SECOND FORM's CARD OF 'kistlaw15.FieldsNumbers'. -/
def fieldsNumbersUptoCard : Claim7 := { stood := { row := fieldsNumbersUptoRow, standIns := [], harness := (true, "d12175892cfb973f561d9aa6ffc1152faad1aacca470fa99d3cc66e036e8cc89"), looks := false }, kinds := [], alts := [], laidByText := true, laidKinds := [.data, .data, .data], laidTests := true, laidLooks := .later }
def FieldsNumbersUptoCardSaid : Prop := Claim7.holds Tryd.pinned (.plain (OpenSpec.upto fieldsNumbersSpec)) fieldsNumbersUptoCard

/-- THE SECOND FORM's CARD OF 'kistlaw15.FieldsTexts'. -/
def fieldsTextsUptoCard : Claim7 := { stood := { row := fieldsTextsUptoRow, standIns := [], harness := (true, "d12175892cfb973f561d9aa6ffc1152faad1aacca470fa99d3cc66e036e8cc89"), looks := false }, kinds := [], alts := [], laidByText := true, laidKinds := [.data, .data, .data], laidTests := true, laidLooks := .later }
def FieldsTextsUptoCardSaid : Prop := Claim7.holds Tryd.pinned (.plain (OpenSpec.upto fieldsTextsSpec)) fieldsTextsUptoCard

/-- THE SECOND FORM's CARD OF 'kistlaw15.FieldsDecimals'. -/
def fieldsDecimalsUptoCard : Claim7 := { stood := { row := fieldsDecimalsUptoRow, standIns := [], harness := (true, "d12175892cfb973f561d9aa6ffc1152faad1aacca470fa99d3cc66e036e8cc89"), looks := false }, kinds := [], alts := [], laidByText := true, laidKinds := [.data, .data, .data], laidTests := true, laidLooks := .later }
def FieldsDecimalsUptoCardSaid : Prop := Claim7.holds Tryd.pinned (.plain (OpenSpec.upto fieldsDecimalsSpec)) fieldsDecimalsUptoCard

/-- THE SECOND FORM's CARD OF 'kistlaw15.FieldsSums'. -/
def fieldsSumsUptoCard : Claim7 := { stood := { row := fieldsSumsUptoRow, standIns := [], harness := (true, "d12175892cfb973f561d9aa6ffc1152faad1aacca470fa99d3cc66e036e8cc89"), looks := false }, kinds := [], alts := [], laidByText := true, laidKinds := [.data, .data, .data], laidTests := true, laidLooks := .later }
def FieldsSumsUptoCardSaid : Prop := Claim7.holds Tryd.pinned (.plain (OpenSpec.upto fieldsSumsSpec)) fieldsSumsUptoCard

/-- THE SECOND FORM's CARD OF 'kistlaw15.FieldsBack'. -/
def fieldsBackUptoCard : Claim7 := { stood := { row := fieldsBackUptoRow, standIns := [], harness := (true, "d12175892cfb973f561d9aa6ffc1152faad1aacca470fa99d3cc66e036e8cc89"), looks := false }, kinds := [], alts := [], laidByText := true, laidKinds := [.data, .data, .data], laidTests := true, laidLooks := .later }
def FieldsBackUptoCardSaid : Prop := Claim7.holds Tryd.pinned (.plain (OpenSpec.upto fieldsBackSpec)) fieldsBackUptoCard

/-- THE SECOND FORM's CARD OF 'kistlaw15.FieldsTurned'. -/
def fieldsTurnedUptoCard : Claim7 := { stood := { row := fieldsTurnedUptoRow, standIns := [], harness := (true, "d12175892cfb973f561d9aa6ffc1152faad1aacca470fa99d3cc66e036e8cc89"), looks := false }, kinds := [], alts := [], laidByText := true, laidKinds := [.data, .data, .data], laidTests := true, laidLooks := .later }
def FieldsTurnedUptoCardSaid : Prop := Claim7.holds Tryd.pinned (.plain (OpenSpec.upto fieldsTurnedSpec)) fieldsTurnedUptoCard
end Rows
end Go.Proofs.YthnmodbfejmibaaDoor
