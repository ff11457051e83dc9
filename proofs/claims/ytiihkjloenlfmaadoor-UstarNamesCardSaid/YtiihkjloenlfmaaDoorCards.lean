/-
  DERIVED. GIVEN WITH THE SEED: THE CARDS: each row of YtiihkjloenlfmaaDoorRows.lean that lists a variable, with what it lists TIED to the program's text (the seventh form; the later family's looks); each row that meets fmt, with fmt's text TOLD by the authors' own Lean function (tested against real Go, not proved from fmt's source: count such statements apart). THE CARD IS WHAT COUNTS. Prove the row's statement (the work); the ties are given (YtiihkjloenlfmaaDoorTie.lean); close each card by the builder's one call (the guide's Derived/Test/ToyasCard.lean, 'card_holds'). Laid BY PROGRAM, IN A SANDBOX (cutbox-door.mjs). By AI agents, Wed Nov 11 2026. No macro, syntax, notation, axiom, sorry.
-/
import Derived.Test.YtiihkjloenlfmaaDoorRows
import GoSem.ClaimSeven
namespace Go.Proofs.YtiihkjloenlfmaaDoor
namespace Rows

/-- THE TIED CARD OF 'kistlaw16.UstarEncodes'. -/
def ustarEncodesCard : Claim7 := { stood := { row := ustarEncodesRow, standIns := [], harness := (true, "f787b3eb3d79982fbb65c88c6e7ee9c82537a890b2c7ba8e4ebe91b43b216c1f"), looks := false }, kinds := [], alts := [], laidByText := true, laidKinds := [.data, .data, .data], laidTests := true, laidLooks := .later }
def UstarEncodesCardSaid : Prop := Claim7.holds Tryd.pinned (.plain (OpenSpec.ofChange ustarEncodesSpec)) ustarEncodesCard

/-- THE TIED CARD OF 'kistlaw16.UstarDecodes'. -/
def ustarDecodesCard : Claim7 := { stood := { row := ustarDecodesRow, standIns := [], harness := (true, "f787b3eb3d79982fbb65c88c6e7ee9c82537a890b2c7ba8e4ebe91b43b216c1f"), looks := false }, kinds := [], alts := [], laidByText := true, laidKinds := [.data, .data, .data], laidTests := true, laidLooks := .later }
def UstarDecodesCardSaid : Prop := Claim7.holds Tryd.pinned (.plain (OpenSpec.ofChange ustarDecodesSpec)) ustarDecodesCard

/-- THE TIED CARD OF 'kistlaw16.UstarZeros'. -/
def ustarZerosCard : Claim7 := { stood := { row := ustarZerosRow, standIns := [], harness := (true, "f787b3eb3d79982fbb65c88c6e7ee9c82537a890b2c7ba8e4ebe91b43b216c1f"), looks := false }, kinds := [], alts := [], laidByText := true, laidKinds := [.data, .data, .data], laidTests := true, laidLooks := .later }
def UstarZerosCardSaid : Prop := Claim7.holds Tryd.pinned (.plain (OpenSpec.ofChange ustarZerosSpec)) ustarZerosCard

/-- THE TIED CARD OF 'kistlaw16.UstarBack'. -/
def ustarBackCard : Claim7 := { stood := { row := ustarBackRow, standIns := [], harness := (true, "f787b3eb3d79982fbb65c88c6e7ee9c82537a890b2c7ba8e4ebe91b43b216c1f"), looks := false }, kinds := [], alts := [], laidByText := true, laidKinds := [.data, .data, .data], laidTests := true, laidLooks := .later }
def UstarBackCardSaid : Prop := Claim7.holds Tryd.pinned (.plain (OpenSpec.ofChange ustarBackSpec)) ustarBackCard

/-- THE TIED CARD OF 'kistlaw16.UstarTurned'. -/
def ustarTurnedCard : Claim7 := { stood := { row := ustarTurnedRow, standIns := [], harness := (true, "f787b3eb3d79982fbb65c88c6e7ee9c82537a890b2c7ba8e4ebe91b43b216c1f"), looks := false }, kinds := [], alts := [], laidByText := true, laidKinds := [.data, .data, .data], laidTests := true, laidLooks := .later }
def UstarTurnedCardSaid : Prop := Claim7.holds Tryd.pinned (.plain (OpenSpec.ofChange ustarTurnedSpec)) ustarTurnedCard

/-- THE TIED CARD OF 'kistlaw16.UstarNames'. -/
def ustarNamesCard : Claim7 := { stood := { row := ustarNamesRow, standIns := [], harness := (true, "f787b3eb3d79982fbb65c88c6e7ee9c82537a890b2c7ba8e4ebe91b43b216c1f"), looks := false }, kinds := [], alts := [], laidByText := true, laidKinds := [.data, .data, .data], laidTests := true, laidLooks := .later }
def UstarNamesCardSaid : Prop := Claim7.holds Tryd.pinned (.plain (OpenSpec.ofChange ustarNamesSpec)) ustarNamesCard

/-- THE SECOND FORM's CARD OF 'kistlaw16.UstarEncodes'. -/
def ustarEncodesUptoCard : Claim7 := { stood := { row := ustarEncodesUptoRow, standIns := [], harness := (true, "f787b3eb3d79982fbb65c88c6e7ee9c82537a890b2c7ba8e4ebe91b43b216c1f"), looks := false }, kinds := [], alts := [], laidByText := true, laidKinds := [.data, .data, .data], laidTests := true, laidLooks := .later }
def UstarEncodesUptoCardSaid : Prop := Claim7.holds Tryd.pinned (.plain (OpenSpec.upto ustarEncodesSpec)) ustarEncodesUptoCard

/-- THE SECOND FORM's CARD OF 'kistlaw16.UstarDecodes'. -/
def ustarDecodesUptoCard : Claim7 := { stood := { row := ustarDecodesUptoRow, standIns := [], harness := (true, "f787b3eb3d79982fbb65c88c6e7ee9c82537a890b2c7ba8e4ebe91b43b216c1f"), looks := false }, kinds := [], alts := [], laidByText := true, laidKinds := [.data, .data, .data], laidTests := true, laidLooks := .later }
def UstarDecodesUptoCardSaid : Prop := Claim7.holds Tryd.pinned (.plain (OpenSpec.upto ustarDecodesSpec)) ustarDecodesUptoCard

/-- THE SECOND FORM's CARD OF 'kistlaw16.UstarZeros'. -/
def ustarZerosUptoCard : Claim7 := { stood := { row := ustarZerosUptoRow, standIns := [], harness := (true, "f787b3eb3d79982fbb65c88c6e7ee9c82537a890b2c7ba8e4ebe91b43b216c1f"), looks := false }, kinds := [], alts := [], laidByText := true, laidKinds := [.data, .data, .data], laidTests := true, laidLooks := .later }
def UstarZerosUptoCardSaid : Prop := Claim7.holds Tryd.pinned (.plain (OpenSpec.upto ustarZerosSpec)) ustarZerosUptoCard

/-- THE SECOND FORM's CARD OF 'kistlaw16.UstarBack'. -/
def ustarBackUptoCard : Claim7 := { stood := { row := ustarBackUptoRow, standIns := [], harness := (true, "f787b3eb3d79982fbb65c88c6e7ee9c82537a890b2c7ba8e4ebe91b43b216c1f"), looks := false }, kinds := [], alts := [], laidByText := true, laidKinds := [.data, .data, .data], laidTests := true, laidLooks := .later }
def UstarBackUptoCardSaid : Prop := Claim7.holds Tryd.pinned (.plain (OpenSpec.upto ustarBackSpec)) ustarBackUptoCard

/-- THE SECOND FORM's CARD OF 'kistlaw16.UstarTurned'. -/
def ustarTurnedUptoCard : Claim7 := { stood := { row := ustarTurnedUptoRow, standIns := [], harness := (true, "f787b3eb3d79982fbb65c88c6e7ee9c82537a890b2c7ba8e4ebe91b43b216c1f"), looks := false }, kinds := [], alts := [], laidByText := true, laidKinds := [.data, .data, .data], laidTests := true, laidLooks := .later }
def UstarTurnedUptoCardSaid : Prop := Claim7.holds Tryd.pinned (.plain (OpenSpec.upto ustarTurnedSpec)) ustarTurnedUptoCard

/-- THE SECOND FORM's CARD OF 'kistlaw16.UstarNames'. -/
def ustarNamesUptoCard : Claim7 := { stood := { row := ustarNamesUptoRow, standIns := [], harness := (true, "f787b3eb3d79982fbb65c88c6e7ee9c82537a890b2c7ba8e4ebe91b43b216c1f"), looks := false }, kinds := [], alts := [], laidByText := true, laidKinds := [.data, .data, .data], laidTests := true, laidLooks := .later }
def UstarNamesUptoCardSaid : Prop := Claim7.holds Tryd.pinned (.plain (OpenSpec.upto ustarNamesSpec)) ustarNamesUptoCard
end Rows
end Go.Proofs.YtiihkjloenlfmaaDoor
