/-
  DERIVED. GIVEN WITH THE SEED: THE CARDS: each row of YtepokmggbfoakaaGreatDoorRows.lean that lists a variable, with what it lists TIED to the program's text (the seventh form; the later family's looks); each row that meets fmt, with fmt's text TOLD by the authors' own Lean function (tested against real Go, not proved from fmt's source: count such statements apart). THE CARD IS WHAT COUNTS. Prove the row's statement (the work); the ties are given (YtepokmggbfoakaaGreatDoorTie.lean); close each card by the builder's one call (the guide's Derived/Test/ToyasCard.lean, 'card_holds'). Laid BY PROGRAM, IN A SANDBOX (cutbox-door.mjs). By AI agents, Wed Nov 11 2026. No macro, syntax, notation, axiom, sorry.
-/
import Derived.Test.YtepokmggbfoakaaGreatDoorRows
import GoSem.ClaimSeven
namespace Go.Proofs.YtepokmggbfoakaaGreatDoor
namespace Rows

/-- THE TIED CARD OF 'kistlaw13.StreamPacks'. -/
def streamPacksCard : Claim7 := { stood := { row := streamPacksRow, standIns := [], harness := (true, "e3d2c664be0118a64f21496092143a1f5264bd1b95bed5ec9455b628c9d2d2d0"), looks := true }, kinds := [], alts := [], laidByText := true, laidKinds := [.data, .data, .data], laidTests := true, laidLooks := .later }
def StreamPacksCardSaid : Prop := Claim7.holds Tryz.pinned (.plain (OpenSpec.ofChange streamPacksSpec)) streamPacksCard

/-- THE TIED CARD OF 'kistlaw13.StreamTakes'. -/
def streamTakesCard : Claim7 := { stood := { row := streamTakesRow, standIns := [], harness := (true, "e3d2c664be0118a64f21496092143a1f5264bd1b95bed5ec9455b628c9d2d2d0"), looks := true }, kinds := [], alts := [], laidByText := true, laidKinds := [.data, .data, .data], laidTests := true, laidLooks := .later }
def StreamTakesCardSaid : Prop := Claim7.holds Tryz.pinned (.plain (OpenSpec.ofChange streamTakesSpec)) streamTakesCard

/-- THE TIED CARD OF 'kistlaw13.StreamUnpacks'. -/
def streamUnpacksCard : Claim7 := { stood := { row := streamUnpacksRow, standIns := [], harness := (true, "e3d2c664be0118a64f21496092143a1f5264bd1b95bed5ec9455b628c9d2d2d0"), looks := true }, kinds := [], alts := [], laidByText := true, laidKinds := [.data, .data, .data], laidTests := true, laidLooks := .later }
def StreamUnpacksCardSaid : Prop := Claim7.holds Tryz.pinned (.plain (OpenSpec.ofChange streamUnpacksSpec)) streamUnpacksCard

/-- THE TIED CARD OF 'kistlaw13.StreamBack'. -/
def streamBackCard : Claim7 := { stood := { row := streamBackRow, standIns := [], harness := (true, "e3d2c664be0118a64f21496092143a1f5264bd1b95bed5ec9455b628c9d2d2d0"), looks := true }, kinds := [], alts := [], laidByText := true, laidKinds := [.data, .data, .data], laidTests := true, laidLooks := .later }
def StreamBackCardSaid : Prop := Claim7.holds Tryz.pinned (.plain (OpenSpec.ofChange streamBackSpec)) streamBackCard

/-- THE TIED CARD OF 'kistlaw13.StreamJoins'. -/
def streamJoinsCard : Claim7 := { stood := { row := streamJoinsRow, standIns := [], harness := (true, "e3d2c664be0118a64f21496092143a1f5264bd1b95bed5ec9455b628c9d2d2d0"), looks := true }, kinds := [], alts := [], laidByText := true, laidKinds := [.data, .data, .data], laidTests := true, laidLooks := .later }
def StreamJoinsCardSaid : Prop := Claim7.holds Tryz.pinned (.plain (OpenSpec.ofChange streamJoinsSpec)) streamJoinsCard

/-- THE TIED CARD OF 'kistlaw13.StreamCuts'. -/
def streamCutsCard : Claim7 := { stood := { row := streamCutsRow, standIns := [], harness := (true, "e3d2c664be0118a64f21496092143a1f5264bd1b95bed5ec9455b628c9d2d2d0"), looks := true }, kinds := [], alts := [], laidByText := true, laidKinds := [.data, .data, .data], laidTests := true, laidLooks := .later }
def StreamCutsCardSaid : Prop := Claim7.holds Tryz.pinned (.plain (OpenSpec.ofChange streamCutsSpec)) streamCutsCard

/-- THE TIED CARD OF 'kistlaw13.StreamSmall'. -/
def streamSmallCard : Claim7 := { stood := { row := streamSmallRow, standIns := [], harness := (true, "e3d2c664be0118a64f21496092143a1f5264bd1b95bed5ec9455b628c9d2d2d0"), looks := true }, kinds := [], alts := [], laidByText := true, laidKinds := [.data, .data, .data], laidTests := true, laidLooks := .later }
def StreamSmallCardSaid : Prop := Claim7.holds Tryz.pinned (.plain (OpenSpec.ofChange streamSmallSpec)) streamSmallCard

/-- THE SECOND FORM's CARD OF 'kistlaw13.StreamPacks'. -/
def streamPacksUptoCard : Claim7 := { stood := { row := streamPacksUptoRow, standIns := [], harness := (true, "e3d2c664be0118a64f21496092143a1f5264bd1b95bed5ec9455b628c9d2d2d0"), looks := true }, kinds := [], alts := [], laidByText := true, laidKinds := [.data, .data, .data], laidTests := true, laidLooks := .later }
def StreamPacksUptoCardSaid : Prop := Claim7.holds Tryz.pinned (.plain (OpenSpec.upto streamPacksSpec)) streamPacksUptoCard

/-- THE SECOND FORM's CARD OF 'kistlaw13.StreamTakes'. -/
def streamTakesUptoCard : Claim7 := { stood := { row := streamTakesUptoRow, standIns := [], harness := (true, "e3d2c664be0118a64f21496092143a1f5264bd1b95bed5ec9455b628c9d2d2d0"), looks := true }, kinds := [], alts := [], laidByText := true, laidKinds := [.data, .data, .data], laidTests := true, laidLooks := .later }
def StreamTakesUptoCardSaid : Prop := Claim7.holds Tryz.pinned (.plain (OpenSpec.upto streamTakesSpec)) streamTakesUptoCard

/-- THE SECOND FORM's CARD OF 'kistlaw13.StreamUnpacks'. -/
def streamUnpacksUptoCard : Claim7 := { stood := { row := streamUnpacksUptoRow, standIns := [], harness := (true, "e3d2c664be0118a64f21496092143a1f5264bd1b95bed5ec9455b628c9d2d2d0"), looks := true }, kinds := [], alts := [], laidByText := true, laidKinds := [.data, .data, .data], laidTests := true, laidLooks := .later }
def StreamUnpacksUptoCardSaid : Prop := Claim7.holds Tryz.pinned (.plain (OpenSpec.upto streamUnpacksSpec)) streamUnpacksUptoCard

/-- THE SECOND FORM's CARD OF 'kistlaw13.StreamBack'. -/
def streamBackUptoCard : Claim7 := { stood := { row := streamBackUptoRow, standIns := [], harness := (true, "e3d2c664be0118a64f21496092143a1f5264bd1b95bed5ec9455b628c9d2d2d0"), looks := true }, kinds := [], alts := [], laidByText := true, laidKinds := [.data, .data, .data], laidTests := true, laidLooks := .later }
def StreamBackUptoCardSaid : Prop := Claim7.holds Tryz.pinned (.plain (OpenSpec.upto streamBackSpec)) streamBackUptoCard

/-- THE SECOND FORM's CARD OF 'kistlaw13.StreamJoins'. -/
def streamJoinsUptoCard : Claim7 := { stood := { row := streamJoinsUptoRow, standIns := [], harness := (true, "e3d2c664be0118a64f21496092143a1f5264bd1b95bed5ec9455b628c9d2d2d0"), looks := true }, kinds := [], alts := [], laidByText := true, laidKinds := [.data, .data, .data], laidTests := true, laidLooks := .later }
def StreamJoinsUptoCardSaid : Prop := Claim7.holds Tryz.pinned (.plain (OpenSpec.upto streamJoinsSpec)) streamJoinsUptoCard

/-- THE SECOND FORM's CARD OF 'kistlaw13.StreamCuts'. -/
def streamCutsUptoCard : Claim7 := { stood := { row := streamCutsUptoRow, standIns := [], harness := (true, "e3d2c664be0118a64f21496092143a1f5264bd1b95bed5ec9455b628c9d2d2d0"), looks := true }, kinds := [], alts := [], laidByText := true, laidKinds := [.data, .data, .data], laidTests := true, laidLooks := .later }
def StreamCutsUptoCardSaid : Prop := Claim7.holds Tryz.pinned (.plain (OpenSpec.upto streamCutsSpec)) streamCutsUptoCard

/-- THE SECOND FORM's CARD OF 'kistlaw13.StreamSmall'. -/
def streamSmallUptoCard : Claim7 := { stood := { row := streamSmallUptoRow, standIns := [], harness := (true, "e3d2c664be0118a64f21496092143a1f5264bd1b95bed5ec9455b628c9d2d2d0"), looks := true }, kinds := [], alts := [], laidByText := true, laidKinds := [.data, .data, .data], laidTests := true, laidLooks := .later }
def StreamSmallUptoCardSaid : Prop := Claim7.holds Tryz.pinned (.plain (OpenSpec.upto streamSmallSpec)) streamSmallUptoCard
end Rows
end Go.Proofs.YtepokmggbfoakaaGreatDoor
