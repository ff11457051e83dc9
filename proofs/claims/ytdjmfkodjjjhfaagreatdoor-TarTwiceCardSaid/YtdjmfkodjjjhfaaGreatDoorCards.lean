/-
  DERIVED. GIVEN WITH THE SEED: THE CARDS: each row of YtdjmfkodjjjhfaaGreatDoorRows.lean that lists a variable, with what it lists TIED to the program's text (the seventh form; the later family's looks); each row that meets fmt, with fmt's text TOLD by the authors' own Lean function (tested against real Go, not proved from fmt's source: count such statements apart). THE CARD IS WHAT COUNTS. Prove the row's statement (the work); the ties are given (YtdjmfkodjjjhfaaGreatDoorTie.lean); close each card by the builder's one call (the guide's Derived/Test/ToyasCard.lean, 'card_holds'). Laid BY PROGRAM, IN A SANDBOX (cutbox-door.mjs). By AI agents, Wed Nov 11 2026. No macro, syntax, notation, axiom, sorry.
-/
import Derived.Test.YtdjmfkodjjjhfaaGreatDoorRows
import GoSem.ClaimSeven
namespace Go.Proofs.YtdjmfkodjjjhfaaGreatDoor
namespace Rows

/-- THE TIED CARD OF 'kistlaw18.TarEntries'. -/
def tarEntriesCard : Claim7 := { stood := { row := tarEntriesRow, standIns := [], harness := (true, "068aceb97427b5cf7d2fb9276b1c10086c8ccc8e63b62c83422cc52325d644b3"), looks := false }, kinds := [], alts := [], laidByText := true, laidKinds := [.data, .data, .data], laidTests := true, laidLooks := .later }
def TarEntriesCardSaid : Prop := Claim7.holds Tryz.pinned (.plain (OpenSpec.ofChange tarEntriesSpec)) tarEntriesCard

/-- THE TIED CARD OF 'kistlaw18.TarReads'. -/
def tarReadsCard : Claim7 := { stood := { row := tarReadsRow, standIns := [], harness := (true, "068aceb97427b5cf7d2fb9276b1c10086c8ccc8e63b62c83422cc52325d644b3"), looks := false }, kinds := [], alts := [], laidByText := true, laidKinds := [.data, .data, .data], laidTests := true, laidLooks := .later }
def TarReadsCardSaid : Prop := Claim7.holds Tryz.pinned (.plain (OpenSpec.ofChange tarReadsSpec)) tarReadsCard

/-- THE TIED CARD OF 'kistlaw18.TarPacks'. -/
def tarPacksCard : Claim7 := { stood := { row := tarPacksRow, standIns := [], harness := (true, "068aceb97427b5cf7d2fb9276b1c10086c8ccc8e63b62c83422cc52325d644b3"), looks := false }, kinds := [], alts := [], laidByText := true, laidKinds := [.data, .data, .data], laidTests := true, laidLooks := .later }
def TarPacksCardSaid : Prop := Claim7.holds Tryz.pinned (.plain (OpenSpec.ofChange tarPacksSpec)) tarPacksCard

/-- THE TIED CARD OF 'kistlaw18.TarUnpacks'. -/
def tarUnpacksCard : Claim7 := { stood := { row := tarUnpacksRow, standIns := [], harness := (true, "068aceb97427b5cf7d2fb9276b1c10086c8ccc8e63b62c83422cc52325d644b3"), looks := false }, kinds := [], alts := [], laidByText := true, laidKinds := [.data, .data, .data], laidTests := true, laidLooks := .later }
def TarUnpacksCardSaid : Prop := Claim7.holds Tryz.pinned (.plain (OpenSpec.ofChange tarUnpacksSpec)) tarUnpacksCard

/-- THE TIED CARD OF 'kistlaw18.TarLasts'. -/
def tarLastsCard : Claim7 := { stood := { row := tarLastsRow, standIns := [], harness := (true, "068aceb97427b5cf7d2fb9276b1c10086c8ccc8e63b62c83422cc52325d644b3"), looks := false }, kinds := [], alts := [], laidByText := true, laidKinds := [.data, .data, .data], laidTests := true, laidLooks := .later }
def TarLastsCardSaid : Prop := Claim7.holds Tryz.pinned (.plain (OpenSpec.ofChange tarLastsSpec)) tarLastsCard

/-- THE TIED CARD OF 'kistlaw18.TarBack'. -/
def tarBackCard : Claim7 := { stood := { row := tarBackRow, standIns := [], harness := (true, "068aceb97427b5cf7d2fb9276b1c10086c8ccc8e63b62c83422cc52325d644b3"), looks := false }, kinds := [], alts := [], laidByText := true, laidKinds := [.data, .data, .data], laidTests := true, laidLooks := .later }
def TarBackCardSaid : Prop := Claim7.holds Tryz.pinned (.plain (OpenSpec.ofChange tarBackSpec)) tarBackCard

/-- THE TIED CARD OF 'kistlaw18.TarCuts'. -/
def tarCutsCard : Claim7 := { stood := { row := tarCutsRow, standIns := [], harness := (true, "068aceb97427b5cf7d2fb9276b1c10086c8ccc8e63b62c83422cc52325d644b3"), looks := false }, kinds := [], alts := [], laidByText := true, laidKinds := [.data, .data, .data], laidTests := true, laidLooks := .later }
def TarCutsCardSaid : Prop := Claim7.holds Tryz.pinned (.plain (OpenSpec.ofChange tarCutsSpec)) tarCutsCard

/-- THE TIED CARD OF 'kistlaw18.TarTwice'. -/
def tarTwiceCard : Claim7 := { stood := { row := tarTwiceRow, standIns := [], harness := (true, "068aceb97427b5cf7d2fb9276b1c10086c8ccc8e63b62c83422cc52325d644b3"), looks := false }, kinds := [], alts := [], laidByText := true, laidKinds := [.data, .data, .data], laidTests := true, laidLooks := .later }
def TarTwiceCardSaid : Prop := Claim7.holds Tryz.pinned (.plain (OpenSpec.ofChange tarTwiceSpec)) tarTwiceCard

/-- THE SECOND FORM's CARD OF 'kistlaw18.TarEntries'. -/
def tarEntriesUptoCard : Claim7 := { stood := { row := tarEntriesUptoRow, standIns := [], harness := (true, "068aceb97427b5cf7d2fb9276b1c10086c8ccc8e63b62c83422cc52325d644b3"), looks := false }, kinds := [], alts := [], laidByText := true, laidKinds := [.data, .data, .data], laidTests := true, laidLooks := .later }
def TarEntriesUptoCardSaid : Prop := Claim7.holds Tryz.pinned (.plain (OpenSpec.upto tarEntriesSpec)) tarEntriesUptoCard

/-- THE SECOND FORM's CARD OF 'kistlaw18.TarReads'. -/
def tarReadsUptoCard : Claim7 := { stood := { row := tarReadsUptoRow, standIns := [], harness := (true, "068aceb97427b5cf7d2fb9276b1c10086c8ccc8e63b62c83422cc52325d644b3"), looks := false }, kinds := [], alts := [], laidByText := true, laidKinds := [.data, .data, .data], laidTests := true, laidLooks := .later }
def TarReadsUptoCardSaid : Prop := Claim7.holds Tryz.pinned (.plain (OpenSpec.upto tarReadsSpec)) tarReadsUptoCard

/-- THE SECOND FORM's CARD OF 'kistlaw18.TarPacks'. -/
def tarPacksUptoCard : Claim7 := { stood := { row := tarPacksUptoRow, standIns := [], harness := (true, "068aceb97427b5cf7d2fb9276b1c10086c8ccc8e63b62c83422cc52325d644b3"), looks := false }, kinds := [], alts := [], laidByText := true, laidKinds := [.data, .data, .data], laidTests := true, laidLooks := .later }
def TarPacksUptoCardSaid : Prop := Claim7.holds Tryz.pinned (.plain (OpenSpec.upto tarPacksSpec)) tarPacksUptoCard

/-- THE SECOND FORM's CARD OF 'kistlaw18.TarUnpacks'. -/
def tarUnpacksUptoCard : Claim7 := { stood := { row := tarUnpacksUptoRow, standIns := [], harness := (true, "068aceb97427b5cf7d2fb9276b1c10086c8ccc8e63b62c83422cc52325d644b3"), looks := false }, kinds := [], alts := [], laidByText := true, laidKinds := [.data, .data, .data], laidTests := true, laidLooks := .later }
def TarUnpacksUptoCardSaid : Prop := Claim7.holds Tryz.pinned (.plain (OpenSpec.upto tarUnpacksSpec)) tarUnpacksUptoCard

/-- THE SECOND FORM's CARD OF 'kistlaw18.TarLasts'. -/
def tarLastsUptoCard : Claim7 := { stood := { row := tarLastsUptoRow, standIns := [], harness := (true, "068aceb97427b5cf7d2fb9276b1c10086c8ccc8e63b62c83422cc52325d644b3"), looks := false }, kinds := [], alts := [], laidByText := true, laidKinds := [.data, .data, .data], laidTests := true, laidLooks := .later }
def TarLastsUptoCardSaid : Prop := Claim7.holds Tryz.pinned (.plain (OpenSpec.upto tarLastsSpec)) tarLastsUptoCard

/-- THE SECOND FORM's CARD OF 'kistlaw18.TarBack'. -/
def tarBackUptoCard : Claim7 := { stood := { row := tarBackUptoRow, standIns := [], harness := (true, "068aceb97427b5cf7d2fb9276b1c10086c8ccc8e63b62c83422cc52325d644b3"), looks := false }, kinds := [], alts := [], laidByText := true, laidKinds := [.data, .data, .data], laidTests := true, laidLooks := .later }
def TarBackUptoCardSaid : Prop := Claim7.holds Tryz.pinned (.plain (OpenSpec.upto tarBackSpec)) tarBackUptoCard

/-- THE SECOND FORM's CARD OF 'kistlaw18.TarCuts'. -/
def tarCutsUptoCard : Claim7 := { stood := { row := tarCutsUptoRow, standIns := [], harness := (true, "068aceb97427b5cf7d2fb9276b1c10086c8ccc8e63b62c83422cc52325d644b3"), looks := false }, kinds := [], alts := [], laidByText := true, laidKinds := [.data, .data, .data], laidTests := true, laidLooks := .later }
def TarCutsUptoCardSaid : Prop := Claim7.holds Tryz.pinned (.plain (OpenSpec.upto tarCutsSpec)) tarCutsUptoCard

/-- THE SECOND FORM's CARD OF 'kistlaw18.TarTwice'. -/
def tarTwiceUptoCard : Claim7 := { stood := { row := tarTwiceUptoRow, standIns := [], harness := (true, "068aceb97427b5cf7d2fb9276b1c10086c8ccc8e63b62c83422cc52325d644b3"), looks := false }, kinds := [], alts := [], laidByText := true, laidKinds := [.data, .data, .data], laidTests := true, laidLooks := .later }
def TarTwiceUptoCardSaid : Prop := Claim7.holds Tryz.pinned (.plain (OpenSpec.upto tarTwiceSpec)) tarTwiceUptoCard
end Rows
end Go.Proofs.YtdjmfkodjjjhfaaGreatDoor
