/-
  DERIVED. GIVEN WITH THE SEED: THE CARDS: each row of YtccfjabmmecbkaaDoorRows.lean that lists a variable, with what it lists TIED to the program's text (the seventh form; the later family's looks); each row that meets fmt, with fmt's text TOLD by the authors' own Lean function (tested against real Go, not proved from fmt's source: count such statements apart). THE CARD IS WHAT COUNTS. Prove the row's statement (the work); the ties are given (YtccfjabmmecbkaaDoorTie.lean); close each card by the builder's one call (the guide's Derived/Test/ToyasCard.lean, 'card_holds'). Laid BY PROGRAM, IN A SANDBOX (cutbox-door.mjs). By AI agents, Wed Nov 11 2026. No macro, syntax, notation, axiom, sorry.
-/
import Derived.Test.YtccfjabmmecbkaaDoorRows
import GoSem.ClaimSeven
namespace Go.Proofs.YtccfjabmmecbkaaDoor
namespace Rows

/-- THE TIED CARD OF 'kistlaw17.PaxLasts'. -/
def paxLastsCard : Claim7 := { stood := { row := paxLastsRow, standIns := [], harness := (true, "0d15308ff355a1a7930068eab95936e89e7fd60da0d84aa4b3279864a927849a"), looks := false }, kinds := [], alts := [], laidByText := true, laidKinds := [.data, .data, .data], laidTests := true, laidLooks := .later }
def PaxLastsCardSaid : Prop := Claim7.holds Tryd.pinned (.plain (OpenSpec.ofChange paxLastsSpec)) paxLastsCard

/-- THE TIED CARD OF 'kistlaw17.PaxBack'. -/
def paxBackCard : Claim7 := { stood := { row := paxBackRow, standIns := [], harness := (true, "0d15308ff355a1a7930068eab95936e89e7fd60da0d84aa4b3279864a927849a"), looks := false }, kinds := [], alts := [], laidByText := true, laidKinds := [.data, .data, .data], laidTests := true, laidLooks := .later }
def PaxBackCardSaid : Prop := Claim7.holds Tryd.pinned (.plain (OpenSpec.ofChange paxBackSpec)) paxBackCard

/-- THE TIED CARD OF 'kistlaw17.PaxJoins'. -/
def paxJoinsCard : Claim7 := { stood := { row := paxJoinsRow, standIns := [], harness := (true, "0d15308ff355a1a7930068eab95936e89e7fd60da0d84aa4b3279864a927849a"), looks := false }, kinds := [], alts := [], laidByText := true, laidKinds := [.data, .data, .data], laidTests := true, laidLooks := .later }
def PaxJoinsCardSaid : Prop := Claim7.holds Tryd.pinned (.plain (OpenSpec.ofChange paxJoinsSpec)) paxJoinsCard

/-- THE SECOND FORM's CARD OF 'kistlaw17.PaxLasts'. -/
def paxLastsUptoCard : Claim7 := { stood := { row := paxLastsUptoRow, standIns := [], harness := (true, "0d15308ff355a1a7930068eab95936e89e7fd60da0d84aa4b3279864a927849a"), looks := false }, kinds := [], alts := [], laidByText := true, laidKinds := [.data, .data, .data], laidTests := true, laidLooks := .later }
def PaxLastsUptoCardSaid : Prop := Claim7.holds Tryd.pinned (.plain (OpenSpec.upto paxLastsSpec)) paxLastsUptoCard

/-- THE SECOND FORM's CARD OF 'kistlaw17.PaxBack'. -/
def paxBackUptoCard : Claim7 := { stood := { row := paxBackUptoRow, standIns := [], harness := (true, "0d15308ff355a1a7930068eab95936e89e7fd60da0d84aa4b3279864a927849a"), looks := false }, kinds := [], alts := [], laidByText := true, laidKinds := [.data, .data, .data], laidTests := true, laidLooks := .later }
def PaxBackUptoCardSaid : Prop := Claim7.holds Tryd.pinned (.plain (OpenSpec.upto paxBackSpec)) paxBackUptoCard

/-- THE SECOND FORM's CARD OF 'kistlaw17.PaxJoins'. -/
def paxJoinsUptoCard : Claim7 := { stood := { row := paxJoinsUptoRow, standIns := [], harness := (true, "0d15308ff355a1a7930068eab95936e89e7fd60da0d84aa4b3279864a927849a"), looks := false }, kinds := [], alts := [], laidByText := true, laidKinds := [.data, .data, .data], laidTests := true, laidLooks := .later }
def PaxJoinsUptoCardSaid : Prop := Claim7.holds Tryd.pinned (.plain (OpenSpec.upto paxJoinsSpec)) paxJoinsUptoCard
end Rows
end Go.Proofs.YtccfjabmmecbkaaDoor
