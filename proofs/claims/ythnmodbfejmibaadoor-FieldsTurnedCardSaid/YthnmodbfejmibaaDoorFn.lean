/- The rows and tied cards of the seven laws of fields, over what is asked of the code's functions. Conditions: the listed tables, which the cards tie to the text. -/
import Derived.Test.YthnmodbfejmibaaDoorFdh
import Derived.Test.YthnmodbfejmibaaDoorL
import Derived.Test.YthnmodbfejmibaaDoorCards
import Derived.Test.YthnmodbfejmibaaDoorTie
import Derived.ChangeMaps5
import Derived.SizedLaws
import Derived.LaidMore
import Derived.Stop.Joined
import Derived.MakeChecks
namespace Go.Proofs.YthnmodbfejmibaaDoor
open Go.RowKit

set_option maxRecDepth 100000 in
theorem looks_on : false = Tryd.pinned.checked.prog.looks [] := by kernel_rfl
set_option maxRecDepth 100000 in
theorem main_is : Tryd.pinned.checked.prog.mainIs = some (Rows.fieldsOctalsCard.stood.harness.1, Rows.fieldsOctalsCard.stood.harness.2.toList) := by kernel_rfl
set_option maxRecDepth 100000 in
theorem door_met (os : Os) (args : Array Value) : laidMetH Tryd.prog Rows.fieldsOctalsRow.laid ((World.doorLaid Tryd.prog 24 os).forCall (fun _ _ => 0) ⟨#[], args, []⟩).memory :=
  laidMetH_of_parts3 (fuel := 8) (laidMet_of_run' 8 (by kernel_rfl) (by kernel_rfl)) (by kernel_rfl) (by kernel_rfl)
set_option maxRecDepth 100000 in
/-- The listed tables are the library's. -/
theorem tabs_of {W : World} (h : laidMetH Tryd.prog Rows.fieldsOctalsRow.laid W) : Tabs W := by
  constructor
  · have h1 := h.filter (fun x => x.1 == "internal/strconv.uint64pow10")
    rw [Go.MakeChecks.laidMetH_plain _ _ _ (by kernel_rfl)] at h1
    exact Lib.tabIs_of_head (rest := []) (g := 0) (by kernel_rfl) (t := 82) (by kernel_rfl) Tryd.underlying82 Tryd.underlying68 (by kernel_rfl) (by kernel_rfl) h1
  · have h1 := h.filter (fun x => x.1 == "math/bits.deBruijn64tab")
    rw [Go.MakeChecks.laidMetH_plain _ _ _ (by kernel_rfl)] at h1
    exact Lib.tabIs_of_head (rest := []) (g := 3) (by kernel_rfl) (t := 92) (by kernel_rfl) Tryd.underlying92 Tryd.underlying5 (by kernel_rfl) (by kernel_rfl) h1

end Go.Proofs.YthnmodbfejmibaaDoor
