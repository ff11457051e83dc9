/- The rows and tied cards of the eight laws of tar, over what is asked of the code's functions. Conditions: the listed tables, which the cards tie to the text. -/
import Derived.Test.YtdjmfkodjjjhfaaGreatDoorTdd
import Derived.Test.YtdjmfkodjjjhfaaGreatDoorTdf
import Derived.Test.YtdjmfkodjjjhfaaGreatDoorTdg
import Derived.ChangeMaps5
import Derived.SizedLaws
import Derived.JoinedCond
import Derived.Test.YtdjmfkodjjjhfaaGreatDoorCards
import Derived.Test.YtdjmfkodjjjhfaaGreatDoorTie
import Derived.Deep.DeepHandedRow
import Derived.OpenShut
import Derived.LaidMore
import Derived.Stop.Joined
import Derived.MakeChecks
namespace Go.Proofs.YtdjmfkodjjjhfaaGreatDoor
open Go.RowKit

set_option maxRecDepth 100000 in
theorem looks_on : false = Tryz.pinned.checked.prog.looks [] := by kernel_rfl
set_option maxRecDepth 100000 in
theorem main_is : Tryz.pinned.checked.prog.mainIs = some (Rows.tarReadsCard.stood.harness.1, Rows.tarReadsCard.stood.harness.2.toList) := by kernel_rfl
set_option maxRecDepth 100000 in
theorem door_met (os : Os) (args : Array Value) : laidMetH Tryz.prog Rows.tarReadsRow.laid ((World.doorLaid Tryz.prog 24 os).forCall (fun _ _ => 0) ⟨#[], args, []⟩).memory :=
  laidMetH_of_parts3 (fuel := 8) (laidMet_of_run' 8 (by kernel_rfl) (by kernel_rfl)) (by kernel_rfl) (by kernel_rfl)
set_option maxRecDepth 100000 in
/-- The listed tables are the library's. -/
theorem tabs_of {W : World} (h : laidMetH Tryz.prog Rows.tarReadsRow.laid W) : Tabs W := by
  constructor
  · have h1 := h.filter (fun x => x.1 == "internal/strconv.uint64pow10")
    rw [Go.MakeChecks.laidMetH_plain _ _ _ (by kernel_rfl)] at h1
    exact Lib.tabIs_of_head (rest := []) (g := 1) (by kernel_rfl) (t := 194) (by kernel_rfl) Tryz.underlying194 Tryz.underlying152 (by kernel_rfl) (by kernel_rfl) h1
  · have h1 := h.filter (fun x => x.1 == "math/bits.deBruijn64tab")
    rw [Go.MakeChecks.laidMetH_plain _ _ _ (by kernel_rfl)] at h1
    exact Lib.tabIs_of_head (rest := []) (g := 3) (by kernel_rfl) (t := 198) (by kernel_rfl) Tryz.underlying198 Tryz.underlying5 (by kernel_rfl) (by kernel_rfl) h1

end Go.Proofs.YtdjmfkodjjjhfaaGreatDoor
