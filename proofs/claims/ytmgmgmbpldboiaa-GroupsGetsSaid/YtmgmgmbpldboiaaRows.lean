/-
  No cell of these rows narrows 'for every input' (looked for: loops, veiled, ifaces, maps, wideKeys, modest, calm, conditions, laid).
  DERIVED. THE GIVEN ROWS OF THIS SEAT. 3 by the template 'for every input the law returns true; each argument reads behind the call as it read before'; 0 by the template 'total and deterministic' (their statements: YtmgmgmbpldboiaaTotals.lean).
  GIVEN WITH THE SEED: the statements are not yours to turn. If you find one false, say at which input.
  Laid BY PROGRAM, IN A SANDBOX (cutbox-rows.mjs): the forced cells as the released guide's own fill.sh prints them over the translation 6cade039894855c1… (all of the seat's roots in one cut). By AI agents, Wed Nov 11 2026. No macro, syntax, notation, axiom, sorry.
-/
import Derived.Test.YtmgmgmbpldboiaaChecked
import GoSem.Claim
import GoSem.ClaimJoined
import GoSem.ClaimMapViews
import Derived.JoinedTies
import Derived.KernelRfl
namespace Go.Proofs.Ytmgmgmbpldboiaa
/- THE CELL 'sum', in the pinned program and in every row, IS THE sha256 OF THE DUMP (.gsa) THAT YtmgmgmbpldboiaaProg.lean LOADS. Nothing in Lean hashes anything: it is a label: what it is worth is what the hold of that sum in a sandbox is worth. -/
noncomputable def Try.pinned : Pinned := { name := "ytmgmgmbpldboiaa", sum := "6cade039894855c145a6822fc85cef21a92de06c0b65d3cb0d38ac56fa9ec9bc", checked := Try.checked }
namespace Rows
def none {H : Type} : Left H := { results := [], args := [] }

/-- 'kistlaw11.GroupsTables': WHATEVER THE INPUT: true; the input reads as it did. -/
def groupsTablesSpec : ChangeSpec := { name := "groupsTables", fn := fun _ => fun
  | [d] => { results := [.lit (.bool true)], args := [d] }
  | _ => none }
def groupsTablesRow : OpenClaim := { program := "ytmgmgmbpldboiaa", sum := "6cade039894855c145a6822fc85cef21a92de06c0b65d3cb0d38ac56fa9ec9bc", func := "kist/kistlaw11.GroupsTables", spec := "groupsTables", unfollowed := true, recurses := true, apart := false }
def GroupsTablesSaid : Prop := groupsTablesRow.holds Try.pinned (OpenSpec.ofChange groupsTablesSpec)

/-- ITS FALSE NEIGHBOUR: 'it returns false'. Refute it at one input. -/
def groupsTablesWrong : ChangeSpec := { name := "groupsTables", fn := fun _ => fun
  | [d] => { results := [.lit (.bool false)], args := [d] }
  | _ => none }
def GroupsTablesWrongFalsely : Prop := groupsTablesRow.holds Try.pinned (OpenSpec.ofChange groupsTablesWrong)

/-- 'kistlaw11.GroupsShows': WHATEVER THE INPUT: true; the input reads as it did. -/
def groupsShowsSpec : ChangeSpec := { name := "groupsShows", fn := fun _ => fun
  | [d] => { results := [.lit (.bool true)], args := [d] }
  | _ => none }
def groupsShowsRow : OpenClaim := { program := "ytmgmgmbpldboiaa", sum := "6cade039894855c145a6822fc85cef21a92de06c0b65d3cb0d38ac56fa9ec9bc", func := "kist/kistlaw11.GroupsShows", spec := "groupsShows", unfollowed := true, recurses := true, apart := false }
def GroupsShowsSaid : Prop := groupsShowsRow.holds Try.pinned (OpenSpec.ofChange groupsShowsSpec)

/-- ITS FALSE NEIGHBOUR: 'it returns false'. Refute it at one input. -/
def groupsShowsWrong : ChangeSpec := { name := "groupsShows", fn := fun _ => fun
  | [d] => { results := [.lit (.bool false)], args := [d] }
  | _ => none }
def GroupsShowsWrongFalsely : Prop := groupsShowsRow.holds Try.pinned (OpenSpec.ofChange groupsShowsWrong)

/-- 'kistlaw11.GroupsGets': WHATEVER THE INPUT: true; the input reads as it did. -/
def groupsGetsSpec : ChangeSpec := { name := "groupsGets", fn := fun _ => fun
  | [d1, d2, d3] => { results := [.lit (.bool true)], args := [d1, d2, d3] }
  | _ => none }
def groupsGetsRow : OpenClaim := { program := "ytmgmgmbpldboiaa", sum := "6cade039894855c145a6822fc85cef21a92de06c0b65d3cb0d38ac56fa9ec9bc", func := "kist/kistlaw11.GroupsGets", spec := "groupsGets", unfollowed := true, recurses := true, apart := false }
def GroupsGetsSaid : Prop := groupsGetsRow.holds Try.pinned (OpenSpec.ofChange groupsGetsSpec)

/-- ITS FALSE NEIGHBOUR: 'it returns false'. Refute it at one input. -/
def groupsGetsWrong : ChangeSpec := { name := "groupsGets", fn := fun _ => fun
  | [d1, d2, d3] => { results := [.lit (.bool false)], args := [d1, d2, d3] }
  | _ => none }
def GroupsGetsWrongFalsely : Prop := groupsGetsRow.holds Try.pinned (OpenSpec.ofChange groupsGetsWrong)

/- THE SECOND FORM. 'bulk': how many values and letters a reading holds, each counted each time it is reached (what is shared counts as often as it is met; a slice's spare places count too). A statement '..UptoSaid' is the law's where the arguments, and the package variables that the reading takes, are together of bulk at most 1048576: NARROWER than '..Said'. Prove '..Said' where nothing that the law and all that it calls make is longer than what came in: it says more and counts as full. Else prove '..UptoSaid'. A law counts once. -/
mutual
def uptoBulk {H : Type} : DataW H → Nat
  | .lit (.string bytes) => bytes.length + 1
  | .lit _ => 1
  | .nil => 1
  | .ptr d => uptoBulk d + 1
  | .slice elems spare => uptoBulkAll elems + uptoBulkAll spare + 1
  | .agg parts => uptoBulkAll parts + 1
  | .iface _ d => uptoBulk d + 1
  | .map entries => uptoBulkEntries entries + 1
  | .held _ => 1
def uptoBulkAll {H : Type} : List (DataW H) → Nat
  | [] => 0
  | d :: r => uptoBulk d + uptoBulkAll r
def uptoBulkEntries {H : Type} : List (Lit × DataW H) → Nat
  | [] => 0
  | x :: r => uptoBulkEntry x + uptoBulkEntries r
def uptoBulkEntry {H : Type} : Lit × DataW H → Nat
  | (.string bytes, d) => bytes.length + uptoBulk d + 1
  | (_, d) => uptoBulk d + 1
 end
def uptoSmall : (H : Type) → List (DataW H) → Bool := fun _ ds => decide (uptoBulkAll ds ≤ 1048576)
def OpenSpec.upto (s : _root_.Go.ChangeSpec) : _root_.Go.OpenSpec := { _root_.Go.OpenSpec.ofChange s with cond := some uptoSmall }

/-- 'kistlaw11.GroupsTables', WHERE WHAT IT READS IS OF BULK AT MOST 1048576: true; the input reads as it did. -/
def groupsTablesUptoRow : OpenClaim := { program := "ytmgmgmbpldboiaa", sum := "6cade039894855c145a6822fc85cef21a92de06c0b65d3cb0d38ac56fa9ec9bc", func := "kist/kistlaw11.GroupsTables", spec := "groupsTables", unfollowed := true, recurses := true, apart := false, narrowed := true }
def GroupsTablesUptoSaid : Prop := groupsTablesUptoRow.holds Try.pinned (OpenSpec.upto groupsTablesSpec)

/-- 'kistlaw11.GroupsShows', WHERE WHAT IT READS IS OF BULK AT MOST 1048576: true; the input reads as it did. -/
def groupsShowsUptoRow : OpenClaim := { program := "ytmgmgmbpldboiaa", sum := "6cade039894855c145a6822fc85cef21a92de06c0b65d3cb0d38ac56fa9ec9bc", func := "kist/kistlaw11.GroupsShows", spec := "groupsShows", unfollowed := true, recurses := true, apart := false, narrowed := true }
def GroupsShowsUptoSaid : Prop := groupsShowsUptoRow.holds Try.pinned (OpenSpec.upto groupsShowsSpec)

/-- 'kistlaw11.GroupsGets', WHERE WHAT IT READS IS OF BULK AT MOST 1048576: true; the input reads as it did. -/
def groupsGetsUptoRow : OpenClaim := { program := "ytmgmgmbpldboiaa", sum := "6cade039894855c145a6822fc85cef21a92de06c0b65d3cb0d38ac56fa9ec9bc", func := "kist/kistlaw11.GroupsGets", spec := "groupsGets", unfollowed := true, recurses := true, apart := false, narrowed := true }
def GroupsGetsUptoSaid : Prop := groupsGetsUptoRow.holds Try.pinned (OpenSpec.upto groupsGetsSpec)

end Rows
end Go.Proofs.Ytmgmgmbpldboiaa
