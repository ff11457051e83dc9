/-
  No cell of these rows narrows 'for every input' (looked for: loops, veiled, ifaces, maps, wideKeys, modest, calm, conditions, laid).
  DERIVED. THE GIVEN ROWS OF THIS SEAT. 6 by the template 'for every input the law returns true; each argument reads behind the call as it read before'; 0 by the template 'total and deterministic' (their statements: YtgoghcdigkgkmaaTotals.lean).
  GIVEN WITH THE SEED: the statements are not yours to turn. If you find one false, say at which input.
  Laid BY PROGRAM, IN A SANDBOX (cutbox-rows.mjs): the forced cells as the released guide's own fill.sh prints them over the translation 711d2d030f2dbf92… (all of the seat's roots in one cut). By AI agents, Wed Nov 11 2026. No macro, syntax, notation, axiom, sorry.
-/
import Derived.Test.YtgoghcdigkgkmaaChecked
import GoSem.Claim
import GoSem.ClaimJoined
import GoSem.ClaimMapViews
import Derived.JoinedTies
import Derived.KernelRfl
namespace Go.Proofs.Ytgoghcdigkgkmaa
/- THE CELL 'sum', in the pinned program and in every row, IS THE sha256 OF THE DUMP (.gsa) THAT YtgoghcdigkgkmaaProg.lean LOADS. Nothing in Lean hashes anything: it is a label: what it is worth is what the hold of that sum in a sandbox is worth. -/
noncomputable def Try.pinned : Pinned := { name := "ytgoghcdigkgkmaa", sum := "711d2d030f2dbf927dad81ad26be3ca6e6529f1a798eceb4780a5bae9f3f1381", checked := Try.checked }
namespace Rows
def none {H : Type} : Left H := { results := [], args := [] }

/-- 'kistlaw04.RotateCmps': WHATEVER THE INPUT: true; the input reads as it did. -/
def rotateCmpsSpec : ChangeSpec := { name := "rotateCmps", fn := fun _ => fun
  | [d1, d2, d3] => { results := [.lit (.bool true)], args := [d1, d2, d3] }
  | _ => none }
def rotateCmpsRow : OpenClaim := { program := "ytgoghcdigkgkmaa", sum := "711d2d030f2dbf927dad81ad26be3ca6e6529f1a798eceb4780a5bae9f3f1381", func := "kist/kistlaw04.RotateCmps", spec := "rotateCmps", inPlace := ["internal/bytealg.abigen_runtime_cmpstring"], unfollowed := true, recurses := true, apart := false }
def RotateCmpsSaid : Prop := rotateCmpsRow.holds Try.pinned (OpenSpec.ofChange rotateCmpsSpec)

/-- ITS FALSE NEIGHBOUR: 'it returns false'. Refute it at one input. -/
def rotateCmpsWrong : ChangeSpec := { name := "rotateCmps", fn := fun _ => fun
  | [d1, d2, d3] => { results := [.lit (.bool false)], args := [d1, d2, d3] }
  | _ => none }
def RotateCmpsWrongFalsely : Prop := rotateCmpsRow.holds Try.pinned (OpenSpec.ofChange rotateCmpsWrong)

/-- 'kistlaw04.RotateOrders': WHATEVER THE INPUT: true; the input reads as it did. -/
def rotateOrdersSpec : ChangeSpec := { name := "rotateOrders", fn := fun _ => fun
  | [d] => { results := [.lit (.bool true)], args := [d] }
  | _ => none }
def rotateOrdersRow : OpenClaim := { program := "ytgoghcdigkgkmaa", sum := "711d2d030f2dbf927dad81ad26be3ca6e6529f1a798eceb4780a5bae9f3f1381", func := "kist/kistlaw04.RotateOrders", spec := "rotateOrders", unfollowed := true, recurses := true, apart := false }
def RotateOrdersSaid : Prop := rotateOrdersRow.holds Try.pinned (OpenSpec.ofChange rotateOrdersSpec)

/-- ITS FALSE NEIGHBOUR: 'it returns false'. Refute it at one input. -/
def rotateOrdersWrong : ChangeSpec := { name := "rotateOrders", fn := fun _ => fun
  | [d] => { results := [.lit (.bool false)], args := [d] }
  | _ => none }
def RotateOrdersWrongFalsely : Prop := rotateOrdersRow.holds Try.pinned (OpenSpec.ofChange rotateOrdersWrong)

/-- 'kistlaw04.RotateRanks': WHATEVER THE INPUT: true; the input reads as it did. -/
def rotateRanksSpec : ChangeSpec := { name := "rotateRanks", fn := fun _ => fun
  | [d1, d2] => { results := [.lit (.bool true)], args := [d1, d2] }
  | _ => none }
def rotateRanksRow : OpenClaim := { program := "ytgoghcdigkgkmaa", sum := "711d2d030f2dbf927dad81ad26be3ca6e6529f1a798eceb4780a5bae9f3f1381", func := "kist/kistlaw04.RotateRanks", spec := "rotateRanks", unfollowed := true, recurses := true, apart := false }
def RotateRanksSaid : Prop := rotateRanksRow.holds Try.pinned (OpenSpec.ofChange rotateRanksSpec)

/-- ITS FALSE NEIGHBOUR: 'it returns false'. Refute it at one input. -/
def rotateRanksWrong : ChangeSpec := { name := "rotateRanks", fn := fun _ => fun
  | [d1, d2] => { results := [.lit (.bool false)], args := [d1, d2] }
  | _ => none }
def RotateRanksWrongFalsely : Prop := rotateRanksRow.holds Try.pinned (OpenSpec.ofChange rotateRanksWrong)

/-- 'kistlaw04.RotatePeriods': WHATEVER THE INPUT: true; the input reads as it did. -/
def rotatePeriodsSpec : ChangeSpec := { name := "rotatePeriods", fn := fun _ => fun
  | [d] => { results := [.lit (.bool true)], args := [d] }
  | _ => none }
def rotatePeriodsRow : OpenClaim := { program := "ytgoghcdigkgkmaa", sum := "711d2d030f2dbf927dad81ad26be3ca6e6529f1a798eceb4780a5bae9f3f1381", func := "kist/kistlaw04.RotatePeriods", spec := "rotatePeriods", unfollowed := true, recurses := true, apart := false }
def RotatePeriodsSaid : Prop := rotatePeriodsRow.holds Try.pinned (OpenSpec.ofChange rotatePeriodsSpec)

/-- ITS FALSE NEIGHBOUR: 'it returns false'. Refute it at one input. -/
def rotatePeriodsWrong : ChangeSpec := { name := "rotatePeriods", fn := fun _ => fun
  | [d] => { results := [.lit (.bool false)], args := [d] }
  | _ => none }
def RotatePeriodsWrongFalsely : Prop := rotatePeriodsRow.holds Try.pinned (OpenSpec.ofChange rotatePeriodsWrong)

/-- 'kistlaw04.RotateRises': WHATEVER THE INPUT: true; the input reads as it did. -/
def rotateRisesSpec : ChangeSpec := { name := "rotateRises", fn := fun _ => fun
  | [d] => { results := [.lit (.bool true)], args := [d] }
  | _ => none }
def rotateRisesRow : OpenClaim := { program := "ytgoghcdigkgkmaa", sum := "711d2d030f2dbf927dad81ad26be3ca6e6529f1a798eceb4780a5bae9f3f1381", func := "kist/kistlaw04.RotateRises", spec := "rotateRises", inPlace := ["internal/bytealg.abigen_runtime_cmpstring"], unfollowed := true, recurses := true, apart := false }
def RotateRisesSaid : Prop := rotateRisesRow.holds Try.pinned (OpenSpec.ofChange rotateRisesSpec)

/-- ITS FALSE NEIGHBOUR: 'it returns false'. Refute it at one input. -/
def rotateRisesWrong : ChangeSpec := { name := "rotateRises", fn := fun _ => fun
  | [d] => { results := [.lit (.bool false)], args := [d] }
  | _ => none }
def RotateRisesWrongFalsely : Prop := rotateRisesRow.holds Try.pinned (OpenSpec.ofChange rotateRisesWrong)

/-- 'kistlaw04.RotateTwice': WHATEVER THE INPUT: true; the input reads as it did. -/
def rotateTwiceSpec : ChangeSpec := { name := "rotateTwice", fn := fun _ => fun
  | [d1, d2] => { results := [.lit (.bool true)], args := [d1, d2] }
  | _ => none }
def rotateTwiceRow : OpenClaim := { program := "ytgoghcdigkgkmaa", sum := "711d2d030f2dbf927dad81ad26be3ca6e6529f1a798eceb4780a5bae9f3f1381", func := "kist/kistlaw04.RotateTwice", spec := "rotateTwice", inPlace := ["internal/bytealg.abigen_runtime_cmpstring"], unfollowed := true, recurses := true, apart := false }
def RotateTwiceSaid : Prop := rotateTwiceRow.holds Try.pinned (OpenSpec.ofChange rotateTwiceSpec)

/-- ITS FALSE NEIGHBOUR: 'it returns false'. Refute it at one input. -/
def rotateTwiceWrong : ChangeSpec := { name := "rotateTwice", fn := fun _ => fun
  | [d1, d2] => { results := [.lit (.bool false)], args := [d1, d2] }
  | _ => none }
def RotateTwiceWrongFalsely : Prop := rotateTwiceRow.holds Try.pinned (OpenSpec.ofChange rotateTwiceWrong)

/- THE SECOND FORM. 'bulk': how many values and letters a reading holds, each counted each time it is reached (what is shared counts as often as it is met; a slice's spare places count too). A statement '..UptoSaid' is the law's where the arguments, and the package variables that the reading takes, are together of bulk at most 1048576: NARROWER than '..Said'. Prove '..Said' where nothing that the law and all that it calls make is longer than what came in: it says more and counts as full. Else prove '..UptoSaid'. A law counts once. -/
mutual
def uptoBulk {H : Type} : DataW H → Nat
  | .lit (.string bytes) => bytes.length + 1
  | .lit _ => 1
  | .nil => 1
  | .ptr d => uptoBulk d + 1
  | .slice elems spare => uptoBulkAll elems + uptoBulkAll spare + 1
  | .agg parts => uptoBulkAll parts + 1
  | .iface _ d => uptoBulk d + 1
  | .map entries => uptoBulkEntries entries + 1
  | .held _ => 1
def uptoBulkAll {H : Type} : List (DataW H) → Nat
  | [] => 0
  | d :: r => uptoBulk d + uptoBulkAll r
def uptoBulkEntries {H : Type} : List (Lit × DataW H) → Nat
  | [] => 0
  | x :: r => uptoBulkEntry x + uptoBulkEntries r
def uptoBulkEntry {H : Type} : Lit × DataW H → Nat
  | (.string bytes, d) => bytes.length + uptoBulk d + 1
  | (_, d) => uptoBulk d + 1
 end
def uptoSmall : (H : Type) → List (DataW H) → Bool := fun _ ds => decide (uptoBulkAll ds ≤ 1048576)
def OpenSpec.upto (s : _root_.Go.ChangeSpec) : _root_.Go.OpenSpec := { _root_.Go.OpenSpec.ofChange s with cond := some uptoSmall }

/-- 'kistlaw04.RotateCmps', WHERE WHAT IT READS IS OF BULK AT MOST 1048576: true; the input reads as it did. -/
def rotateCmpsUptoRow : OpenClaim := { program := "ytgoghcdigkgkmaa", sum := "711d2d030f2dbf927dad81ad26be3ca6e6529f1a798eceb4780a5bae9f3f1381", func := "kist/kistlaw04.RotateCmps", spec := "rotateCmps", inPlace := ["internal/bytealg.abigen_runtime_cmpstring"], unfollowed := true, recurses := true, apart := false, narrowed := true }
def RotateCmpsUptoSaid : Prop := rotateCmpsUptoRow.holds Try.pinned (OpenSpec.upto rotateCmpsSpec)

/-- 'kistlaw04.RotateOrders', WHERE WHAT IT READS IS OF BULK AT MOST 1048576: true; the input reads as it did. -/
def rotateOrdersUptoRow : OpenClaim := { program := "ytgoghcdigkgkmaa", sum := "711d2d030f2dbf927dad81ad26be3ca6e6529f1a798eceb4780a5bae9f3f1381", func := "kist/kistlaw04.RotateOrders", spec := "rotateOrders", unfollowed := true, recurses := true, apart := false, narrowed := true }
def RotateOrdersUptoSaid : Prop := rotateOrdersUptoRow.holds Try.pinned (OpenSpec.upto rotateOrdersSpec)

/-- 'kistlaw04.RotateRanks', WHERE WHAT IT READS IS OF BULK AT MOST 1048576: true; the input reads as it did. -/
def rotateRanksUptoRow : OpenClaim := { program := "ytgoghcdigkgkmaa", sum := "711d2d030f2dbf927dad81ad26be3ca6e6529f1a798eceb4780a5bae9f3f1381", func := "kist/kistlaw04.RotateRanks", spec := "rotateRanks", unfollowed := true, recurses := true, apart := false, narrowed := true }
def RotateRanksUptoSaid : Prop := rotateRanksUptoRow.holds Try.pinned (OpenSpec.upto rotateRanksSpec)

/-- 'kistlaw04.RotatePeriods', WHERE WHAT IT READS IS OF BULK AT MOST 1048576: true; the input reads as it did. -/
def rotatePeriodsUptoRow : OpenClaim := { program := "ytgoghcdigkgkmaa", sum := "711d2d030f2dbf927dad81ad26be3ca6e6529f1a798eceb4780a5bae9f3f1381", func := "kist/kistlaw04.RotatePeriods", spec := "rotatePeriods", unfollowed := true, recurses := true, apart := false, narrowed := true }
def RotatePeriodsUptoSaid : Prop := rotatePeriodsUptoRow.holds Try.pinned (OpenSpec.upto rotatePeriodsSpec)

/-- 'kistlaw04.RotateRises', WHERE WHAT IT READS IS OF BULK AT MOST 1048576: true; the input reads as it did. -/
def rotateRisesUptoRow : OpenClaim := { program := "ytgoghcdigkgkmaa", sum := "711d2d030f2dbf927dad81ad26be3ca6e6529f1a798eceb4780a5bae9f3f1381", func := "kist/kistlaw04.RotateRises", spec := "rotateRises", inPlace := ["internal/bytealg.abigen_runtime_cmpstring"], unfollowed := true, recurses := true, apart := false, narrowed := true }
def RotateRisesUptoSaid : Prop := rotateRisesUptoRow.holds Try.pinned (OpenSpec.upto rotateRisesSpec)

/-- 'kistlaw04.RotateTwice', WHERE WHAT IT READS IS OF BULK AT MOST 1048576: true; the input reads as it did. -/
def rotateTwiceUptoRow : OpenClaim := { program := "ytgoghcdigkgkmaa", sum := "711d2d030f2dbf927dad81ad26be3ca6e6529f1a798eceb4780a5bae9f3f1381", func := "kist/kistlaw04.RotateTwice", spec := "rotateTwice", inPlace := ["internal/bytealg.abigen_runtime_cmpstring"], unfollowed := true, recurses := true, apart := false, narrowed := true }
def RotateTwiceUptoSaid : Prop := rotateTwiceUptoRow.holds Try.pinned (OpenSpec.upto rotateTwiceSpec)

end Rows
end Go.Proofs.Ytgoghcdigkgkmaa
