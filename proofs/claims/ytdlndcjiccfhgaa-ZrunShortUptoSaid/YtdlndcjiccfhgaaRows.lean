/-
  No cell of these rows narrows 'for every input' (looked for: loops, veiled, ifaces, maps, wideKeys, modest, calm, conditions, laid).
  DERIVED. THE GIVEN ROWS OF THIS SEAT. 5 by the template 'for every input the law returns true; each argument reads behind the call as it read before'; 0 by the template 'total and deterministic' (their statements: YtdlndcjiccfhgaaTotals.lean).
  GIVEN WITH THE SEED: the statements are not yours to turn. If you find one false, say at which input.
  Laid BY PROGRAM, IN A SANDBOX (cutbox-rows.mjs): the forced cells as the released guide's own fill.sh prints them over the translation 38748f605de34369… (all of the seat's roots in one cut). By AI agents, Wed Nov 11 2026. No macro, syntax, notation, axiom, sorry.
-/
import Derived.Test.YtdlndcjiccfhgaaChecked
import GoSem.Claim
import GoSem.ClaimJoined
import GoSem.ClaimMapViews
import Derived.JoinedTies
import Derived.KernelRfl
namespace Go.Proofs.Ytdlndcjiccfhgaa
/- THE CELL 'sum', in the pinned program and in every row, IS THE sha256 OF THE DUMP (.gsa) THAT YtdlndcjiccfhgaaProg.lean LOADS. Nothing in Lean hashes anything: it is a label: what it is worth is what the hold of that sum in a sandbox is worth. -/
noncomputable def Try.pinned : Pinned := { name := "ytdlndcjiccfhgaa", sum := "38748f605de3436958155993d155a619791d9de9e083037f446863f3aa16cc54", checked := Try.checked }
namespace Rows
def none {H : Type} : Left H := { results := [], args := [] }

/-- 'kistlaw07.ZrunRuns': WHATEVER THE INPUT: true; the input reads as it did. -/
def zrunRunsSpec : ChangeSpec := { name := "zrunRuns", fn := fun _ => fun
  | [d] => { results := [.lit (.bool true)], args := [d] }
  | _ => none }
def zrunRunsRow : OpenClaim := { program := "ytdlndcjiccfhgaa", sum := "38748f605de3436958155993d155a619791d9de9e083037f446863f3aa16cc54", func := "kist/kistlaw07.ZrunRuns", spec := "zrunRuns", apart := false }
def ZrunRunsSaid : Prop := zrunRunsRow.holds Try.pinned (OpenSpec.ofChange zrunRunsSpec)

/-- ITS FALSE NEIGHBOUR: 'it returns false'. Refute it at one input. -/
def zrunRunsWrong : ChangeSpec := { name := "zrunRuns", fn := fun _ => fun
  | [d] => { results := [.lit (.bool false)], args := [d] }
  | _ => none }
def ZrunRunsWrongFalsely : Prop := zrunRunsRow.holds Try.pinned (OpenSpec.ofChange zrunRunsWrong)

/-- 'kistlaw07.ZrunEncodes': WHATEVER THE INPUT: true; the input reads as it did. -/
def zrunEncodesSpec : ChangeSpec := { name := "zrunEncodes", fn := fun _ => fun
  | [d1, d2] => { results := [.lit (.bool true)], args := [d1, d2] }
  | _ => none }
def zrunEncodesRow : OpenClaim := { program := "ytdlndcjiccfhgaa", sum := "38748f605de3436958155993d155a619791d9de9e083037f446863f3aa16cc54", func := "kist/kistlaw07.ZrunEncodes", spec := "zrunEncodes", apart := false }
def ZrunEncodesSaid : Prop := zrunEncodesRow.holds Try.pinned (OpenSpec.ofChange zrunEncodesSpec)

/-- ITS FALSE NEIGHBOUR: 'it returns false'. Refute it at one input. -/
def zrunEncodesWrong : ChangeSpec := { name := "zrunEncodes", fn := fun _ => fun
  | [d1, d2] => { results := [.lit (.bool false)], args := [d1, d2] }
  | _ => none }
def ZrunEncodesWrongFalsely : Prop := zrunEncodesRow.holds Try.pinned (OpenSpec.ofChange zrunEncodesWrong)

/-- 'kistlaw07.ZrunDecodes': WHATEVER THE INPUT: true; the input reads as it did. -/
def zrunDecodesSpec : ChangeSpec := { name := "zrunDecodes", fn := fun _ => fun
  | [d1, d2, d3] => { results := [.lit (.bool true)], args := [d1, d2, d3] }
  | _ => none }
def zrunDecodesRow : OpenClaim := { program := "ytdlndcjiccfhgaa", sum := "38748f605de3436958155993d155a619791d9de9e083037f446863f3aa16cc54", func := "kist/kistlaw07.ZrunDecodes", spec := "zrunDecodes", apart := false }
def ZrunDecodesSaid : Prop := zrunDecodesRow.holds Try.pinned (OpenSpec.ofChange zrunDecodesSpec)

/-- ITS FALSE NEIGHBOUR: 'it returns false'. Refute it at one input. -/
def zrunDecodesWrong : ChangeSpec := { name := "zrunDecodes", fn := fun _ => fun
  | [d1, d2, d3] => { results := [.lit (.bool false)], args := [d1, d2, d3] }
  | _ => none }
def ZrunDecodesWrongFalsely : Prop := zrunDecodesRow.holds Try.pinned (OpenSpec.ofChange zrunDecodesWrong)

/-- 'kistlaw07.ZrunBack': WHATEVER THE INPUT: true; the input reads as it did. -/
def zrunBackSpec : ChangeSpec := { name := "zrunBack", fn := fun _ => fun
  | [d1, d2, d3] => { results := [.lit (.bool true)], args := [d1, d2, d3] }
  | _ => none }
def zrunBackRow : OpenClaim := { program := "ytdlndcjiccfhgaa", sum := "38748f605de3436958155993d155a619791d9de9e083037f446863f3aa16cc54", func := "kist/kistlaw07.ZrunBack", spec := "zrunBack", apart := false }
def ZrunBackSaid : Prop := zrunBackRow.holds Try.pinned (OpenSpec.ofChange zrunBackSpec)

/-- ITS FALSE NEIGHBOUR: 'it returns false'. Refute it at one input. -/
def zrunBackWrong : ChangeSpec := { name := "zrunBack", fn := fun _ => fun
  | [d1, d2, d3] => { results := [.lit (.bool false)], args := [d1, d2, d3] }
  | _ => none }
def ZrunBackWrongFalsely : Prop := zrunBackRow.holds Try.pinned (OpenSpec.ofChange zrunBackWrong)

/-- 'kistlaw07.ZrunShort': WHATEVER THE INPUT: true; the input reads as it did. -/
def zrunShortSpec : ChangeSpec := { name := "zrunShort", fn := fun _ => fun
  | [d1, d2, d3] => { results := [.lit (.bool true)], args := [d1, d2, d3] }
  | _ => none }
def zrunShortRow : OpenClaim := { program := "ytdlndcjiccfhgaa", sum := "38748f605de3436958155993d155a619791d9de9e083037f446863f3aa16cc54", func := "kist/kistlaw07.ZrunShort", spec := "zrunShort", apart := false }
def ZrunShortSaid : Prop := zrunShortRow.holds Try.pinned (OpenSpec.ofChange zrunShortSpec)

/-- ITS FALSE NEIGHBOUR: 'it returns false'. Refute it at one input. -/
def zrunShortWrong : ChangeSpec := { name := "zrunShort", fn := fun _ => fun
  | [d1, d2, d3] => { results := [.lit (.bool false)], args := [d1, d2, d3] }
  | _ => none }
def ZrunShortWrongFalsely : Prop := zrunShortRow.holds Try.pinned (OpenSpec.ofChange zrunShortWrong)

/- THE SECOND FORM. 'bulk': how many values and letters a reading holds, each counted each time it is reached (what is shared counts as often as it is met; a slice's spare places count too). A statement '..UptoSaid' is the law's where the arguments, and the package variables that the reading takes, are together of bulk at most 1048576: NARROWER than '..Said'. Prove '..Said' where nothing that the law and all that it calls make is longer than what came in: it says more and counts as full. Else prove '..UptoSaid'. A law counts once. -/
mutual
def uptoBulk {H : Type} : DataW H → Nat
  | .lit (.string bytes) => bytes.length + 1
  | .lit _ => 1
  | .nil => 1
  | .ptr d => uptoBulk d + 1
  | .slice elems spare => uptoBulkAll elems + uptoBulkAll spare + 1
  | .agg parts => uptoBulkAll parts + 1
  | .iface _ d => uptoBulk d + 1
  | .map entries => uptoBulkEntries entries + 1
  | .held _ => 1
def uptoBulkAll {H : Type} : List (DataW H) → Nat
  | [] => 0
  | d :: r => uptoBulk d + uptoBulkAll r
def uptoBulkEntries {H : Type} : List (Lit × DataW H) → Nat
  | [] => 0
  | x :: r => uptoBulkEntry x + uptoBulkEntries r
def uptoBulkEntry {H : Type} : Lit × DataW H → Nat
  | (.string bytes, d) => bytes.length + uptoBulk d + 1
  | (_, d) => uptoBulk d + 1
 end
def uptoSmall : (H : Type) → List (DataW H) → Bool := fun _ ds => decide (uptoBulkAll ds ≤ 1048576)
def OpenSpec.upto (s : _root_.Go.ChangeSpec) : _root_.Go.OpenSpec := { _root_.Go.OpenSpec.ofChange s with cond := some uptoSmall }

/-- 'kistlaw07.ZrunRuns', WHERE WHAT IT READS IS OF BULK AT MOST 1048576: true; the input reads as it did. -/
def zrunRunsUptoRow : OpenClaim := { program := "ytdlndcjiccfhgaa", sum := "38748f605de3436958155993d155a619791d9de9e083037f446863f3aa16cc54", func := "kist/kistlaw07.ZrunRuns", spec := "zrunRuns", apart := false, narrowed := true }
def ZrunRunsUptoSaid : Prop := zrunRunsUptoRow.holds Try.pinned (OpenSpec.upto zrunRunsSpec)

/-- 'kistlaw07.ZrunEncodes', WHERE WHAT IT READS IS OF BULK AT MOST 1048576: true; the input reads as it did. -/
def zrunEncodesUptoRow : OpenClaim := { program := "ytdlndcjiccfhgaa", sum := "38748f605de3436958155993d155a619791d9de9e083037f446863f3aa16cc54", func := "kist/kistlaw07.ZrunEncodes", spec := "zrunEncodes", apart := false, narrowed := true }
def ZrunEncodesUptoSaid : Prop := zrunEncodesUptoRow.holds Try.pinned (OpenSpec.upto zrunEncodesSpec)

/-- 'kistlaw07.ZrunDecodes', WHERE WHAT IT READS IS OF BULK AT MOST 1048576: true; the input reads as it did. -/
def zrunDecodesUptoRow : OpenClaim := { program := "ytdlndcjiccfhgaa", sum := "38748f605de3436958155993d155a619791d9de9e083037f446863f3aa16cc54", func := "kist/kistlaw07.ZrunDecodes", spec := "zrunDecodes", apart := false, narrowed := true }
def ZrunDecodesUptoSaid : Prop := zrunDecodesUptoRow.holds Try.pinned (OpenSpec.upto zrunDecodesSpec)

/-- 'kistlaw07.ZrunBack', WHERE WHAT IT READS IS OF BULK AT MOST 1048576: true; the input reads as it did. -/
def zrunBackUptoRow : OpenClaim := { program := "ytdlndcjiccfhgaa", sum := "38748f605de3436958155993d155a619791d9de9e083037f446863f3aa16cc54", func := "kist/kistlaw07.ZrunBack", spec := "zrunBack", apart := false, narrowed := true }
def ZrunBackUptoSaid : Prop := zrunBackUptoRow.holds Try.pinned (OpenSpec.upto zrunBackSpec)

/-- 'kistlaw07.ZrunShort', WHERE WHAT IT READS IS OF BULK AT MOST 1048576: true; the input reads as it did. -/
def zrunShortUptoRow : OpenClaim := { program := "ytdlndcjiccfhgaa", sum := "38748f605de3436958155993d155a619791d9de9e083037f446863f3aa16cc54", func := "kist/kistlaw07.ZrunShort", spec := "zrunShort", apart := false, narrowed := true }
def ZrunShortUptoSaid : Prop := zrunShortUptoRow.holds Try.pinned (OpenSpec.upto zrunShortSpec)

end Rows
end Go.Proofs.Ytdlndcjiccfhgaa
