/-
  No cell of these rows narrows 'for every input' (looked for: loops, veiled, ifaces, maps, wideKeys, modest, calm, conditions, laid).
  DERIVED. THE GIVEN ROWS OF THIS SEAT. 6 by the template 'for every input the law returns true; each argument reads behind the call as it read before'; 0 by the template 'total and deterministic' (their statements: YtlnopdlpdnengaaTotals.lean).
  GIVEN WITH THE SEED: the statements are not yours to turn. If you find one false, say at which input.
  Laid BY PROGRAM, IN A SANDBOX (cutbox-rows.mjs): the forced cells as the released guide's own fill.sh prints them over the translation 3e2cc29d0e210060… (all of the seat's roots in one cut). By AI agents, Wed Nov 11 2026. No macro, syntax, notation, axiom, sorry.
-/
import Derived.Test.YtlnopdlpdnengaaChecked
import GoSem.Claim
import GoSem.ClaimJoined
import GoSem.ClaimMapViews
import Derived.JoinedTies
import Derived.KernelRfl
namespace Go.Proofs.Ytlnopdlpdnengaa
/- THE CELL 'sum', in the pinned program and in every row, IS THE sha256 OF THE DUMP (.gsa) THAT YtlnopdlpdnengaaProg.lean LOADS. Nothing in Lean hashes anything: it is a label: what it is worth is what the hold of that sum in a sandbox is worth. -/
noncomputable def Try.pinned : Pinned := { name := "ytlnopdlpdnengaa", sum := "3e2cc29d0e210060d4840d9317cc618305a101d3e8fbbb016eb0ba94dfbb2e73", checked := Try.checked }
namespace Rows
def none {H : Type} : Left H := { results := [], args := [] }

/-- 'kistlaw14.PathsCleans': WHATEVER THE INPUT: true; the input reads as it did. -/
def pathsCleansSpec : ChangeSpec := { name := "pathsCleans", fn := fun _ => fun
  | [d] => { results := [.lit (.bool true)], args := [d] }
  | _ => none }
def pathsCleansRow : OpenClaim := { program := "ytlnopdlpdnengaa", sum := "3e2cc29d0e210060d4840d9317cc618305a101d3e8fbbb016eb0ba94dfbb2e73", func := "kist/kistlaw14.PathsCleans", spec := "pathsCleans", inPlace := ["internal/bytealg.IndexByteString", "internal/bytealg.IndexString", "internal/bytealg.abigen_runtime_cmpstring"], unfollowed := true, recurses := true, named := ["internal/bytealg.MaxLen"], apart := false }
def PathsCleansSaid : Prop := pathsCleansRow.holds Try.pinned (OpenSpec.ofChange pathsCleansSpec)

/-- ITS FALSE NEIGHBOUR: 'it returns false'. Refute it at one input. -/
def pathsCleansWrong : ChangeSpec := { name := "pathsCleans", fn := fun _ => fun
  | [d] => { results := [.lit (.bool false)], args := [d] }
  | _ => none }
def PathsCleansWrongFalsely : Prop := pathsCleansRow.holds Try.pinned (OpenSpec.ofChange pathsCleansWrong)

/-- 'kistlaw14.PathsParts': WHATEVER THE INPUT: true; the input reads as it did. -/
def pathsPartsSpec : ChangeSpec := { name := "pathsParts", fn := fun _ => fun
  | [d] => { results := [.lit (.bool true)], args := [d] }
  | _ => none }
def pathsPartsRow : OpenClaim := { program := "ytlnopdlpdnengaa", sum := "3e2cc29d0e210060d4840d9317cc618305a101d3e8fbbb016eb0ba94dfbb2e73", func := "kist/kistlaw14.PathsParts", spec := "pathsParts", inPlace := ["internal/bytealg.CountString", "internal/bytealg.IndexByteString", "internal/bytealg.IndexString", "internal/bytealg.abigen_runtime_cmpstring"], unfollowed := true, recurses := true, named := ["internal/bytealg.MaxLen"], apart := false }
def PathsPartsSaid : Prop := pathsPartsRow.holds Try.pinned (OpenSpec.ofChange pathsPartsSpec)

/-- ITS FALSE NEIGHBOUR: 'it returns false'. Refute it at one input. -/
def pathsPartsWrong : ChangeSpec := { name := "pathsParts", fn := fun _ => fun
  | [d] => { results := [.lit (.bool false)], args := [d] }
  | _ => none }
def PathsPartsWrongFalsely : Prop := pathsPartsRow.holds Try.pinned (OpenSpec.ofChange pathsPartsWrong)

/-- 'kistlaw14.PathsCmps': WHATEVER THE INPUT: true; the input reads as it did. -/
def pathsCmpsSpec : ChangeSpec := { name := "pathsCmps", fn := fun _ => fun
  | [d1, d2] => { results := [.lit (.bool true)], args := [d1, d2] }
  | _ => none }
def pathsCmpsRow : OpenClaim := { program := "ytlnopdlpdnengaa", sum := "3e2cc29d0e210060d4840d9317cc618305a101d3e8fbbb016eb0ba94dfbb2e73", func := "kist/kistlaw14.PathsCmps", spec := "pathsCmps", inPlace := ["internal/bytealg.IndexByteString", "internal/bytealg.IndexString", "internal/bytealg.abigen_runtime_cmpstring"], unfollowed := true, recurses := true, named := ["internal/bytealg.MaxLen"], apart := false }
def PathsCmpsSaid : Prop := pathsCmpsRow.holds Try.pinned (OpenSpec.ofChange pathsCmpsSpec)

/-- ITS FALSE NEIGHBOUR: 'it returns false'. Refute it at one input. -/
def pathsCmpsWrong : ChangeSpec := { name := "pathsCmps", fn := fun _ => fun
  | [d1, d2] => { results := [.lit (.bool false)], args := [d1, d2] }
  | _ => none }
def PathsCmpsWrongFalsely : Prop := pathsCmpsRow.holds Try.pinned (OpenSpec.ofChange pathsCmpsWrong)

/-- 'kistlaw14.PathsSplits': WHATEVER THE INPUT: true; the input reads as it did. -/
def pathsSplitsSpec : ChangeSpec := { name := "pathsSplits", fn := fun _ => fun
  | [d1, d2] => { results := [.lit (.bool true)], args := [d1, d2] }
  | _ => none }
def pathsSplitsRow : OpenClaim := { program := "ytlnopdlpdnengaa", sum := "3e2cc29d0e210060d4840d9317cc618305a101d3e8fbbb016eb0ba94dfbb2e73", func := "kist/kistlaw14.PathsSplits", spec := "pathsSplits", inPlace := ["internal/bytealg.IndexByteString", "internal/bytealg.IndexString", "internal/bytealg.abigen_runtime_cmpstring"], unfollowed := true, recurses := true, named := ["internal/bytealg.MaxLen"], apart := false }
def PathsSplitsSaid : Prop := pathsSplitsRow.holds Try.pinned (OpenSpec.ofChange pathsSplitsSpec)

/-- ITS FALSE NEIGHBOUR: 'it returns false'. Refute it at one input. -/
def pathsSplitsWrong : ChangeSpec := { name := "pathsSplits", fn := fun _ => fun
  | [d1, d2] => { results := [.lit (.bool false)], args := [d1, d2] }
  | _ => none }
def PathsSplitsWrongFalsely : Prop := pathsSplitsRow.holds Try.pinned (OpenSpec.ofChange pathsSplitsWrong)

/-- 'kistlaw14.PathsTwice': WHATEVER THE INPUT: true; the input reads as it did. -/
def pathsTwiceSpec : ChangeSpec := { name := "pathsTwice", fn := fun _ => fun
  | [d] => { results := [.lit (.bool true)], args := [d] }
  | _ => none }
def pathsTwiceRow : OpenClaim := { program := "ytlnopdlpdnengaa", sum := "3e2cc29d0e210060d4840d9317cc618305a101d3e8fbbb016eb0ba94dfbb2e73", func := "kist/kistlaw14.PathsTwice", spec := "pathsTwice", inPlace := ["internal/bytealg.IndexByteString", "internal/bytealg.IndexString", "internal/bytealg.abigen_runtime_cmpstring", "internal/bytealg.CountString"], unfollowed := true, recurses := true, named := ["internal/bytealg.MaxLen"], apart := false }
def PathsTwiceSaid : Prop := pathsTwiceRow.holds Try.pinned (OpenSpec.ofChange pathsTwiceSpec)

/-- ITS FALSE NEIGHBOUR: 'it returns false'. Refute it at one input. -/
def pathsTwiceWrong : ChangeSpec := { name := "pathsTwice", fn := fun _ => fun
  | [d] => { results := [.lit (.bool false)], args := [d] }
  | _ => none }
def PathsTwiceWrongFalsely : Prop := pathsTwiceRow.holds Try.pinned (OpenSpec.ofChange pathsTwiceWrong)

/-- 'kistlaw14.PathsOrder': WHATEVER THE INPUT: true; the input reads as it did. -/
def pathsOrderSpec : ChangeSpec := { name := "pathsOrder", fn := fun _ => fun
  | [d1, d2, d3] => { results := [.lit (.bool true)], args := [d1, d2, d3] }
  | _ => none }
def pathsOrderRow : OpenClaim := { program := "ytlnopdlpdnengaa", sum := "3e2cc29d0e210060d4840d9317cc618305a101d3e8fbbb016eb0ba94dfbb2e73", func := "kist/kistlaw14.PathsOrder", spec := "pathsOrder", inPlace := ["internal/bytealg.IndexByteString", "internal/bytealg.IndexString", "internal/bytealg.abigen_runtime_cmpstring"], unfollowed := true, recurses := true, named := ["internal/bytealg.MaxLen"], apart := false }
def PathsOrderSaid : Prop := pathsOrderRow.holds Try.pinned (OpenSpec.ofChange pathsOrderSpec)

/-- ITS FALSE NEIGHBOUR: 'it returns false'. Refute it at one input. -/
def pathsOrderWrong : ChangeSpec := { name := "pathsOrder", fn := fun _ => fun
  | [d1, d2, d3] => { results := [.lit (.bool false)], args := [d1, d2, d3] }
  | _ => none }
def PathsOrderWrongFalsely : Prop := pathsOrderRow.holds Try.pinned (OpenSpec.ofChange pathsOrderWrong)

/- THE SECOND FORM. 'bulk': how many values and letters a reading holds, each counted each time it is reached (what is shared counts as often as it is met; a slice's spare places count too). A statement '..UptoSaid' is the law's where the arguments, and the package variables that the reading takes, are together of bulk at most 1048576: NARROWER than '..Said'. Prove '..Said' where nothing that the law and all that it calls make is longer than what came in: it says more and counts as full. Else prove '..UptoSaid'. A law counts once. -/
mutual
def uptoBulk {H : Type} : DataW H → Nat
  | .lit (.string bytes) => bytes.length + 1
  | .lit _ => 1
  | .nil => 1
  | .ptr d => uptoBulk d + 1
  | .slice elems spare => uptoBulkAll elems + uptoBulkAll spare + 1
  | .agg parts => uptoBulkAll parts + 1
  | .iface _ d => uptoBulk d + 1
  | .map entries => uptoBulkEntries entries + 1
  | .held _ => 1
def uptoBulkAll {H : Type} : List (DataW H) → Nat
  | [] => 0
  | d :: r => uptoBulk d + uptoBulkAll r
def uptoBulkEntries {H : Type} : List (Lit × DataW H) → Nat
  | [] => 0
  | x :: r => uptoBulkEntry x + uptoBulkEntries r
def uptoBulkEntry {H : Type} : Lit × DataW H → Nat
  | (.string bytes, d) => bytes.length + uptoBulk d + 1
  | (_, d) => uptoBulk d + 1
 end
def uptoSmall : (H : Type) → List (DataW H) → Bool := fun _ ds => decide (uptoBulkAll ds ≤ 1048576)
def OpenSpec.upto (s : _root_.Go.ChangeSpec) : _root_.Go.OpenSpec := { _root_.Go.OpenSpec.ofChange s with cond := some uptoSmall }

/-- 'kistlaw14.PathsCleans', WHERE WHAT IT READS IS OF BULK AT MOST 1048576: true; the input reads as it did. -/
def pathsCleansUptoRow : OpenClaim := { program := "ytlnopdlpdnengaa", sum := "3e2cc29d0e210060d4840d9317cc618305a101d3e8fbbb016eb0ba94dfbb2e73", func := "kist/kistlaw14.PathsCleans", spec := "pathsCleans", inPlace := ["internal/bytealg.IndexByteString", "internal/bytealg.IndexString", "internal/bytealg.abigen_runtime_cmpstring"], unfollowed := true, recurses := true, named := ["internal/bytealg.MaxLen"], apart := false, narrowed := true }
def PathsCleansUptoSaid : Prop := pathsCleansUptoRow.holds Try.pinned (OpenSpec.upto pathsCleansSpec)

/-- 'kistlaw14.PathsParts', WHERE WHAT IT READS IS OF BULK AT MOST 1048576: true; the input reads as it did. -/
def pathsPartsUptoRow : OpenClaim := { program := "ytlnopdlpdnengaa", sum := "3e2cc29d0e210060d4840d9317cc618305a101d3e8fbbb016eb0ba94dfbb2e73", func := "kist/kistlaw14.PathsParts", spec := "pathsParts", inPlace := ["internal/bytealg.CountString", "internal/bytealg.IndexByteString", "internal/bytealg.IndexString", "internal/bytealg.abigen_runtime_cmpstring"], unfollowed := true, recurses := true, named := ["internal/bytealg.MaxLen"], apart := false, narrowed := true }
def PathsPartsUptoSaid : Prop := pathsPartsUptoRow.holds Try.pinned (OpenSpec.upto pathsPartsSpec)

/-- 'kistlaw14.PathsCmps', WHERE WHAT IT READS IS OF BULK AT MOST 1048576: true; the input reads as it did. -/
def pathsCmpsUptoRow : OpenClaim := { program := "ytlnopdlpdnengaa", sum := "3e2cc29d0e210060d4840d9317cc618305a101d3e8fbbb016eb0ba94dfbb2e73", func := "kist/kistlaw14.PathsCmps", spec := "pathsCmps", inPlace := ["internal/bytealg.IndexByteString", "internal/bytealg.IndexString", "internal/bytealg.abigen_runtime_cmpstring"], unfollowed := true, recurses := true, named := ["internal/bytealg.MaxLen"], apart := false, narrowed := true }
def PathsCmpsUptoSaid : Prop := pathsCmpsUptoRow.holds Try.pinned (OpenSpec.upto pathsCmpsSpec)

/-- 'kistlaw14.PathsSplits', WHERE WHAT IT READS IS OF BULK AT MOST 1048576: true; the input reads as it did. -/
def pathsSplitsUptoRow : OpenClaim := { program := "ytlnopdlpdnengaa", sum := "3e2cc29d0e210060d4840d9317cc618305a101d3e8fbbb016eb0ba94dfbb2e73", func := "kist/kistlaw14.PathsSplits", spec := "pathsSplits", inPlace := ["internal/bytealg.IndexByteString", "internal/bytealg.IndexString", "internal/bytealg.abigen_runtime_cmpstring"], unfollowed := true, recurses := true, named := ["internal/bytealg.MaxLen"], apart := false, narrowed := true }
def PathsSplitsUptoSaid : Prop := pathsSplitsUptoRow.holds Try.pinned (OpenSpec.upto pathsSplitsSpec)

/-- 'kistlaw14.PathsTwice', WHERE WHAT IT READS IS OF BULK AT MOST 1048576: true; the input reads as it did. -/
def pathsTwiceUptoRow : OpenClaim := { program := "ytlnopdlpdnengaa", sum := "3e2cc29d0e210060d4840d9317cc618305a101d3e8fbbb016eb0ba94dfbb2e73", func := "kist/kistlaw14.PathsTwice", spec := "pathsTwice", inPlace := ["internal/bytealg.IndexByteString", "internal/bytealg.IndexString", "internal/bytealg.abigen_runtime_cmpstring", "internal/bytealg.CountString"], unfollowed := true, recurses := true, named := ["internal/bytealg.MaxLen"], apart := false, narrowed := true }
def PathsTwiceUptoSaid : Prop := pathsTwiceUptoRow.holds Try.pinned (OpenSpec.upto pathsTwiceSpec)

/-- 'kistlaw14.PathsOrder', WHERE WHAT IT READS IS OF BULK AT MOST 1048576: true; the input reads as it did. -/
def pathsOrderUptoRow : OpenClaim := { program := "ytlnopdlpdnengaa", sum := "3e2cc29d0e210060d4840d9317cc618305a101d3e8fbbb016eb0ba94dfbb2e73", func := "kist/kistlaw14.PathsOrder", spec := "pathsOrder", inPlace := ["internal/bytealg.IndexByteString", "internal/bytealg.IndexString", "internal/bytealg.abigen_runtime_cmpstring"], unfollowed := true, recurses := true, named := ["internal/bytealg.MaxLen"], apart := false, narrowed := true }
def PathsOrderUptoSaid : Prop := pathsOrderUptoRow.holds Try.pinned (OpenSpec.upto pathsOrderSpec)

end Rows
end Go.Proofs.Ytlnopdlpdnengaa
