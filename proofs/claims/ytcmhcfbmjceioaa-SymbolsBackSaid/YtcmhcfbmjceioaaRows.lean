/-
  No cell of these rows narrows 'for every input' (looked for: loops, veiled, ifaces, maps, wideKeys, modest, calm, conditions, laid).
  DERIVED. THE GIVEN ROWS OF THIS SEAT. 7 by the template 'for every input the law returns true; each argument reads behind the call as it read before'; 0 by the template 'total and deterministic' (their statements: YtcmhcfbmjceioaaTotals.lean).
  GIVEN WITH THE SEED: the statements are not yours to turn. If you find one false, say at which input.
  Laid BY PROGRAM, IN A SANDBOX (cutbox-rows.mjs): the forced cells as the released guide's own fill.sh prints them over the translation fe25af78882da540… (all of the seat's roots in one cut). By AI agents, Wed Nov 11 2026. No macro, syntax, notation, axiom, sorry.
-/
import Derived.Test.YtcmhcfbmjceioaaChecked
import GoSem.Claim
import GoSem.ClaimJoined
import GoSem.ClaimMapViews
import Derived.JoinedTies
import Derived.KernelRfl
namespace Go.Proofs.Ytcmhcfbmjceioaa
/- THE CELL 'sum', in the pinned program and in every row, IS THE sha256 OF THE DUMP (.gsa) THAT YtcmhcfbmjceioaaProg.lean LOADS. Nothing in Lean hashes anything: it is a label: what it is worth is what the hold of that sum in a sandbox is worth. -/
noncomputable def Try.pinned : Pinned := { name := "ytcmhcfbmjceioaa", sum := "fe25af78882da54026a969b036ca96c9ab7bbe0583369caa45848c3d6ebf2b2e", checked := Try.checked }
namespace Rows
def none {H : Type} : Left H := { results := [], args := [] }

/-- 'kistlaw06.SymbolsOfs': WHATEVER THE INPUT: true; the input reads as it did. -/
def symbolsOfsSpec : ChangeSpec := { name := "symbolsOfs", fn := fun _ => fun
  | [d] => { results := [.lit (.bool true)], args := [d] }
  | _ => none }
def symbolsOfsRow : OpenClaim := { program := "ytcmhcfbmjceioaa", sum := "fe25af78882da54026a969b036ca96c9ab7bbe0583369caa45848c3d6ebf2b2e", func := "kist/kistlaw06.SymbolsOfs", spec := "symbolsOfs", inPlace := ["internal/bytealg.IndexByte"], apart := false }
def SymbolsOfsSaid : Prop := symbolsOfsRow.holds Try.pinned (OpenSpec.ofChange symbolsOfsSpec)

/-- ITS FALSE NEIGHBOUR: 'it returns false'. Refute it at one input. -/
def symbolsOfsWrong : ChangeSpec := { name := "symbolsOfs", fn := fun _ => fun
  | [d] => { results := [.lit (.bool false)], args := [d] }
  | _ => none }
def SymbolsOfsWrongFalsely : Prop := symbolsOfsRow.holds Try.pinned (OpenSpec.ofChange symbolsOfsWrong)

/-- 'kistlaw06.SymbolsFronts': WHATEVER THE INPUT: true; the input reads as it did. -/
def symbolsFrontsSpec : ChangeSpec := { name := "symbolsFronts", fn := fun _ => fun
  | [d1, d2] => { results := [.lit (.bool true)], args := [d1, d2] }
  | _ => none }
def symbolsFrontsRow : OpenClaim := { program := "ytcmhcfbmjceioaa", sum := "fe25af78882da54026a969b036ca96c9ab7bbe0583369caa45848c3d6ebf2b2e", func := "kist/kistlaw06.SymbolsFronts", spec := "symbolsFronts", inPlace := ["internal/bytealg.IndexByte"], apart := false }
def SymbolsFrontsSaid : Prop := symbolsFrontsRow.holds Try.pinned (OpenSpec.ofChange symbolsFrontsSpec)

/-- ITS FALSE NEIGHBOUR: 'it returns false'. Refute it at one input. -/
def symbolsFrontsWrong : ChangeSpec := { name := "symbolsFronts", fn := fun _ => fun
  | [d1, d2] => { results := [.lit (.bool false)], args := [d1, d2] }
  | _ => none }
def SymbolsFrontsWrongFalsely : Prop := symbolsFrontsRow.holds Try.pinned (OpenSpec.ofChange symbolsFrontsWrong)

/-- 'kistlaw06.SymbolsBacks': WHATEVER THE INPUT: true; the input reads as it did. -/
def symbolsBacksSpec : ChangeSpec := { name := "symbolsBacks", fn := fun _ => fun
  | [d1, d2] => { results := [.lit (.bool true)], args := [d1, d2] }
  | _ => none }
def symbolsBacksRow : OpenClaim := { program := "ytcmhcfbmjceioaa", sum := "fe25af78882da54026a969b036ca96c9ab7bbe0583369caa45848c3d6ebf2b2e", func := "kist/kistlaw06.SymbolsBacks", spec := "symbolsBacks", inPlace := ["internal/bytealg.IndexByte"], apart := false }
def SymbolsBacksSaid : Prop := symbolsBacksRow.holds Try.pinned (OpenSpec.ofChange symbolsBacksSpec)

/-- ITS FALSE NEIGHBOUR: 'it returns false'. Refute it at one input. -/
def symbolsBacksWrong : ChangeSpec := { name := "symbolsBacks", fn := fun _ => fun
  | [d1, d2] => { results := [.lit (.bool false)], args := [d1, d2] }
  | _ => none }
def SymbolsBacksWrongFalsely : Prop := symbolsBacksRow.holds Try.pinned (OpenSpec.ofChange symbolsBacksWrong)

/-- 'kistlaw06.SymbolsShows': WHATEVER THE INPUT: true; the input reads as it did. -/
def symbolsShowsSpec : ChangeSpec := { name := "symbolsShows", fn := fun _ => fun
  | [d] => { results := [.lit (.bool true)], args := [d] }
  | _ => none }
def symbolsShowsRow : OpenClaim := { program := "ytcmhcfbmjceioaa", sum := "fe25af78882da54026a969b036ca96c9ab7bbe0583369caa45848c3d6ebf2b2e", func := "kist/kistlaw06.SymbolsShows", spec := "symbolsShows", inPlace := ["internal/bytealg.IndexByte"], apart := false }
def SymbolsShowsSaid : Prop := symbolsShowsRow.holds Try.pinned (OpenSpec.ofChange symbolsShowsSpec)

/-- ITS FALSE NEIGHBOUR: 'it returns false'. Refute it at one input. -/
def symbolsShowsWrong : ChangeSpec := { name := "symbolsShows", fn := fun _ => fun
  | [d] => { results := [.lit (.bool false)], args := [d] }
  | _ => none }
def SymbolsShowsWrongFalsely : Prop := symbolsShowsRow.holds Try.pinned (OpenSpec.ofChange symbolsShowsWrong)

/-- 'kistlaw06.SymbolsTakes': WHATEVER THE INPUT: true; the input reads as it did. -/
def symbolsTakesSpec : ChangeSpec := { name := "symbolsTakes", fn := fun _ => fun
  | [d1, d2] => { results := [.lit (.bool true)], args := [d1, d2] }
  | _ => none }
def symbolsTakesRow : OpenClaim := { program := "ytcmhcfbmjceioaa", sum := "fe25af78882da54026a969b036ca96c9ab7bbe0583369caa45848c3d6ebf2b2e", func := "kist/kistlaw06.SymbolsTakes", spec := "symbolsTakes", inPlace := ["internal/bytealg.IndexByte"], unfollowed := true, recurses := true, apart := false }
def SymbolsTakesSaid : Prop := symbolsTakesRow.holds Try.pinned (OpenSpec.ofChange symbolsTakesSpec)

/-- ITS FALSE NEIGHBOUR: 'it returns false'. Refute it at one input. -/
def symbolsTakesWrong : ChangeSpec := { name := "symbolsTakes", fn := fun _ => fun
  | [d1, d2] => { results := [.lit (.bool false)], args := [d1, d2] }
  | _ => none }
def SymbolsTakesWrongFalsely : Prop := symbolsTakesRow.holds Try.pinned (OpenSpec.ofChange symbolsTakesWrong)

/-- 'kistlaw06.SymbolsBack': WHATEVER THE INPUT: true; the input reads as it did. -/
def symbolsBackSpec : ChangeSpec := { name := "symbolsBack", fn := fun _ => fun
  | [d1, d2] => { results := [.lit (.bool true)], args := [d1, d2] }
  | _ => none }
def symbolsBackRow : OpenClaim := { program := "ytcmhcfbmjceioaa", sum := "fe25af78882da54026a969b036ca96c9ab7bbe0583369caa45848c3d6ebf2b2e", func := "kist/kistlaw06.SymbolsBack", spec := "symbolsBack", inPlace := ["internal/bytealg.IndexByte"], unfollowed := true, recurses := true, apart := false }
def SymbolsBackSaid : Prop := symbolsBackRow.holds Try.pinned (OpenSpec.ofChange symbolsBackSpec)

/-- ITS FALSE NEIGHBOUR: 'it returns false'. Refute it at one input. -/
def symbolsBackWrong : ChangeSpec := { name := "symbolsBack", fn := fun _ => fun
  | [d1, d2] => { results := [.lit (.bool false)], args := [d1, d2] }
  | _ => none }
def SymbolsBackWrongFalsely : Prop := symbolsBackRow.holds Try.pinned (OpenSpec.ofChange symbolsBackWrong)

/-- 'kistlaw06.SymbolsZeros': WHATEVER THE INPUT: true; the input reads as it did. -/
def symbolsZerosSpec : ChangeSpec := { name := "symbolsZeros", fn := fun _ => fun
  | [d] => { results := [.lit (.bool true)], args := [d] }
  | _ => none }
def symbolsZerosRow : OpenClaim := { program := "ytcmhcfbmjceioaa", sum := "fe25af78882da54026a969b036ca96c9ab7bbe0583369caa45848c3d6ebf2b2e", func := "kist/kistlaw06.SymbolsZeros", spec := "symbolsZeros", inPlace := ["internal/bytealg.IndexByte"], apart := false }
def SymbolsZerosSaid : Prop := symbolsZerosRow.holds Try.pinned (OpenSpec.ofChange symbolsZerosSpec)

/-- ITS FALSE NEIGHBOUR: 'it returns false'. Refute it at one input. -/
def symbolsZerosWrong : ChangeSpec := { name := "symbolsZeros", fn := fun _ => fun
  | [d] => { results := [.lit (.bool false)], args := [d] }
  | _ => none }
def SymbolsZerosWrongFalsely : Prop := symbolsZerosRow.holds Try.pinned (OpenSpec.ofChange symbolsZerosWrong)

/- THE SECOND FORM. 'bulk': how many values and letters a reading holds, each counted each time it is reached (what is shared counts as often as it is met; a slice's spare places count too). A statement '..UptoSaid' is the law's where the arguments, and the package variables that the reading takes, are together of bulk at most 1048576: NARROWER than '..Said'. Prove '..Said' where nothing that the law and all that it calls make is longer than what came in: it says more and counts as full. Else prove '..UptoSaid'. A law counts once. -/
mutual
def uptoBulk {H : Type} : DataW H → Nat
  | .lit (.string bytes) => bytes.length + 1
  | .lit _ => 1
  | .nil => 1
  | .ptr d => uptoBulk d + 1
  | .slice elems spare => uptoBulkAll elems + uptoBulkAll spare + 1
  | .agg parts => uptoBulkAll parts + 1
  | .iface _ d => uptoBulk d + 1
  | .map entries => uptoBulkEntries entries + 1
  | .held _ => 1
def uptoBulkAll {H : Type} : List (DataW H) → Nat
  | [] => 0
  | d :: r => uptoBulk d + uptoBulkAll r
def uptoBulkEntries {H : Type} : List (Lit × DataW H) → Nat
  | [] => 0
  | x :: r => uptoBulkEntry x + uptoBulkEntries r
def uptoBulkEntry {H : Type} : Lit × DataW H → Nat
  | (.string bytes, d) => bytes.length + uptoBulk d + 1
  | (_, d) => uptoBulk d + 1
 end
def uptoSmall : (H : Type) → List (DataW H) → Bool := fun _ ds => decide (uptoBulkAll ds ≤ 1048576)
def OpenSpec.upto (s : _root_.Go.ChangeSpec) : _root_.Go.OpenSpec := { _root_.Go.OpenSpec.ofChange s with cond := some uptoSmall }

/-- 'kistlaw06.SymbolsOfs', WHERE WHAT IT READS IS OF BULK AT MOST 1048576: true; the input reads as it did. -/
def symbolsOfsUptoRow : OpenClaim := { program := "ytcmhcfbmjceioaa", sum := "fe25af78882da54026a969b036ca96c9ab7bbe0583369caa45848c3d6ebf2b2e", func := "kist/kistlaw06.SymbolsOfs", spec := "symbolsOfs", inPlace := ["internal/bytealg.IndexByte"], apart := false, narrowed := true }
def SymbolsOfsUptoSaid : Prop := symbolsOfsUptoRow.holds Try.pinned (OpenSpec.upto symbolsOfsSpec)

/-- 'kistlaw06.SymbolsFronts', WHERE WHAT IT READS IS OF BULK AT MOST 1048576: true; the input reads as it did. -/
def symbolsFrontsUptoRow : OpenClaim := { program := "ytcmhcfbmjceioaa", sum := "fe25af78882da54026a969b036ca96c9ab7bbe0583369caa45848c3d6ebf2b2e", func := "kist/kistlaw06.SymbolsFronts", spec := "symbolsFronts", inPlace := ["internal/bytealg.IndexByte"], apart := false, narrowed := true }
def SymbolsFrontsUptoSaid : Prop := symbolsFrontsUptoRow.holds Try.pinned (OpenSpec.upto symbolsFrontsSpec)

/-- 'kistlaw06.SymbolsBacks', WHERE WHAT IT READS IS OF BULK AT MOST 1048576: true; the input reads as it did. -/
def symbolsBacksUptoRow : OpenClaim := { program := "ytcmhcfbmjceioaa", sum := "fe25af78882da54026a969b036ca96c9ab7bbe0583369caa45848c3d6ebf2b2e", func := "kist/kistlaw06.SymbolsBacks", spec := "symbolsBacks", inPlace := ["internal/bytealg.IndexByte"], apart := false, narrowed := true }
def SymbolsBacksUptoSaid : Prop := symbolsBacksUptoRow.holds Try.pinned (OpenSpec.upto symbolsBacksSpec)

/-- 'kistlaw06.SymbolsShows', WHERE WHAT IT READS IS OF BULK AT MOST 1048576: true; the input reads as it did. -/
def symbolsShowsUptoRow : OpenClaim := { program := "ytcmhcfbmjceioaa", sum := "fe25af78882da54026a969b036ca96c9ab7bbe0583369caa45848c3d6ebf2b2e", func := "kist/kistlaw06.SymbolsShows", spec := "symbolsShows", inPlace := ["internal/bytealg.IndexByte"], apart := false, narrowed := true }
def SymbolsShowsUptoSaid : Prop := symbolsShowsUptoRow.holds Try.pinned (OpenSpec.upto symbolsShowsSpec)

/-- 'kistlaw06.SymbolsTakes', WHERE WHAT IT READS IS OF BULK AT MOST 1048576: true; the input reads as it did. -/
def symbolsTakesUptoRow : OpenClaim := { program := "ytcmhcfbmjceioaa", sum := "fe25af78882da54026a969b036ca96c9ab7bbe0583369caa45848c3d6ebf2b2e", func := "kist/kistlaw06.SymbolsTakes", spec := "symbolsTakes", inPlace := ["internal/bytealg.IndexByte"], unfollowed := true, recurses := true, apart := false, narrowed := true }
def SymbolsTakesUptoSaid : Prop := symbolsTakesUptoRow.holds Try.pinned (OpenSpec.upto symbolsTakesSpec)

/-- 'kistlaw06.SymbolsBack', WHERE WHAT IT READS IS OF BULK AT MOST 1048576: true; the input reads as it did. -/
def symbolsBackUptoRow : OpenClaim := { program := "ytcmhcfbmjceioaa", sum := "fe25af78882da54026a969b036ca96c9ab7bbe0583369caa45848c3d6ebf2b2e", func := "kist/kistlaw06.SymbolsBack", spec := "symbolsBack", inPlace := ["internal/bytealg.IndexByte"], unfollowed := true, recurses := true, apart := false, narrowed := true }
def SymbolsBackUptoSaid : Prop := symbolsBackUptoRow.holds Try.pinned (OpenSpec.upto symbolsBackSpec)

/-- 'kistlaw06.SymbolsZeros', WHERE WHAT IT READS IS OF BULK AT MOST 1048576: true; the input reads as it did. -/
def symbolsZerosUptoRow : OpenClaim := { program := "ytcmhcfbmjceioaa", sum := "fe25af78882da54026a969b036ca96c9ab7bbe0583369caa45848c3d6ebf2b2e", func := "kist/kistlaw06.SymbolsZeros", spec := "symbolsZeros", inPlace := ["internal/bytealg.IndexByte"], apart := false, narrowed := true }
def SymbolsZerosUptoSaid : Prop := symbolsZerosUptoRow.holds Try.pinned (OpenSpec.upto symbolsZerosSpec)

end Rows
end Go.Proofs.Ytcmhcfbmjceioaa
