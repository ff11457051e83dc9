/-
  No cell of these rows narrows 'for every input' (looked for: loops, veiled, ifaces, maps, wideKeys, modest, calm, conditions, laid).
  DERIVED. THE GIVEN ROWS OF THIS SEAT. 6 by the template 'for every input the law returns true; each argument reads behind the call as it read before'; 0 by the template 'total and deterministic' (their statements: YtkhabmbclepjpaaTotals.lean).
  GIVEN WITH THE SEED: the statements are not yours to turn. If you find one false, say at which input.
  Laid BY PROGRAM, IN A SANDBOX (cutbox-rows.mjs): the forced cells as the released guide's own fill.sh prints them over the translation ce6ca4886e940b04… (all of the seat's roots in one cut). By AI agents, Wed Nov 11 2026. No macro, syntax, notation, axiom, sorry.
-/
import Derived.Test.YtkhabmbclepjpaaChecked
import GoSem.Claim
import GoSem.ClaimJoined
import GoSem.ClaimMapViews
import Derived.JoinedTies
import Derived.KernelRfl
namespace Go.Proofs.Ytkhabmbclepjpaa
/- THE CELL 'sum', in the pinned program and in every row, IS THE sha256 OF THE DUMP (.gsa) THAT YtkhabmbclepjpaaProg.lean LOADS. Nothing in Lean hashes anything: it is a label: what it is worth is what the hold of that sum in a sandbox is worth. -/
noncomputable def Try.pinned : Pinned := { name := "ytkhabmbclepjpaa", sum := "ce6ca4886e940b04b0ec05fa0d2d37aa1d7fde99053450abf07beaf6a250335e", checked := Try.checked }
namespace Rows
def none {H : Type} : Left H := { results := [], args := [] }

/-- 'kistlaw02.CrcBzips': WHATEVER THE INPUT: true; the input reads as it did. -/
def crcBzipsSpec : ChangeSpec := { name := "crcBzips", fn := fun _ => fun
  | [d] => { results := [.lit (.bool true)], args := [d] }
  | _ => none }
def crcBzipsRow : OpenClaim := { program := "ytkhabmbclepjpaa", sum := "ce6ca4886e940b04b0ec05fa0d2d37aa1d7fde99053450abf07beaf6a250335e", func := "kist/kistlaw02.CrcBzips", spec := "crcBzips", apart := false }
def CrcBzipsSaid : Prop := crcBzipsRow.holds Try.pinned (OpenSpec.ofChange crcBzipsSpec)

/-- ITS FALSE NEIGHBOUR: 'it returns false'. Refute it at one input. -/
def crcBzipsWrong : ChangeSpec := { name := "crcBzips", fn := fun _ => fun
  | [d] => { results := [.lit (.bool false)], args := [d] }
  | _ => none }
def CrcBzipsWrongFalsely : Prop := crcBzipsRow.holds Try.pinned (OpenSpec.ofChange crcBzipsWrong)

/-- 'kistlaw02.CrcMores': WHATEVER THE INPUT: true; the input reads as it did. -/
def crcMoresSpec : ChangeSpec := { name := "crcMores", fn := fun _ => fun
  | [d1, d2] => { results := [.lit (.bool true)], args := [d1, d2] }
  | _ => none }
def crcMoresRow : OpenClaim := { program := "ytkhabmbclepjpaa", sum := "ce6ca4886e940b04b0ec05fa0d2d37aa1d7fde99053450abf07beaf6a250335e", func := "kist/kistlaw02.CrcMores", spec := "crcMores", apart := false }
def CrcMoresSaid : Prop := crcMoresRow.holds Try.pinned (OpenSpec.ofChange crcMoresSpec)

/-- ITS FALSE NEIGHBOUR: 'it returns false'. Refute it at one input. -/
def crcMoresWrong : ChangeSpec := { name := "crcMores", fn := fun _ => fun
  | [d1, d2] => { results := [.lit (.bool false)], args := [d1, d2] }
  | _ => none }
def CrcMoresWrongFalsely : Prop := crcMoresRow.holds Try.pinned (OpenSpec.ofChange crcMoresWrong)

/-- 'kistlaw02.CrcIeees': WHATEVER THE INPUT: true; the input reads as it did. -/
def crcIeeesSpec : ChangeSpec := { name := "crcIeees", fn := fun _ => fun
  | [d] => { results := [.lit (.bool true)], args := [d] }
  | _ => none }
def crcIeeesRow : OpenClaim := { program := "ytkhabmbclepjpaa", sum := "ce6ca4886e940b04b0ec05fa0d2d37aa1d7fde99053450abf07beaf6a250335e", func := "kist/kistlaw02.CrcIeees", spec := "crcIeees", apart := false }
def CrcIeeesSaid : Prop := crcIeeesRow.holds Try.pinned (OpenSpec.ofChange crcIeeesSpec)

/-- ITS FALSE NEIGHBOUR: 'it returns false'. Refute it at one input. -/
def crcIeeesWrong : ChangeSpec := { name := "crcIeees", fn := fun _ => fun
  | [d] => { results := [.lit (.bool false)], args := [d] }
  | _ => none }
def CrcIeeesWrongFalsely : Prop := crcIeeesRow.holds Try.pinned (OpenSpec.ofChange crcIeeesWrong)

/-- 'kistlaw02.CrcStreams': WHATEVER THE INPUT: true; the input reads as it did. -/
def crcStreamsSpec : ChangeSpec := { name := "crcStreams", fn := fun _ => fun
  | [d] => { results := [.lit (.bool true)], args := [d] }
  | _ => none }
def crcStreamsRow : OpenClaim := { program := "ytkhabmbclepjpaa", sum := "ce6ca4886e940b04b0ec05fa0d2d37aa1d7fde99053450abf07beaf6a250335e", func := "kist/kistlaw02.CrcStreams", spec := "crcStreams", apart := false }
def CrcStreamsSaid : Prop := crcStreamsRow.holds Try.pinned (OpenSpec.ofChange crcStreamsSpec)

/-- ITS FALSE NEIGHBOUR: 'it returns false'. Refute it at one input. -/
def crcStreamsWrong : ChangeSpec := { name := "crcStreams", fn := fun _ => fun
  | [d] => { results := [.lit (.bool false)], args := [d] }
  | _ => none }
def CrcStreamsWrongFalsely : Prop := crcStreamsRow.holds Try.pinned (OpenSpec.ofChange crcStreamsWrong)

/-- 'kistlaw02.CrcParts': WHATEVER THE INPUT: true; the input reads as it did. -/
def crcPartsSpec : ChangeSpec := { name := "crcParts", fn := fun _ => fun
  | [d] => { results := [.lit (.bool true)], args := [d] }
  | _ => none }
def crcPartsRow : OpenClaim := { program := "ytkhabmbclepjpaa", sum := "ce6ca4886e940b04b0ec05fa0d2d37aa1d7fde99053450abf07beaf6a250335e", func := "kist/kistlaw02.CrcParts", spec := "crcParts", apart := false }
def CrcPartsSaid : Prop := crcPartsRow.holds Try.pinned (OpenSpec.ofChange crcPartsSpec)

/-- ITS FALSE NEIGHBOUR: 'it returns false'. Refute it at one input. -/
def crcPartsWrong : ChangeSpec := { name := "crcParts", fn := fun _ => fun
  | [d] => { results := [.lit (.bool false)], args := [d] }
  | _ => none }
def CrcPartsWrongFalsely : Prop := crcPartsRow.holds Try.pinned (OpenSpec.ofChange crcPartsWrong)

/-- 'kistlaw02.CrcLinear': WHATEVER THE INPUT: true; the input reads as it did. -/
def crcLinearSpec : ChangeSpec := { name := "crcLinear", fn := fun _ => fun
  | [d1, d2, d3] => { results := [.lit (.bool true)], args := [d1, d2, d3] }
  | _ => none }
def crcLinearRow : OpenClaim := { program := "ytkhabmbclepjpaa", sum := "ce6ca4886e940b04b0ec05fa0d2d37aa1d7fde99053450abf07beaf6a250335e", func := "kist/kistlaw02.CrcLinear", spec := "crcLinear", apart := false }
def CrcLinearSaid : Prop := crcLinearRow.holds Try.pinned (OpenSpec.ofChange crcLinearSpec)

/-- ITS FALSE NEIGHBOUR: 'it returns false'. Refute it at one input. -/
def crcLinearWrong : ChangeSpec := { name := "crcLinear", fn := fun _ => fun
  | [d1, d2, d3] => { results := [.lit (.bool false)], args := [d1, d2, d3] }
  | _ => none }
def CrcLinearWrongFalsely : Prop := crcLinearRow.holds Try.pinned (OpenSpec.ofChange crcLinearWrong)

/- THE SECOND FORM. 'bulk': how many values and letters a reading holds, each counted each time it is reached (what is shared counts as often as it is met; a slice's spare places count too). A statement '..UptoSaid' is the law's where the arguments, and the package variables that the reading takes, are together of bulk at most 1048576: NARROWER than '..Said'. Prove '..Said' where nothing that the law and all that it calls make is longer than what came in: it says more and counts as full. Else prove '..UptoSaid'. A law counts once. -/
mutual
def uptoBulk {H : Type} : DataW H → Nat
  | .lit (.string bytes) => bytes.length + 1
  | .lit _ => 1
  | .nil => 1
  | .ptr d => uptoBulk d + 1
  | .slice elems spare => uptoBulkAll elems + uptoBulkAll spare + 1
  | .agg parts => uptoBulkAll parts + 1
  | .iface _ d => uptoBulk d + 1
  | .map entries => uptoBulkEntries entries + 1
  | .held _ => 1
def uptoBulkAll {H : Type} : List (DataW H) → Nat
  | [] => 0
  | d :: r => uptoBulk d + uptoBulkAll r
def uptoBulkEntries {H : Type} : List (Lit × DataW H) → Nat
  | [] => 0
  | x :: r => uptoBulkEntry x + uptoBulkEntries r
def uptoBulkEntry {H : Type} : Lit × DataW H → Nat
  | (.string bytes, d) => bytes.length + uptoBulk d + 1
  | (_, d) => uptoBulk d + 1
 end
def uptoSmall : (H : Type) → List (DataW H) → Bool := fun _ ds => decide (uptoBulkAll ds ≤ 1048576)
def OpenSpec.upto (s : _root_.Go.ChangeSpec) : _root_.Go.OpenSpec := { _root_.Go.OpenSpec.ofChange s with cond := some uptoSmall }

/-- 'kistlaw02.CrcBzips', WHERE WHAT IT READS IS OF BULK AT MOST 1048576: true; the input reads as it did. -/
def crcBzipsUptoRow : OpenClaim := { program := "ytkhabmbclepjpaa", sum := "ce6ca4886e940b04b0ec05fa0d2d37aa1d7fde99053450abf07beaf6a250335e", func := "kist/kistlaw02.CrcBzips", spec := "crcBzips", apart := false, narrowed := true }
def CrcBzipsUptoSaid : Prop := crcBzipsUptoRow.holds Try.pinned (OpenSpec.upto crcBzipsSpec)

/-- 'kistlaw02.CrcMores', WHERE WHAT IT READS IS OF BULK AT MOST 1048576: true; the input reads as it did. -/
def crcMoresUptoRow : OpenClaim := { program := "ytkhabmbclepjpaa", sum := "ce6ca4886e940b04b0ec05fa0d2d37aa1d7fde99053450abf07beaf6a250335e", func := "kist/kistlaw02.CrcMores", spec := "crcMores", apart := false, narrowed := true }
def CrcMoresUptoSaid : Prop := crcMoresUptoRow.holds Try.pinned (OpenSpec.upto crcMoresSpec)

/-- 'kistlaw02.CrcIeees', WHERE WHAT IT READS IS OF BULK AT MOST 1048576: true; the input reads as it did. -/
def crcIeeesUptoRow : OpenClaim := { program := "ytkhabmbclepjpaa", sum := "ce6ca4886e940b04b0ec05fa0d2d37aa1d7fde99053450abf07beaf6a250335e", func := "kist/kistlaw02.CrcIeees", spec := "crcIeees", apart := false, narrowed := true }
def CrcIeeesUptoSaid : Prop := crcIeeesUptoRow.holds Try.pinned (OpenSpec.upto crcIeeesSpec)

/-- 'kistlaw02.CrcStreams', WHERE WHAT IT READS IS OF BULK AT MOST 1048576: true; the input reads as it did. -/
def crcStreamsUptoRow : OpenClaim := { program := "ytkhabmbclepjpaa", sum := "ce6ca4886e940b04b0ec05fa0d2d37aa1d7fde99053450abf07beaf6a250335e", func := "kist/kistlaw02.CrcStreams", spec := "crcStreams", apart := false, narrowed := true }
def CrcStreamsUptoSaid : Prop := crcStreamsUptoRow.holds Try.pinned (OpenSpec.upto crcStreamsSpec)

/-- 'kistlaw02.CrcParts', WHERE WHAT IT READS IS OF BULK AT MOST 1048576: true; the input reads as it did. -/
def crcPartsUptoRow : OpenClaim := { program := "ytkhabmbclepjpaa", sum := "ce6ca4886e940b04b0ec05fa0d2d37aa1d7fde99053450abf07beaf6a250335e", func := "kist/kistlaw02.CrcParts", spec := "crcParts", apart := false, narrowed := true }
def CrcPartsUptoSaid : Prop := crcPartsUptoRow.holds Try.pinned (OpenSpec.upto crcPartsSpec)

/-- 'kistlaw02.CrcLinear', WHERE WHAT IT READS IS OF BULK AT MOST 1048576: true; the input reads as it did. -/
def crcLinearUptoRow : OpenClaim := { program := "ytkhabmbclepjpaa", sum := "ce6ca4886e940b04b0ec05fa0d2d37aa1d7fde99053450abf07beaf6a250335e", func := "kist/kistlaw02.CrcLinear", spec := "crcLinear", apart := false, narrowed := true }
def CrcLinearUptoSaid : Prop := crcLinearUptoRow.holds Try.pinned (OpenSpec.upto crcLinearSpec)

end Rows
end Go.Proofs.Ytkhabmbclepjpaa
