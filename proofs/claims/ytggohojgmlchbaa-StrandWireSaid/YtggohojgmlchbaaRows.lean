/-
  No cell of these rows narrows 'for every input' (looked for: loops, veiled, ifaces, maps, wideKeys, modest, calm, conditions, laid).
  DERIVED. THE GIVEN ROWS OF THIS SEAT. 12 by the template 'for every input the law returns true; each argument reads behind the call as it read before'; 0 by the template 'total and deterministic' (their statements: YtggohojgmlchbaaTotals.lean).
  GIVEN WITH THE SEED: the statements are not yours to turn. If you find one false, say at which input.
  Laid BY PROGRAM, IN A SANDBOX (cutbox-rows.mjs): the forced cells as the released guide's own fill.sh prints them over the translation 0a210b4b8c58bb5b… (all of the seat's roots in one cut). By AI agents, Wed Nov 11 2026. No macro, syntax, notation, axiom, sorry.
-/
import Derived.Test.YtggohojgmlchbaaChecked
import GoSem.Claim
import GoSem.ClaimJoined
import GoSem.ClaimMapViews
import Derived.JoinedTies
import Derived.KernelRfl
namespace Go.Proofs.Ytggohojgmlchbaa
/- THE CELL 'sum', in the pinned program and in every row, IS THE sha256 OF THE DUMP (.gsa) THAT YtggohojgmlchbaaProg.lean LOADS. Nothing in Lean hashes anything: it is a label: what it is worth is what the hold of that sum in a sandbox is worth. -/
noncomputable def Try.pinned : Pinned := { name := "ytggohojgmlchbaa", sum := "0a210b4b8c58bb5b34c151570baf955a28f8d3bdd1fc6bf45150961fe7fb02e9", checked := Try.checked }
namespace Rows
def none {H : Type} : Left H := { results := [], args := [] }

/-- 'bellbuoylaw01.ExactSums': WHATEVER THE INPUT: true; the input reads as it did. -/
def exactSumsSpec : ChangeSpec := { name := "exactSums", fn := fun _ => fun
  | [d1, d2] => { results := [.lit (.bool true)], args := [d1, d2] }
  | _ => none }
def exactSumsRow : OpenClaim := { program := "ytggohojgmlchbaa", sum := "0a210b4b8c58bb5b34c151570baf955a28f8d3bdd1fc6bf45150961fe7fb02e9", func := "bellbuoy/bellbuoylaw01.ExactSums", spec := "exactSums", named := ["math/bits.divideError", "math/bits.overflowError"], apart := false }
def ExactSumsSaid : Prop := exactSumsRow.holds Try.pinned (OpenSpec.ofChange exactSumsSpec)

/-- ITS FALSE NEIGHBOUR: 'it returns false'. Refute it at one input. -/
def exactSumsWrong : ChangeSpec := { name := "exactSums", fn := fun _ => fun
  | [d1, d2] => { results := [.lit (.bool false)], args := [d1, d2] }
  | _ => none }
def ExactSumsWrongFalsely : Prop := exactSumsRow.holds Try.pinned (OpenSpec.ofChange exactSumsWrong)

/-- 'bellbuoylaw01.ExactParts': WHATEVER THE INPUT: true; the input reads as it did. -/
def exactPartsSpec : ChangeSpec := { name := "exactParts", fn := fun _ => fun
  | [d1, d2, d3] => { results := [.lit (.bool true)], args := [d1, d2, d3] }
  | _ => none }
def exactPartsRow : OpenClaim := { program := "ytggohojgmlchbaa", sum := "0a210b4b8c58bb5b34c151570baf955a28f8d3bdd1fc6bf45150961fe7fb02e9", func := "bellbuoy/bellbuoylaw01.ExactParts", spec := "exactParts", named := ["math/bits.divideError", "math/bits.overflowError"], apart := false }
def ExactPartsSaid : Prop := exactPartsRow.holds Try.pinned (OpenSpec.ofChange exactPartsSpec)

/-- ITS FALSE NEIGHBOUR: 'it returns false'. Refute it at one input. -/
def exactPartsWrong : ChangeSpec := { name := "exactParts", fn := fun _ => fun
  | [d1, d2, d3] => { results := [.lit (.bool false)], args := [d1, d2, d3] }
  | _ => none }
def ExactPartsWrongFalsely : Prop := exactPartsRow.holds Try.pinned (OpenSpec.ofChange exactPartsWrong)

/-- 'bellbuoylaw01.ExactScales': WHATEVER THE INPUT: true; the input reads as it did. -/
def exactScalesSpec : ChangeSpec := { name := "exactScales", fn := fun _ => fun
  | [d1, d2, d3] => { results := [.lit (.bool true)], args := [d1, d2, d3] }
  | _ => none }
def exactScalesRow : OpenClaim := { program := "ytggohojgmlchbaa", sum := "0a210b4b8c58bb5b34c151570baf955a28f8d3bdd1fc6bf45150961fe7fb02e9", func := "bellbuoy/bellbuoylaw01.ExactScales", spec := "exactScales", named := ["math/bits.divideError", "math/bits.overflowError"], apart := false }
def ExactScalesSaid : Prop := exactScalesRow.holds Try.pinned (OpenSpec.ofChange exactScalesSpec)

/-- ITS FALSE NEIGHBOUR: 'it returns false'. Refute it at one input. -/
def exactScalesWrong : ChangeSpec := { name := "exactScales", fn := fun _ => fun
  | [d1, d2, d3] => { results := [.lit (.bool false)], args := [d1, d2, d3] }
  | _ => none }
def ExactScalesWrongFalsely : Prop := exactScalesRow.holds Try.pinned (OpenSpec.ofChange exactScalesWrong)

/-- 'bellbuoylaw01.ExactBack': WHATEVER THE INPUT: true; the input reads as it did. -/
def exactBackSpec : ChangeSpec := { name := "exactBack", fn := fun _ => fun
  | [d1, d2] => { results := [.lit (.bool true)], args := [d1, d2] }
  | _ => none }
def exactBackRow : OpenClaim := { program := "ytggohojgmlchbaa", sum := "0a210b4b8c58bb5b34c151570baf955a28f8d3bdd1fc6bf45150961fe7fb02e9", func := "bellbuoy/bellbuoylaw01.ExactBack", spec := "exactBack", named := ["math/bits.divideError", "math/bits.overflowError"], apart := false }
def ExactBackSaid : Prop := exactBackRow.holds Try.pinned (OpenSpec.ofChange exactBackSpec)

/-- ITS FALSE NEIGHBOUR: 'it returns false'. Refute it at one input. -/
def exactBackWrong : ChangeSpec := { name := "exactBack", fn := fun _ => fun
  | [d1, d2] => { results := [.lit (.bool false)], args := [d1, d2] }
  | _ => none }
def ExactBackWrongFalsely : Prop := exactBackRow.holds Try.pinned (OpenSpec.ofChange exactBackWrong)

/-- 'bellbuoylaw01.ExactSame': WHATEVER THE INPUT: true; the input reads as it did. -/
def exactSameSpec : ChangeSpec := { name := "exactSame", fn := fun _ => fun
  | [d1, d2] => { results := [.lit (.bool true)], args := [d1, d2] }
  | _ => none }
def exactSameRow : OpenClaim := { program := "ytggohojgmlchbaa", sum := "0a210b4b8c58bb5b34c151570baf955a28f8d3bdd1fc6bf45150961fe7fb02e9", func := "bellbuoy/bellbuoylaw01.ExactSame", spec := "exactSame", named := ["math/bits.divideError", "math/bits.overflowError"], apart := false }
def ExactSameSaid : Prop := exactSameRow.holds Try.pinned (OpenSpec.ofChange exactSameSpec)

/-- ITS FALSE NEIGHBOUR: 'it returns false'. Refute it at one input. -/
def exactSameWrong : ChangeSpec := { name := "exactSame", fn := fun _ => fun
  | [d1, d2] => { results := [.lit (.bool false)], args := [d1, d2] }
  | _ => none }
def ExactSameWrongFalsely : Prop := exactSameRow.holds Try.pinned (OpenSpec.ofChange exactSameWrong)

/-- 'bellbuoylaw01.ExactWithin': WHATEVER THE INPUT: true; the input reads as it did. -/
def exactWithinSpec : ChangeSpec := { name := "exactWithin", fn := fun _ => fun
  | [d1, d2, d3] => { results := [.lit (.bool true)], args := [d1, d2, d3] }
  | _ => none }
def exactWithinRow : OpenClaim := { program := "ytggohojgmlchbaa", sum := "0a210b4b8c58bb5b34c151570baf955a28f8d3bdd1fc6bf45150961fe7fb02e9", func := "bellbuoy/bellbuoylaw01.ExactWithin", spec := "exactWithin", named := ["math/bits.divideError", "math/bits.overflowError"], apart := false }
def ExactWithinSaid : Prop := exactWithinRow.holds Try.pinned (OpenSpec.ofChange exactWithinSpec)

/-- ITS FALSE NEIGHBOUR: 'it returns false'. Refute it at one input. -/
def exactWithinWrong : ChangeSpec := { name := "exactWithin", fn := fun _ => fun
  | [d1, d2, d3] => { results := [.lit (.bool false)], args := [d1, d2, d3] }
  | _ => none }
def ExactWithinWrongFalsely : Prop := exactWithinRow.holds Try.pinned (OpenSpec.ofChange exactWithinWrong)

/-- 'bellbuoylaw02.StrandMakes': WHATEVER THE INPUT: true; the input reads as it did. -/
def strandMakesSpec : ChangeSpec := { name := "strandMakes", fn := fun _ => fun
  | [d1, d2, d3] => { results := [.lit (.bool true)], args := [d1, d2, d3] }
  | _ => none }
def strandMakesRow : OpenClaim := { program := "ytggohojgmlchbaa", sum := "0a210b4b8c58bb5b34c151570baf955a28f8d3bdd1fc6bf45150961fe7fb02e9", func := "bellbuoy/bellbuoylaw02.StrandMakes", spec := "strandMakes", unfollowed := true, recurses := true, apart := false }
def StrandMakesSaid : Prop := strandMakesRow.holds Try.pinned (OpenSpec.ofChange strandMakesSpec)

/-- ITS FALSE NEIGHBOUR: 'it returns false'. Refute it at one input. -/
def strandMakesWrong : ChangeSpec := { name := "strandMakes", fn := fun _ => fun
  | [d1, d2, d3] => { results := [.lit (.bool false)], args := [d1, d2, d3] }
  | _ => none }
def StrandMakesWrongFalsely : Prop := strandMakesRow.holds Try.pinned (OpenSpec.ofChange strandMakesWrong)

/-- 'bellbuoylaw02.StrandWire': WHATEVER THE INPUT: true; the input reads as it did. -/
def strandWireSpec : ChangeSpec := { name := "strandWire", fn := fun _ => fun
  | [d] => { results := [.lit (.bool true)], args := [d] }
  | _ => none }
def strandWireRow : OpenClaim := { program := "ytggohojgmlchbaa", sum := "0a210b4b8c58bb5b34c151570baf955a28f8d3bdd1fc6bf45150961fe7fb02e9", func := "bellbuoy/bellbuoylaw02.StrandWire", spec := "strandWire", unfollowed := true, recurses := true, apart := false }
def StrandWireSaid : Prop := strandWireRow.holds Try.pinned (OpenSpec.ofChange strandWireSpec)

/-- ITS FALSE NEIGHBOUR: 'it returns false'. Refute it at one input. -/
def strandWireWrong : ChangeSpec := { name := "strandWire", fn := fun _ => fun
  | [d] => { results := [.lit (.bool false)], args := [d] }
  | _ => none }
def StrandWireWrongFalsely : Prop := strandWireRow.holds Try.pinned (OpenSpec.ofChange strandWireWrong)

/-- 'bellbuoylaw02.StrandAsks': WHATEVER THE INPUT: true; the input reads as it did. -/
def strandAsksSpec : ChangeSpec := { name := "strandAsks", fn := fun _ => fun
  | [d1, d2, d3] => { results := [.lit (.bool true)], args := [d1, d2, d3] }
  | _ => none }
def strandAsksRow : OpenClaim := { program := "ytggohojgmlchbaa", sum := "0a210b4b8c58bb5b34c151570baf955a28f8d3bdd1fc6bf45150961fe7fb02e9", func := "bellbuoy/bellbuoylaw02.StrandAsks", spec := "strandAsks", unfollowed := true, recurses := true, apart := false }
def StrandAsksSaid : Prop := strandAsksRow.holds Try.pinned (OpenSpec.ofChange strandAsksSpec)

/-- ITS FALSE NEIGHBOUR: 'it returns false'. Refute it at one input. -/
def strandAsksWrong : ChangeSpec := { name := "strandAsks", fn := fun _ => fun
  | [d1, d2, d3] => { results := [.lit (.bool false)], args := [d1, d2, d3] }
  | _ => none }
def StrandAsksWrongFalsely : Prop := strandAsksRow.holds Try.pinned (OpenSpec.ofChange strandAsksWrong)

/-- 'bellbuoylaw02.StrandBack': WHATEVER THE INPUT: true; the input reads as it did. -/
def strandBackSpec : ChangeSpec := { name := "strandBack", fn := fun _ => fun
  | [d1, d2, d3] => { results := [.lit (.bool true)], args := [d1, d2, d3] }
  | _ => none }
def strandBackRow : OpenClaim := { program := "ytggohojgmlchbaa", sum := "0a210b4b8c58bb5b34c151570baf955a28f8d3bdd1fc6bf45150961fe7fb02e9", func := "bellbuoy/bellbuoylaw02.StrandBack", spec := "strandBack", unfollowed := true, recurses := true, apart := false }
def StrandBackSaid : Prop := strandBackRow.holds Try.pinned (OpenSpec.ofChange strandBackSpec)

/-- ITS FALSE NEIGHBOUR: 'it returns false'. Refute it at one input. -/
def strandBackWrong : ChangeSpec := { name := "strandBack", fn := fun _ => fun
  | [d1, d2, d3] => { results := [.lit (.bool false)], args := [d1, d2, d3] }
  | _ => none }
def StrandBackWrongFalsely : Prop := strandBackRow.holds Try.pinned (OpenSpec.ofChange strandBackWrong)

/-- 'bellbuoylaw02.StrandCommon': WHATEVER THE INPUT: true; the input reads as it did. -/
def strandCommonSpec : ChangeSpec := { name := "strandCommon", fn := fun _ => fun
  | [d1, d2, d3] => { results := [.lit (.bool true)], args := [d1, d2, d3] }
  | _ => none }
def strandCommonRow : OpenClaim := { program := "ytggohojgmlchbaa", sum := "0a210b4b8c58bb5b34c151570baf955a28f8d3bdd1fc6bf45150961fe7fb02e9", func := "bellbuoy/bellbuoylaw02.StrandCommon", spec := "strandCommon", unfollowed := true, recurses := true, apart := false }
def StrandCommonSaid : Prop := strandCommonRow.holds Try.pinned (OpenSpec.ofChange strandCommonSpec)

/-- ITS FALSE NEIGHBOUR: 'it returns false'. Refute it at one input. -/
def strandCommonWrong : ChangeSpec := { name := "strandCommon", fn := fun _ => fun
  | [d1, d2, d3] => { results := [.lit (.bool false)], args := [d1, d2, d3] }
  | _ => none }
def StrandCommonWrongFalsely : Prop := strandCommonRow.holds Try.pinned (OpenSpec.ofChange strandCommonWrong)

/-- 'bellbuoytop.TopNumbers': WHATEVER THE INPUT: true; the input reads as it did. -/
def topNumbersSpec : ChangeSpec := { name := "topNumbers", fn := fun _ => fun
  | [d] => { results := [.lit (.bool true)], args := [d] }
  | _ => none }
def topNumbersRow : OpenClaim := { program := "ytggohojgmlchbaa", sum := "0a210b4b8c58bb5b34c151570baf955a28f8d3bdd1fc6bf45150961fe7fb02e9", func := "bellbuoy/bellbuoytop.TopNumbers", spec := "topNumbers", unfollowed := true, recurses := true, named := ["math/bits.divideError", "math/bits.overflowError"], apart := false }
def TopNumbersSaid : Prop := topNumbersRow.holds Try.pinned (OpenSpec.ofChange topNumbersSpec)

/-- ITS FALSE NEIGHBOUR: 'it returns false'. Refute it at one input. -/
def topNumbersWrong : ChangeSpec := { name := "topNumbers", fn := fun _ => fun
  | [d] => { results := [.lit (.bool false)], args := [d] }
  | _ => none }
def TopNumbersWrongFalsely : Prop := topNumbersRow.holds Try.pinned (OpenSpec.ofChange topNumbersWrong)

/- THE SECOND FORM. 'bulk': how many values and letters a reading holds, each counted each time it is reached (what is shared counts as often as it is met; a slice's spare places count too). A statement '..UptoSaid' is the law's where the arguments, and the package variables that the reading takes, are together of bulk at most 1048576: NARROWER than '..Said'. Prove '..Said' where nothing that the law and all that it calls make is longer than what came in: it says more and counts as full. Else prove '..UptoSaid'. A law counts once. -/
mutual
def uptoBulk {H : Type} : DataW H → Nat
  | .lit (.string bytes) => bytes.length + 1
  | .lit _ => 1
  | .nil => 1
  | .ptr d => uptoBulk d + 1
  | .slice elems spare => uptoBulkAll elems + uptoBulkAll spare + 1
  | .agg parts => uptoBulkAll parts + 1
  | .iface _ d => uptoBulk d + 1
  | .map entries => uptoBulkEntries entries + 1
  | .held _ => 1
def uptoBulkAll {H : Type} : List (DataW H) → Nat
  | [] => 0
  | d :: r => uptoBulk d + uptoBulkAll r
def uptoBulkEntries {H : Type} : List (Lit × DataW H) → Nat
  | [] => 0
  | x :: r => uptoBulkEntry x + uptoBulkEntries r
def uptoBulkEntry {H : Type} : Lit × DataW H → Nat
  | (.string bytes, d) => bytes.length + uptoBulk d + 1
  | (_, d) => uptoBulk d + 1
 end
def uptoSmall : (H : Type) → List (DataW H) → Bool := fun _ ds => decide (uptoBulkAll ds ≤ 1048576)
def OpenSpec.upto (s : _root_.Go.ChangeSpec) : _root_.Go.OpenSpec := { _root_.Go.OpenSpec.ofChange s with cond := some uptoSmall }

/-- 'bellbuoylaw01.ExactSums', WHERE WHAT IT READS IS OF BULK AT MOST 1048576: true; the input reads as it did. -/
def exactSumsUptoRow : OpenClaim := { program := "ytggohojgmlchbaa", sum := "0a210b4b8c58bb5b34c151570baf955a28f8d3bdd1fc6bf45150961fe7fb02e9", func := "bellbuoy/bellbuoylaw01.ExactSums", spec := "exactSums", named := ["math/bits.divideError", "math/bits.overflowError"], apart := false, narrowed := true }
def ExactSumsUptoSaid : Prop := exactSumsUptoRow.holds Try.pinned (OpenSpec.upto exactSumsSpec)

/-- 'bellbuoylaw01.ExactParts', WHERE WHAT IT READS IS OF BULK AT MOST 1048576: true; the input reads as it did. -/
def exactPartsUptoRow : OpenClaim := { program := "ytggohojgmlchbaa", sum := "0a210b4b8c58bb5b34c151570baf955a28f8d3bdd1fc6bf45150961fe7fb02e9", func := "bellbuoy/bellbuoylaw01.ExactParts", spec := "exactParts", named := ["math/bits.divideError", "math/bits.overflowError"], apart := false, narrowed := true }
def ExactPartsUptoSaid : Prop := exactPartsUptoRow.holds Try.pinned (OpenSpec.upto exactPartsSpec)

/-- 'bellbuoylaw01.ExactScales', WHERE WHAT IT READS IS OF BULK AT MOST 1048576: true; the input reads as it did. -/
def exactScalesUptoRow : OpenClaim := { program := "ytggohojgmlchbaa", sum := "0a210b4b8c58bb5b34c151570baf955a28f8d3bdd1fc6bf45150961fe7fb02e9", func := "bellbuoy/bellbuoylaw01.ExactScales", spec := "exactScales", named := ["math/bits.divideError", "math/bits.overflowError"], apart := false, narrowed := true }
def ExactScalesUptoSaid : Prop := exactScalesUptoRow.holds Try.pinned (OpenSpec.upto exactScalesSpec)

/-- 'bellbuoylaw01.ExactBack', WHERE WHAT IT READS IS OF BULK AT MOST 1048576: true; the input reads as it did. -/
def exactBackUptoRow : OpenClaim := { program := "ytggohojgmlchbaa", sum := "0a210b4b8c58bb5b34c151570baf955a28f8d3bdd1fc6bf45150961fe7fb02e9", func := "bellbuoy/bellbuoylaw01.ExactBack", spec := "exactBack", named := ["math/bits.divideError", "math/bits.overflowError"], apart := false, narrowed := true }
def ExactBackUptoSaid : Prop := exactBackUptoRow.holds Try.pinned (OpenSpec.upto exactBackSpec)

/-- 'bellbuoylaw01.ExactSame', WHERE WHAT IT READS IS OF BULK AT MOST 1048576: true; the input reads as it did. -/
def exactSameUptoRow : OpenClaim := { program := "ytggohojgmlchbaa", sum := "0a210b4b8c58bb5b34c151570baf955a28f8d3bdd1fc6bf45150961fe7fb02e9", func := "bellbuoy/bellbuoylaw01.ExactSame", spec := "exactSame", named := ["math/bits.divideError", "math/bits.overflowError"], apart := false, narrowed := true }
def ExactSameUptoSaid : Prop := exactSameUptoRow.holds Try.pinned (OpenSpec.upto exactSameSpec)

/-- 'bellbuoylaw01.ExactWithin', WHERE WHAT IT READS IS OF BULK AT MOST 1048576: true; the input reads as it did. -/
def exactWithinUptoRow : OpenClaim := { program := "ytggohojgmlchbaa", sum := "0a210b4b8c58bb5b34c151570baf955a28f8d3bdd1fc6bf45150961fe7fb02e9", func := "bellbuoy/bellbuoylaw01.ExactWithin", spec := "exactWithin", named := ["math/bits.divideError", "math/bits.overflowError"], apart := false, narrowed := true }
def ExactWithinUptoSaid : Prop := exactWithinUptoRow.holds Try.pinned (OpenSpec.upto exactWithinSpec)

/-- 'bellbuoylaw02.StrandMakes', WHERE WHAT IT READS IS OF BULK AT MOST 1048576: true; the input reads as it did. -/
def strandMakesUptoRow : OpenClaim := { program := "ytggohojgmlchbaa", sum := "0a210b4b8c58bb5b34c151570baf955a28f8d3bdd1fc6bf45150961fe7fb02e9", func := "bellbuoy/bellbuoylaw02.StrandMakes", spec := "strandMakes", unfollowed := true, recurses := true, apart := false, narrowed := true }
def StrandMakesUptoSaid : Prop := strandMakesUptoRow.holds Try.pinned (OpenSpec.upto strandMakesSpec)

/-- 'bellbuoylaw02.StrandWire', WHERE WHAT IT READS IS OF BULK AT MOST 1048576: true; the input reads as it did. -/
def strandWireUptoRow : OpenClaim := { program := "ytggohojgmlchbaa", sum := "0a210b4b8c58bb5b34c151570baf955a28f8d3bdd1fc6bf45150961fe7fb02e9", func := "bellbuoy/bellbuoylaw02.StrandWire", spec := "strandWire", unfollowed := true, recurses := true, apart := false, narrowed := true }
def StrandWireUptoSaid : Prop := strandWireUptoRow.holds Try.pinned (OpenSpec.upto strandWireSpec)

/-- 'bellbuoylaw02.StrandAsks', WHERE WHAT IT READS IS OF BULK AT MOST 1048576: true; the input reads as it did. -/
def strandAsksUptoRow : OpenClaim := { program := "ytggohojgmlchbaa", sum := "0a210b4b8c58bb5b34c151570baf955a28f8d3bdd1fc6bf45150961fe7fb02e9", func := "bellbuoy/bellbuoylaw02.StrandAsks", spec := "strandAsks", unfollowed := true, recurses := true, apart := false, narrowed := true }
def StrandAsksUptoSaid : Prop := strandAsksUptoRow.holds Try.pinned (OpenSpec.upto strandAsksSpec)

/-- 'bellbuoylaw02.StrandBack', WHERE WHAT IT READS IS OF BULK AT MOST 1048576: true; the input reads as it did. -/
def strandBackUptoRow : OpenClaim := { program := "ytggohojgmlchbaa", sum := "0a210b4b8c58bb5b34c151570baf955a28f8d3bdd1fc6bf45150961fe7fb02e9", func := "bellbuoy/bellbuoylaw02.StrandBack", spec := "strandBack", unfollowed := true, recurses := true, apart := false, narrowed := true }
def StrandBackUptoSaid : Prop := strandBackUptoRow.holds Try.pinned (OpenSpec.upto strandBackSpec)

/-- 'bellbuoylaw02.StrandCommon', WHERE WHAT IT READS IS OF BULK AT MOST 1048576: true; the input reads as it did. -/
def strandCommonUptoRow : OpenClaim := { program := "ytggohojgmlchbaa", sum := "0a210b4b8c58bb5b34c151570baf955a28f8d3bdd1fc6bf45150961fe7fb02e9", func := "bellbuoy/bellbuoylaw02.StrandCommon", spec := "strandCommon", unfollowed := true, recurses := true, apart := false, narrowed := true }
def StrandCommonUptoSaid : Prop := strandCommonUptoRow.holds Try.pinned (OpenSpec.upto strandCommonSpec)

/-- 'bellbuoytop.TopNumbers', WHERE WHAT IT READS IS OF BULK AT MOST 1048576: true; the input reads as it did. -/
def topNumbersUptoRow : OpenClaim := { program := "ytggohojgmlchbaa", sum := "0a210b4b8c58bb5b34c151570baf955a28f8d3bdd1fc6bf45150961fe7fb02e9", func := "bellbuoy/bellbuoytop.TopNumbers", spec := "topNumbers", unfollowed := true, recurses := true, named := ["math/bits.divideError", "math/bits.overflowError"], apart := false, narrowed := true }
def TopNumbersUptoSaid : Prop := topNumbersUptoRow.holds Try.pinned (OpenSpec.upto topNumbersSpec)

end Rows
end Go.Proofs.Ytggohojgmlchbaa
