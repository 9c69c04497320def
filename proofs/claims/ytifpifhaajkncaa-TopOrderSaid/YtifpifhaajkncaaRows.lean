/-
  No cell of these rows narrows 'for every input' (looked for: loops, veiled, ifaces, maps, wideKeys, modest, calm, conditions, laid).
  DERIVED. THE GIVEN ROWS OF THIS SEAT. 7 by the template 'for every input the law returns true; each argument reads behind the call as it read before'; 0 by the template 'total and deterministic' (their statements: YtifpifhaajkncaaTotals.lean).
  GIVEN WITH THE SEED: the statements are not yours to turn. If you find one false, say at which input.
  Laid BY PROGRAM, IN A SANDBOX (cutbox-rows.mjs): the forced cells as the released guide's own fill.sh prints them over the translation b5754e7d6f398093… (all of the seat's roots in one cut). By AI agents, Wed Nov 11 2026. No macro, syntax, notation, axiom, sorry.
-/
import Derived.Test.YtifpifhaajkncaaChecked
import GoSem.Claim
import GoSem.ClaimJoined
import GoSem.ClaimMapViews
import Derived.JoinedTies
import Derived.KernelRfl
namespace Go.Proofs.Ytifpifhaajkncaa
/- THE CELL 'sum', in the pinned program and in every row, IS THE sha256 OF THE DUMP (.gsa) THAT YtifpifhaajkncaaProg.lean LOADS. Nothing in Lean hashes anything: it is a label: what it is worth is what the hold of that sum in a sandbox is worth. -/
noncomputable def Try.pinned : Pinned := { name := "ytifpifhaajkncaa", sum := "b5754e7d6f3980935245d6aacb9d4079ec9216cebaf2e92d1cde2cac53282c39", checked := Try.checked }
namespace Rows
def none {H : Type} : Left H := { results := [], args := [] }

/-- 'bellbuoylaw13.BoxesPlay': WHATEVER THE INPUT: true; the input reads as it did. -/
def boxesPlaySpec : ChangeSpec := { name := "boxesPlay", fn := fun _ => fun
  | [d1, d2] => { results := [.lit (.bool true)], args := [d1, d2] }
  | _ => none }
def boxesPlayRow : OpenClaim := { program := "ytifpifhaajkncaa", sum := "b5754e7d6f3980935245d6aacb9d4079ec9216cebaf2e92d1cde2cac53282c39", func := "bellbuoy/bellbuoylaw13.BoxesPlay", spec := "boxesPlay", unfollowed := true, recurses := true, apart := false }
def BoxesPlaySaid : Prop := boxesPlayRow.holds Try.pinned (OpenSpec.ofChange boxesPlaySpec)

/-- ITS FALSE NEIGHBOUR: 'it returns false'. Refute it at one input. -/
def boxesPlayWrong : ChangeSpec := { name := "boxesPlay", fn := fun _ => fun
  | [d1, d2] => { results := [.lit (.bool false)], args := [d1, d2] }
  | _ => none }
def BoxesPlayWrongFalsely : Prop := boxesPlayRow.holds Try.pinned (OpenSpec.ofChange boxesPlayWrong)

/-- 'bellbuoylaw13.BoxesOrder': WHATEVER THE INPUT: true; the input reads as it did. -/
def boxesOrderSpec : ChangeSpec := { name := "boxesOrder", fn := fun _ => fun
  | [d] => { results := [.lit (.bool true)], args := [d] }
  | _ => none }
def boxesOrderRow : OpenClaim := { program := "ytifpifhaajkncaa", sum := "b5754e7d6f3980935245d6aacb9d4079ec9216cebaf2e92d1cde2cac53282c39", func := "bellbuoy/bellbuoylaw13.BoxesOrder", spec := "boxesOrder", unfollowed := true, recurses := true, apart := false }
def BoxesOrderSaid : Prop := boxesOrderRow.holds Try.pinned (OpenSpec.ofChange boxesOrderSpec)

/-- ITS FALSE NEIGHBOUR: 'it returns false'. Refute it at one input. -/
def boxesOrderWrong : ChangeSpec := { name := "boxesOrder", fn := fun _ => fun
  | [d] => { results := [.lit (.bool false)], args := [d] }
  | _ => none }
def BoxesOrderWrongFalsely : Prop := boxesOrderRow.holds Try.pinned (OpenSpec.ofChange boxesOrderWrong)

/-- 'bellbuoylaw13.BoxesFull': WHATEVER THE INPUT: true; the input reads as it did. -/
def boxesFullSpec : ChangeSpec := { name := "boxesFull", fn := fun _ => fun
  | [d1, d2] => { results := [.lit (.bool true)], args := [d1, d2] }
  | _ => none }
def boxesFullRow : OpenClaim := { program := "ytifpifhaajkncaa", sum := "b5754e7d6f3980935245d6aacb9d4079ec9216cebaf2e92d1cde2cac53282c39", func := "bellbuoy/bellbuoylaw13.BoxesFull", spec := "boxesFull", unfollowed := true, recurses := true, apart := false }
def BoxesFullSaid : Prop := boxesFullRow.holds Try.pinned (OpenSpec.ofChange boxesFullSpec)

/-- ITS FALSE NEIGHBOUR: 'it returns false'. Refute it at one input. -/
def boxesFullWrong : ChangeSpec := { name := "boxesFull", fn := fun _ => fun
  | [d1, d2] => { results := [.lit (.bool false)], args := [d1, d2] }
  | _ => none }
def BoxesFullWrongFalsely : Prop := boxesFullRow.holds Try.pinned (OpenSpec.ofChange boxesFullWrong)

/-- 'bellbuoylaw14.InboxPlays': WHATEVER THE INPUT: true; the input reads as it did. -/
def inboxPlaysSpec : ChangeSpec := { name := "inboxPlays", fn := fun _ => fun
  | [d1, d2, d3] => { results := [.lit (.bool true)], args := [d1, d2, d3] }
  | _ => none }
def inboxPlaysRow : OpenClaim := { program := "ytifpifhaajkncaa", sum := "b5754e7d6f3980935245d6aacb9d4079ec9216cebaf2e92d1cde2cac53282c39", func := "bellbuoy/bellbuoylaw14.InboxPlays", spec := "inboxPlays", unfollowed := true, recurses := true, apart := false }
def InboxPlaysSaid : Prop := inboxPlaysRow.holds Try.pinned (OpenSpec.ofChange inboxPlaysSpec)

/-- ITS FALSE NEIGHBOUR: 'it returns false'. Refute it at one input. -/
def inboxPlaysWrong : ChangeSpec := { name := "inboxPlays", fn := fun _ => fun
  | [d1, d2, d3] => { results := [.lit (.bool false)], args := [d1, d2, d3] }
  | _ => none }
def InboxPlaysWrongFalsely : Prop := inboxPlaysRow.holds Try.pinned (OpenSpec.ofChange inboxPlaysWrong)

/-- 'bellbuoylaw14.InboxOrder': WHATEVER THE INPUT: true; the input reads as it did. -/
def inboxOrderSpec : ChangeSpec := { name := "inboxOrder", fn := fun _ => fun
  | [d1, d2] => { results := [.lit (.bool true)], args := [d1, d2] }
  | _ => none }
def inboxOrderRow : OpenClaim := { program := "ytifpifhaajkncaa", sum := "b5754e7d6f3980935245d6aacb9d4079ec9216cebaf2e92d1cde2cac53282c39", func := "bellbuoy/bellbuoylaw14.InboxOrder", spec := "inboxOrder", unfollowed := true, recurses := true, apart := false }
def InboxOrderSaid : Prop := inboxOrderRow.holds Try.pinned (OpenSpec.ofChange inboxOrderSpec)

/-- ITS FALSE NEIGHBOUR: 'it returns false'. Refute it at one input. -/
def inboxOrderWrong : ChangeSpec := { name := "inboxOrder", fn := fun _ => fun
  | [d1, d2] => { results := [.lit (.bool false)], args := [d1, d2] }
  | _ => none }
def InboxOrderWrongFalsely : Prop := inboxOrderRow.holds Try.pinned (OpenSpec.ofChange inboxOrderWrong)

/-- 'bellbuoylaw14.InboxOpen': WHATEVER THE INPUT: true; the input reads as it did. -/
def inboxOpenSpec : ChangeSpec := { name := "inboxOpen", fn := fun _ => fun
  | [d1, d2] => { results := [.lit (.bool true)], args := [d1, d2] }
  | _ => none }
def inboxOpenRow : OpenClaim := { program := "ytifpifhaajkncaa", sum := "b5754e7d6f3980935245d6aacb9d4079ec9216cebaf2e92d1cde2cac53282c39", func := "bellbuoy/bellbuoylaw14.InboxOpen", spec := "inboxOpen", unfollowed := true, recurses := true, apart := false }
def InboxOpenSaid : Prop := inboxOpenRow.holds Try.pinned (OpenSpec.ofChange inboxOpenSpec)

/-- ITS FALSE NEIGHBOUR: 'it returns false'. Refute it at one input. -/
def inboxOpenWrong : ChangeSpec := { name := "inboxOpen", fn := fun _ => fun
  | [d1, d2] => { results := [.lit (.bool false)], args := [d1, d2] }
  | _ => none }
def InboxOpenWrongFalsely : Prop := inboxOpenRow.holds Try.pinned (OpenSpec.ofChange inboxOpenWrong)

/-- 'bellbuoytop.TopOrder': WHATEVER THE INPUT: true; the input reads as it did. -/
def topOrderSpec : ChangeSpec := { name := "topOrder", fn := fun _ => fun
  | [d] => { results := [.lit (.bool true)], args := [d] }
  | _ => none }
def topOrderRow : OpenClaim := { program := "ytifpifhaajkncaa", sum := "b5754e7d6f3980935245d6aacb9d4079ec9216cebaf2e92d1cde2cac53282c39", func := "bellbuoy/bellbuoytop.TopOrder", spec := "topOrder", unfollowed := true, recurses := true, apart := false }
def TopOrderSaid : Prop := topOrderRow.holds Try.pinned (OpenSpec.ofChange topOrderSpec)

/-- ITS FALSE NEIGHBOUR: 'it returns false'. Refute it at one input. -/
def topOrderWrong : ChangeSpec := { name := "topOrder", fn := fun _ => fun
  | [d] => { results := [.lit (.bool false)], args := [d] }
  | _ => none }
def TopOrderWrongFalsely : Prop := topOrderRow.holds Try.pinned (OpenSpec.ofChange topOrderWrong)

/- THE SECOND FORM. 'bulk': how many values and letters a reading holds, each counted each time it is reached (what is shared counts as often as it is met; a slice's spare places count too). A statement '..UptoSaid' is the law's where the arguments, and the package variables that the reading takes, are together of bulk at most 1048576: NARROWER than '..Said'. Prove '..Said' where nothing that the law and all that it calls make is longer than what came in: it says more and counts as full. Else prove '..UptoSaid'. A law counts once. -/
mutual
def uptoBulk {H : Type} : DataW H → Nat
  | .lit (.string bytes) => bytes.length + 1
  | .lit _ => 1
  | .nil => 1
  | .ptr d => uptoBulk d + 1
  | .slice elems spare => uptoBulkAll elems + uptoBulkAll spare + 1
  | .agg parts => uptoBulkAll parts + 1
  | .iface _ d => uptoBulk d + 1
  | .map entries => uptoBulkEntries entries + 1
  | .held _ => 1
def uptoBulkAll {H : Type} : List (DataW H) → Nat
  | [] => 0
  | d :: r => uptoBulk d + uptoBulkAll r
def uptoBulkEntries {H : Type} : List (Lit × DataW H) → Nat
  | [] => 0
  | x :: r => uptoBulkEntry x + uptoBulkEntries r
def uptoBulkEntry {H : Type} : Lit × DataW H → Nat
  | (.string bytes, d) => bytes.length + uptoBulk d + 1
  | (_, d) => uptoBulk d + 1
 end
def uptoSmall : (H : Type) → List (DataW H) → Bool := fun _ ds => decide (uptoBulkAll ds ≤ 1048576)
def OpenSpec.upto (s : _root_.Go.ChangeSpec) : _root_.Go.OpenSpec := { _root_.Go.OpenSpec.ofChange s with cond := some uptoSmall }

/-- 'bellbuoylaw13.BoxesPlay', WHERE WHAT IT READS IS OF BULK AT MOST 1048576: true; the input reads as it did. -/
def boxesPlayUptoRow : OpenClaim := { program := "ytifpifhaajkncaa", sum := "b5754e7d6f3980935245d6aacb9d4079ec9216cebaf2e92d1cde2cac53282c39", func := "bellbuoy/bellbuoylaw13.BoxesPlay", spec := "boxesPlay", unfollowed := true, recurses := true, apart := false, narrowed := true }
def BoxesPlayUptoSaid : Prop := boxesPlayUptoRow.holds Try.pinned (OpenSpec.upto boxesPlaySpec)

/-- 'bellbuoylaw13.BoxesOrder', WHERE WHAT IT READS IS OF BULK AT MOST 1048576: true; the input reads as it did. -/
def boxesOrderUptoRow : OpenClaim := { program := "ytifpifhaajkncaa", sum := "b5754e7d6f3980935245d6aacb9d4079ec9216cebaf2e92d1cde2cac53282c39", func := "bellbuoy/bellbuoylaw13.BoxesOrder", spec := "boxesOrder", unfollowed := true, recurses := true, apart := false, narrowed := true }
def BoxesOrderUptoSaid : Prop := boxesOrderUptoRow.holds Try.pinned (OpenSpec.upto boxesOrderSpec)

/-- 'bellbuoylaw13.BoxesFull', WHERE WHAT IT READS IS OF BULK AT MOST 1048576: true; the input reads as it did. -/
def boxesFullUptoRow : OpenClaim := { program := "ytifpifhaajkncaa", sum := "b5754e7d6f3980935245d6aacb9d4079ec9216cebaf2e92d1cde2cac53282c39", func := "bellbuoy/bellbuoylaw13.BoxesFull", spec := "boxesFull", unfollowed := true, recurses := true, apart := false, narrowed := true }
def BoxesFullUptoSaid : Prop := boxesFullUptoRow.holds Try.pinned (OpenSpec.upto boxesFullSpec)

/-- 'bellbuoylaw14.InboxPlays', WHERE WHAT IT READS IS OF BULK AT MOST 1048576: true; the input reads as it did. -/
def inboxPlaysUptoRow : OpenClaim := { program := "ytifpifhaajkncaa", sum := "b5754e7d6f3980935245d6aacb9d4079ec9216cebaf2e92d1cde2cac53282c39", func := "bellbuoy/bellbuoylaw14.InboxPlays", spec := "inboxPlays", unfollowed := true, recurses := true, apart := false, narrowed := true }
def InboxPlaysUptoSaid : Prop := inboxPlaysUptoRow.holds Try.pinned (OpenSpec.upto inboxPlaysSpec)

/-- 'bellbuoylaw14.InboxOrder', WHERE WHAT IT READS IS OF BULK AT MOST 1048576: true; the input reads as it did. -/
def inboxOrderUptoRow : OpenClaim := { program := "ytifpifhaajkncaa", sum := "b5754e7d6f3980935245d6aacb9d4079ec9216cebaf2e92d1cde2cac53282c39", func := "bellbuoy/bellbuoylaw14.InboxOrder", spec := "inboxOrder", unfollowed := true, recurses := true, apart := false, narrowed := true }
def InboxOrderUptoSaid : Prop := inboxOrderUptoRow.holds Try.pinned (OpenSpec.upto inboxOrderSpec)

/-- 'bellbuoylaw14.InboxOpen', WHERE WHAT IT READS IS OF BULK AT MOST 1048576: true; the input reads as it did. -/
def inboxOpenUptoRow : OpenClaim := { program := "ytifpifhaajkncaa", sum := "b5754e7d6f3980935245d6aacb9d4079ec9216cebaf2e92d1cde2cac53282c39", func := "bellbuoy/bellbuoylaw14.InboxOpen", spec := "inboxOpen", unfollowed := true, recurses := true, apart := false, narrowed := true }
def InboxOpenUptoSaid : Prop := inboxOpenUptoRow.holds Try.pinned (OpenSpec.upto inboxOpenSpec)

/-- 'bellbuoytop.TopOrder', WHERE WHAT IT READS IS OF BULK AT MOST 1048576: true; the input reads as it did. -/
def topOrderUptoRow : OpenClaim := { program := "ytifpifhaajkncaa", sum := "b5754e7d6f3980935245d6aacb9d4079ec9216cebaf2e92d1cde2cac53282c39", func := "bellbuoy/bellbuoytop.TopOrder", spec := "topOrder", unfollowed := true, recurses := true, apart := false, narrowed := true }
def TopOrderUptoSaid : Prop := topOrderUptoRow.holds Try.pinned (OpenSpec.upto topOrderSpec)

end Rows
end Go.Proofs.Ytifpifhaajkncaa
