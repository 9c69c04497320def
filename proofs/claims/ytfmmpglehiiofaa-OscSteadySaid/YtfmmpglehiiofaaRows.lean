/-
  No cell of these rows narrows 'for every input' (looked for: loops, veiled, ifaces, maps, wideKeys, modest, calm, conditions, laid).
  DERIVED. THE GIVEN ROWS OF THIS SEAT. 10 by the template 'for every input the law returns true; each argument reads behind the call as it read before'; 0 by the template 'total and deterministic' (their statements: YtfmmpglehiiofaaTotals.lean).
  GIVEN WITH THE SEED: the statements are not yours to turn. If you find one false, say at which input.
  Laid BY PROGRAM, IN A SANDBOX (cutbox-rows.mjs): the forced cells as the released guide's own fill.sh prints them over the translation beacbae932c56d9d… (all of the seat's roots in one cut). By AI agents, Wed Nov 11 2026. No macro, syntax, notation, axiom, sorry.
-/
import Derived.Test.YtfmmpglehiiofaaChecked
import GoSem.Claim
import GoSem.ClaimJoined
import GoSem.ClaimMapViews
import Derived.JoinedTies
import Derived.KernelRfl
namespace Go.Proofs.Ytfmmpglehiiofaa
/- THE CELL 'sum', in the pinned program and in every row, IS THE sha256 OF THE DUMP (.gsa) THAT YtfmmpglehiiofaaProg.lean LOADS. Nothing in Lean hashes anything: it is a label: what it is worth is what the hold of that sum in a sandbox is worth. -/
noncomputable def Try.pinned : Pinned := { name := "ytfmmpglehiiofaa", sum := "beacbae932c56d9d5d4ff5c9cdab9b2fae7ecd2f5c0ac4ce0611cc3536a16b2f", checked := Try.checked }
namespace Rows
def none {H : Type} : Left H := { results := [], args := [] }

/-- 'bellbuoylaw13.BoxesPlay': WHATEVER THE INPUT: true; the input reads as it did. -/
def boxesPlaySpec : ChangeSpec := { name := "boxesPlay", fn := fun _ => fun
  | [d1, d2] => { results := [.lit (.bool true)], args := [d1, d2] }
  | _ => none }
def boxesPlayRow : OpenClaim := { program := "ytfmmpglehiiofaa", sum := "beacbae932c56d9d5d4ff5c9cdab9b2fae7ecd2f5c0ac4ce0611cc3536a16b2f", func := "bellbuoy/bellbuoylaw13.BoxesPlay", spec := "boxesPlay", unfollowed := true, recurses := true, apart := false }
def BoxesPlaySaid : Prop := boxesPlayRow.holds Try.pinned (OpenSpec.ofChange boxesPlaySpec)

/-- ITS FALSE NEIGHBOUR: 'it returns false'. Refute it at one input. -/
def boxesPlayWrong : ChangeSpec := { name := "boxesPlay", fn := fun _ => fun
  | [d1, d2] => { results := [.lit (.bool false)], args := [d1, d2] }
  | _ => none }
def BoxesPlayWrongFalsely : Prop := boxesPlayRow.holds Try.pinned (OpenSpec.ofChange boxesPlayWrong)

/-- 'bellbuoylaw15.CtrlPlays': WHATEVER THE INPUT: true; the input reads as it did. -/
def ctrlPlaysSpec : ChangeSpec := { name := "ctrlPlays", fn := fun _ => fun
  | [d1, d2, d3] => { results := [.lit (.bool true)], args := [d1, d2, d3] }
  | _ => none }
def ctrlPlaysRow : OpenClaim := { program := "ytfmmpglehiiofaa", sum := "beacbae932c56d9d5d4ff5c9cdab9b2fae7ecd2f5c0ac4ce0611cc3536a16b2f", func := "bellbuoy/bellbuoylaw15.CtrlPlays", spec := "ctrlPlays", unfollowed := true, recurses := true, apart := false }
def CtrlPlaysSaid : Prop := ctrlPlaysRow.holds Try.pinned (OpenSpec.ofChange ctrlPlaysSpec)

/-- ITS FALSE NEIGHBOUR: 'it returns false'. Refute it at one input. -/
def ctrlPlaysWrong : ChangeSpec := { name := "ctrlPlays", fn := fun _ => fun
  | [d1, d2, d3] => { results := [.lit (.bool false)], args := [d1, d2, d3] }
  | _ => none }
def CtrlPlaysWrongFalsely : Prop := ctrlPlaysRow.holds Try.pinned (OpenSpec.ofChange ctrlPlaysWrong)

/-- 'bellbuoylaw15.CtrlFates': WHATEVER THE INPUT: true; the input reads as it did. -/
def ctrlFatesSpec : ChangeSpec := { name := "ctrlFates", fn := fun _ => fun
  | [d] => { results := [.lit (.bool true)], args := [d] }
  | _ => none }
def ctrlFatesRow : OpenClaim := { program := "ytfmmpglehiiofaa", sum := "beacbae932c56d9d5d4ff5c9cdab9b2fae7ecd2f5c0ac4ce0611cc3536a16b2f", func := "bellbuoy/bellbuoylaw15.CtrlFates", spec := "ctrlFates", unfollowed := true, recurses := true, apart := false }
def CtrlFatesSaid : Prop := ctrlFatesRow.holds Try.pinned (OpenSpec.ofChange ctrlFatesSpec)

/-- ITS FALSE NEIGHBOUR: 'it returns false'. Refute it at one input. -/
def ctrlFatesWrong : ChangeSpec := { name := "ctrlFates", fn := fun _ => fun
  | [d] => { results := [.lit (.bool false)], args := [d] }
  | _ => none }
def CtrlFatesWrongFalsely : Prop := ctrlFatesRow.holds Try.pinned (OpenSpec.ofChange ctrlFatesWrong)

/-- 'bellbuoylaw15.CtrlOnce': WHATEVER THE INPUT: true; the input reads as it did. -/
def ctrlOnceSpec : ChangeSpec := { name := "ctrlOnce", fn := fun _ => fun
  | [d1, d2, d3] => { results := [.lit (.bool true)], args := [d1, d2, d3] }
  | _ => none }
def ctrlOnceRow : OpenClaim := { program := "ytfmmpglehiiofaa", sum := "beacbae932c56d9d5d4ff5c9cdab9b2fae7ecd2f5c0ac4ce0611cc3536a16b2f", func := "bellbuoy/bellbuoylaw15.CtrlOnce", spec := "ctrlOnce", unfollowed := true, recurses := true, apart := false }
def CtrlOnceSaid : Prop := ctrlOnceRow.holds Try.pinned (OpenSpec.ofChange ctrlOnceSpec)

/-- ITS FALSE NEIGHBOUR: 'it returns false'. Refute it at one input. -/
def ctrlOnceWrong : ChangeSpec := { name := "ctrlOnce", fn := fun _ => fun
  | [d1, d2, d3] => { results := [.lit (.bool false)], args := [d1, d2, d3] }
  | _ => none }
def CtrlOnceWrongFalsely : Prop := ctrlOnceRow.holds Try.pinned (OpenSpec.ofChange ctrlOnceWrong)

/-- 'bellbuoylaw16.OscCounts': WHATEVER THE INPUT: true; the input reads as it did. -/
def oscCountsSpec : ChangeSpec := { name := "oscCounts", fn := fun _ => fun
  | [d1, d2] => { results := [.lit (.bool true)], args := [d1, d2] }
  | _ => none }
def oscCountsRow : OpenClaim := { program := "ytfmmpglehiiofaa", sum := "beacbae932c56d9d5d4ff5c9cdab9b2fae7ecd2f5c0ac4ce0611cc3536a16b2f", func := "bellbuoy/bellbuoylaw16.OscCounts", spec := "oscCounts", apart := false }
def OscCountsSaid : Prop := oscCountsRow.holds Try.pinned (OpenSpec.ofChange oscCountsSpec)

/-- ITS FALSE NEIGHBOUR: 'it returns false'. Refute it at one input. -/
def oscCountsWrong : ChangeSpec := { name := "oscCounts", fn := fun _ => fun
  | [d1, d2] => { results := [.lit (.bool false)], args := [d1, d2] }
  | _ => none }
def OscCountsWrongFalsely : Prop := oscCountsRow.holds Try.pinned (OpenSpec.ofChange oscCountsWrong)

/-- 'bellbuoylaw16.OscStamps': WHATEVER THE INPUT: true; the input reads as it did. -/
def oscStampsSpec : ChangeSpec := { name := "oscStamps", fn := fun _ => fun
  | [d1, d2, d3] => { results := [.lit (.bool true)], args := [d1, d2, d3] }
  | _ => none }
def oscStampsRow : OpenClaim := { program := "ytfmmpglehiiofaa", sum := "beacbae932c56d9d5d4ff5c9cdab9b2fae7ecd2f5c0ac4ce0611cc3536a16b2f", func := "bellbuoy/bellbuoylaw16.OscStamps", spec := "oscStamps", apart := false }
def OscStampsSaid : Prop := oscStampsRow.holds Try.pinned (OpenSpec.ofChange oscStampsSpec)

/-- ITS FALSE NEIGHBOUR: 'it returns false'. Refute it at one input. -/
def oscStampsWrong : ChangeSpec := { name := "oscStamps", fn := fun _ => fun
  | [d1, d2, d3] => { results := [.lit (.bool false)], args := [d1, d2, d3] }
  | _ => none }
def OscStampsWrongFalsely : Prop := oscStampsRow.holds Try.pinned (OpenSpec.ofChange oscStampsWrong)

/-- 'bellbuoylaw16.OscBack': WHATEVER THE INPUT: true; the input reads as it did. -/
def oscBackSpec : ChangeSpec := { name := "oscBack", fn := fun _ => fun
  | [d1, d2, d3] => { results := [.lit (.bool true)], args := [d1, d2, d3] }
  | _ => none }
def oscBackRow : OpenClaim := { program := "ytfmmpglehiiofaa", sum := "beacbae932c56d9d5d4ff5c9cdab9b2fae7ecd2f5c0ac4ce0611cc3536a16b2f", func := "bellbuoy/bellbuoylaw16.OscBack", spec := "oscBack", apart := false }
def OscBackSaid : Prop := oscBackRow.holds Try.pinned (OpenSpec.ofChange oscBackSpec)

/-- ITS FALSE NEIGHBOUR: 'it returns false'. Refute it at one input. -/
def oscBackWrong : ChangeSpec := { name := "oscBack", fn := fun _ => fun
  | [d1, d2, d3] => { results := [.lit (.bool false)], args := [d1, d2, d3] }
  | _ => none }
def OscBackWrongFalsely : Prop := oscBackRow.holds Try.pinned (OpenSpec.ofChange oscBackWrong)

/-- 'bellbuoylaw16.OscLatest': WHATEVER THE INPUT: true; the input reads as it did. -/
def oscLatestSpec : ChangeSpec := { name := "oscLatest", fn := fun _ => fun
  | [d1, d2, d3] => { results := [.lit (.bool true)], args := [d1, d2, d3] }
  | _ => none }
def oscLatestRow : OpenClaim := { program := "ytfmmpglehiiofaa", sum := "beacbae932c56d9d5d4ff5c9cdab9b2fae7ecd2f5c0ac4ce0611cc3536a16b2f", func := "bellbuoy/bellbuoylaw16.OscLatest", spec := "oscLatest", apart := false }
def OscLatestSaid : Prop := oscLatestRow.holds Try.pinned (OpenSpec.ofChange oscLatestSpec)

/-- ITS FALSE NEIGHBOUR: 'it returns false'. Refute it at one input. -/
def oscLatestWrong : ChangeSpec := { name := "oscLatest", fn := fun _ => fun
  | [d1, d2, d3] => { results := [.lit (.bool false)], args := [d1, d2, d3] }
  | _ => none }
def OscLatestWrongFalsely : Prop := oscLatestRow.holds Try.pinned (OpenSpec.ofChange oscLatestWrong)

/-- 'bellbuoylaw16.OscSteady': WHATEVER THE INPUT: true; the input reads as it did. -/
def oscSteadySpec : ChangeSpec := { name := "oscSteady", fn := fun _ => fun
  | [d1, d2] => { results := [.lit (.bool true)], args := [d1, d2] }
  | _ => none }
def oscSteadyRow : OpenClaim := { program := "ytfmmpglehiiofaa", sum := "beacbae932c56d9d5d4ff5c9cdab9b2fae7ecd2f5c0ac4ce0611cc3536a16b2f", func := "bellbuoy/bellbuoylaw16.OscSteady", spec := "oscSteady", apart := false }
def OscSteadySaid : Prop := oscSteadyRow.holds Try.pinned (OpenSpec.ofChange oscSteadySpec)

/-- ITS FALSE NEIGHBOUR: 'it returns false'. Refute it at one input. -/
def oscSteadyWrong : ChangeSpec := { name := "oscSteady", fn := fun _ => fun
  | [d1, d2] => { results := [.lit (.bool false)], args := [d1, d2] }
  | _ => none }
def OscSteadyWrongFalsely : Prop := oscSteadyRow.holds Try.pinned (OpenSpec.ofChange oscSteadyWrong)

/-- 'bellbuoytop.TopStamps': WHATEVER THE INPUT: true; the input reads as it did. -/
def topStampsSpec : ChangeSpec := { name := "topStamps", fn := fun _ => fun
  | [d1, d2, d3] => { results := [.lit (.bool true)], args := [d1, d2, d3] }
  | _ => none }
def topStampsRow : OpenClaim := { program := "ytfmmpglehiiofaa", sum := "beacbae932c56d9d5d4ff5c9cdab9b2fae7ecd2f5c0ac4ce0611cc3536a16b2f", func := "bellbuoy/bellbuoytop.TopStamps", spec := "topStamps", unfollowed := true, recurses := true, apart := false }
def TopStampsSaid : Prop := topStampsRow.holds Try.pinned (OpenSpec.ofChange topStampsSpec)

/-- ITS FALSE NEIGHBOUR: 'it returns false'. Refute it at one input. -/
def topStampsWrong : ChangeSpec := { name := "topStamps", fn := fun _ => fun
  | [d1, d2, d3] => { results := [.lit (.bool false)], args := [d1, d2, d3] }
  | _ => none }
def TopStampsWrongFalsely : Prop := topStampsRow.holds Try.pinned (OpenSpec.ofChange topStampsWrong)

/- THE SECOND FORM. 'bulk': how many values and letters a reading holds, each counted each time it is reached (what is shared counts as often as it is met; a slice's spare places count too). A statement '..UptoSaid' is the law's where the arguments, and the package variables that the reading takes, are together of bulk at most 1048576: NARROWER than '..Said'. Prove '..Said' where nothing that the law and all that it calls make is longer than what came in: it says more and counts as full. Else prove '..UptoSaid'. A law counts once. -/
mutual
def uptoBulk {H : Type} : DataW H → Nat
  | .lit (.string bytes) => bytes.length + 1
  | .lit _ => 1
  | .nil => 1
  | .ptr d => uptoBulk d + 1
  | .slice elems spare => uptoBulkAll elems + uptoBulkAll spare + 1
  | .agg parts => uptoBulkAll parts + 1
  | .iface _ d => uptoBulk d + 1
  | .map entries => uptoBulkEntries entries + 1
  | .held _ => 1
def uptoBulkAll {H : Type} : List (DataW H) → Nat
  | [] => 0
  | d :: r => uptoBulk d + uptoBulkAll r
def uptoBulkEntries {H : Type} : List (Lit × DataW H) → Nat
  | [] => 0
  | x :: r => uptoBulkEntry x + uptoBulkEntries r
def uptoBulkEntry {H : Type} : Lit × DataW H → Nat
  | (.string bytes, d) => bytes.length + uptoBulk d + 1
  | (_, d) => uptoBulk d + 1
 end
def uptoSmall : (H : Type) → List (DataW H) → Bool := fun _ ds => decide (uptoBulkAll ds ≤ 1048576)
def OpenSpec.upto (s : _root_.Go.ChangeSpec) : _root_.Go.OpenSpec := { _root_.Go.OpenSpec.ofChange s with cond := some uptoSmall }

/-- 'bellbuoylaw13.BoxesPlay', WHERE WHAT IT READS IS OF BULK AT MOST 1048576: true; the input reads as it did. -/
def boxesPlayUptoRow : OpenClaim := { program := "ytfmmpglehiiofaa", sum := "beacbae932c56d9d5d4ff5c9cdab9b2fae7ecd2f5c0ac4ce0611cc3536a16b2f", func := "bellbuoy/bellbuoylaw13.BoxesPlay", spec := "boxesPlay", unfollowed := true, recurses := true, apart := false, narrowed := true }
def BoxesPlayUptoSaid : Prop := boxesPlayUptoRow.holds Try.pinned (OpenSpec.upto boxesPlaySpec)

/-- 'bellbuoylaw15.CtrlPlays', WHERE WHAT IT READS IS OF BULK AT MOST 1048576: true; the input reads as it did. -/
def ctrlPlaysUptoRow : OpenClaim := { program := "ytfmmpglehiiofaa", sum := "beacbae932c56d9d5d4ff5c9cdab9b2fae7ecd2f5c0ac4ce0611cc3536a16b2f", func := "bellbuoy/bellbuoylaw15.CtrlPlays", spec := "ctrlPlays", unfollowed := true, recurses := true, apart := false, narrowed := true }
def CtrlPlaysUptoSaid : Prop := ctrlPlaysUptoRow.holds Try.pinned (OpenSpec.upto ctrlPlaysSpec)

/-- 'bellbuoylaw15.CtrlFates', WHERE WHAT IT READS IS OF BULK AT MOST 1048576: true; the input reads as it did. -/
def ctrlFatesUptoRow : OpenClaim := { program := "ytfmmpglehiiofaa", sum := "beacbae932c56d9d5d4ff5c9cdab9b2fae7ecd2f5c0ac4ce0611cc3536a16b2f", func := "bellbuoy/bellbuoylaw15.CtrlFates", spec := "ctrlFates", unfollowed := true, recurses := true, apart := false, narrowed := true }
def CtrlFatesUptoSaid : Prop := ctrlFatesUptoRow.holds Try.pinned (OpenSpec.upto ctrlFatesSpec)

/-- 'bellbuoylaw15.CtrlOnce', WHERE WHAT IT READS IS OF BULK AT MOST 1048576: true; the input reads as it did. -/
def ctrlOnceUptoRow : OpenClaim := { program := "ytfmmpglehiiofaa", sum := "beacbae932c56d9d5d4ff5c9cdab9b2fae7ecd2f5c0ac4ce0611cc3536a16b2f", func := "bellbuoy/bellbuoylaw15.CtrlOnce", spec := "ctrlOnce", unfollowed := true, recurses := true, apart := false, narrowed := true }
def CtrlOnceUptoSaid : Prop := ctrlOnceUptoRow.holds Try.pinned (OpenSpec.upto ctrlOnceSpec)

/-- 'bellbuoylaw16.OscCounts', WHERE WHAT IT READS IS OF BULK AT MOST 1048576: true; the input reads as it did. -/
def oscCountsUptoRow : OpenClaim := { program := "ytfmmpglehiiofaa", sum := "beacbae932c56d9d5d4ff5c9cdab9b2fae7ecd2f5c0ac4ce0611cc3536a16b2f", func := "bellbuoy/bellbuoylaw16.OscCounts", spec := "oscCounts", apart := false, narrowed := true }
def OscCountsUptoSaid : Prop := oscCountsUptoRow.holds Try.pinned (OpenSpec.upto oscCountsSpec)

/-- 'bellbuoylaw16.OscStamps', WHERE WHAT IT READS IS OF BULK AT MOST 1048576: true; the input reads as it did. -/
def oscStampsUptoRow : OpenClaim := { program := "ytfmmpglehiiofaa", sum := "beacbae932c56d9d5d4ff5c9cdab9b2fae7ecd2f5c0ac4ce0611cc3536a16b2f", func := "bellbuoy/bellbuoylaw16.OscStamps", spec := "oscStamps", apart := false, narrowed := true }
def OscStampsUptoSaid : Prop := oscStampsUptoRow.holds Try.pinned (OpenSpec.upto oscStampsSpec)

/-- 'bellbuoylaw16.OscBack', WHERE WHAT IT READS IS OF BULK AT MOST 1048576: true; the input reads as it did. -/
def oscBackUptoRow : OpenClaim := { program := "ytfmmpglehiiofaa", sum := "beacbae932c56d9d5d4ff5c9cdab9b2fae7ecd2f5c0ac4ce0611cc3536a16b2f", func := "bellbuoy/bellbuoylaw16.OscBack", spec := "oscBack", apart := false, narrowed := true }
def OscBackUptoSaid : Prop := oscBackUptoRow.holds Try.pinned (OpenSpec.upto oscBackSpec)

/-- 'bellbuoylaw16.OscLatest', WHERE WHAT IT READS IS OF BULK AT MOST 1048576: true; the input reads as it did. -/
def oscLatestUptoRow : OpenClaim := { program := "ytfmmpglehiiofaa", sum := "beacbae932c56d9d5d4ff5c9cdab9b2fae7ecd2f5c0ac4ce0611cc3536a16b2f", func := "bellbuoy/bellbuoylaw16.OscLatest", spec := "oscLatest", apart := false, narrowed := true }
def OscLatestUptoSaid : Prop := oscLatestUptoRow.holds Try.pinned (OpenSpec.upto oscLatestSpec)

/-- 'bellbuoylaw16.OscSteady', WHERE WHAT IT READS IS OF BULK AT MOST 1048576: true; the input reads as it did. -/
def oscSteadyUptoRow : OpenClaim := { program := "ytfmmpglehiiofaa", sum := "beacbae932c56d9d5d4ff5c9cdab9b2fae7ecd2f5c0ac4ce0611cc3536a16b2f", func := "bellbuoy/bellbuoylaw16.OscSteady", spec := "oscSteady", apart := false, narrowed := true }
def OscSteadyUptoSaid : Prop := oscSteadyUptoRow.holds Try.pinned (OpenSpec.upto oscSteadySpec)

/-- 'bellbuoytop.TopStamps', WHERE WHAT IT READS IS OF BULK AT MOST 1048576: true; the input reads as it did. -/
def topStampsUptoRow : OpenClaim := { program := "ytfmmpglehiiofaa", sum := "beacbae932c56d9d5d4ff5c9cdab9b2fae7ecd2f5c0ac4ce0611cc3536a16b2f", func := "bellbuoy/bellbuoytop.TopStamps", spec := "topStamps", unfollowed := true, recurses := true, apart := false, narrowed := true }
def TopStampsUptoSaid : Prop := topStampsUptoRow.holds Try.pinned (OpenSpec.upto topStampsSpec)

end Rows
end Go.Proofs.Ytfmmpglehiiofaa
