/-
  NARROWER THAN 'FOR EVERY INPUT', by the rows' own cells (each row's printed sentence says how): ClassIs: laid · ClassOrders: laid · ClassWire: laid · ClassBack: laid · ClassSlots: laid · TopQueued: laid.
  DERIVED. THE GIVEN ROWS OF THIS SEAT. 6 by the template 'for every input the law returns true; each argument reads behind the call as it read before'; 0 by the template 'total and deterministic' (their statements: YtmealljdecancaaDoorTotals.lean).
  GIVEN WITH THE SEED: the statements are not yours to turn. If you find one false, say at which input.
  Laid BY PROGRAM, IN A SANDBOX (cutbox-rows.mjs): the forced cells as the released guide's own fill.sh prints them over the translation 9e000385cf56d5b4… (all of the seat's roots in one cut). By AI agents, Wed Nov 11 2026. No macro, syntax, notation, axiom, sorry.
-/
import Derived.Test.YtmealljdecancaaDoorChecked
import GoSem.Claim
import GoSem.ClaimJoined
import GoSem.ClaimMapViews
import Derived.JoinedTies
import Derived.KernelRfl
namespace Go.Proofs.YtmealljdecancaaDoor
/- THE CELL 'sum', in the pinned program and in every row, IS THE sha256 OF THE DUMP (.gsa) THAT YtmealljdecancaaDoorProg.lean LOADS. Nothing in Lean hashes anything: it is a label: what it is worth is what the hold of that sum in a sandbox is worth. -/
noncomputable def Tryd.pinned : Pinned := { name := "ytmealljdecancaadoor", sum := "9e000385cf56d5b436e2d307b93a09d831a83bab0c8b3cc10748d949ab6b37be", checked := Tryd.checked }
namespace Rows
def none {H : Type} : Left H := { results := [], args := [] }

/- WHAT THE LISTED PACKAGE-LEVEL VARIABLES READ AS WHEN THE CALL BEGINS. Each datum BY PROGRAM (the guide's laid-datum.mjs) off the statement by which the dump's own 'gosem.cut.vars' lays the variable. In a bare row this is a premise. The card (YtmealljdecancaaDoorCards.lean) ties it to the program's text. -/
def laid_bellbuoy_class_widths {H : Type} : DataW H := .agg [.lit (.int .i64 2), .lit (.int .i64 8), .lit (.int .i64 11), .lit (.int .i64 5)]

/-- 'bellbuoylaw23.ClassIs': WHATEVER THE INPUT: true; the input reads as it did. -/
def classIsSpec : ChangeSpec := { name := "classIs", fn := fun _ => fun
  | [d1, d2] => { results := [.lit (.bool true)], args := [d1, d2] }
  | _ => none }
def classIsRow : OpenClaim := { program := "ytmealljdecancaadoor", sum := "9e000385cf56d5b436e2d307b93a09d831a83bab0c8b3cc10748d949ab6b37be", func := "bellbuoy/bellbuoylaw23.ClassIs", spec := "classIs", named := ["bellbuoy/class.widths"], apart := false, laid := [("bellbuoy/class.widths", laid_bellbuoy_class_widths)] }
def ClassIsSaid : Prop := classIsRow.holds Tryd.pinned (OpenSpec.ofChange classIsSpec)

/-- ITS FALSE NEIGHBOUR: 'it returns false'. Refute it at one input. -/
def classIsWrong : ChangeSpec := { name := "classIs", fn := fun _ => fun
  | [d1, d2] => { results := [.lit (.bool false)], args := [d1, d2] }
  | _ => none }
def ClassIsWrongFalsely : Prop := classIsRow.holds Tryd.pinned (OpenSpec.ofChange classIsWrong)

/-- 'bellbuoylaw23.ClassOrders': WHATEVER THE INPUT: true; the input reads as it did. -/
def classOrdersSpec : ChangeSpec := { name := "classOrders", fn := fun _ => fun
  | [d1, d2] => { results := [.lit (.bool true)], args := [d1, d2] }
  | _ => none }
def classOrdersRow : OpenClaim := { program := "ytmealljdecancaadoor", sum := "9e000385cf56d5b436e2d307b93a09d831a83bab0c8b3cc10748d949ab6b37be", func := "bellbuoy/bellbuoylaw23.ClassOrders", spec := "classOrders", named := ["bellbuoy/class.widths"], apart := false, laid := [("bellbuoy/class.widths", laid_bellbuoy_class_widths)] }
def ClassOrdersSaid : Prop := classOrdersRow.holds Tryd.pinned (OpenSpec.ofChange classOrdersSpec)

/-- ITS FALSE NEIGHBOUR: 'it returns false'. Refute it at one input. -/
def classOrdersWrong : ChangeSpec := { name := "classOrders", fn := fun _ => fun
  | [d1, d2] => { results := [.lit (.bool false)], args := [d1, d2] }
  | _ => none }
def ClassOrdersWrongFalsely : Prop := classOrdersRow.holds Tryd.pinned (OpenSpec.ofChange classOrdersWrong)

/-- 'bellbuoylaw23.ClassWire': WHATEVER THE INPUT: true; the input reads as it did. -/
def classWireSpec : ChangeSpec := { name := "classWire", fn := fun _ => fun
  | [d1, d2, d3] => { results := [.lit (.bool true)], args := [d1, d2, d3] }
  | _ => none }
def classWireRow : OpenClaim := { program := "ytmealljdecancaadoor", sum := "9e000385cf56d5b436e2d307b93a09d831a83bab0c8b3cc10748d949ab6b37be", func := "bellbuoy/bellbuoylaw23.ClassWire", spec := "classWire", named := ["bellbuoy/class.widths"], apart := false, laid := [("bellbuoy/class.widths", laid_bellbuoy_class_widths)] }
def ClassWireSaid : Prop := classWireRow.holds Tryd.pinned (OpenSpec.ofChange classWireSpec)

/-- ITS FALSE NEIGHBOUR: 'it returns false'. Refute it at one input. -/
def classWireWrong : ChangeSpec := { name := "classWire", fn := fun _ => fun
  | [d1, d2, d3] => { results := [.lit (.bool false)], args := [d1, d2, d3] }
  | _ => none }
def ClassWireWrongFalsely : Prop := classWireRow.holds Tryd.pinned (OpenSpec.ofChange classWireWrong)

/-- 'bellbuoylaw23.ClassBack': WHATEVER THE INPUT: true; the input reads as it did. -/
def classBackSpec : ChangeSpec := { name := "classBack", fn := fun _ => fun
  | [d1, d2] => { results := [.lit (.bool true)], args := [d1, d2] }
  | _ => none }
def classBackRow : OpenClaim := { program := "ytmealljdecancaadoor", sum := "9e000385cf56d5b436e2d307b93a09d831a83bab0c8b3cc10748d949ab6b37be", func := "bellbuoy/bellbuoylaw23.ClassBack", spec := "classBack", named := ["bellbuoy/class.widths"], apart := false, laid := [("bellbuoy/class.widths", laid_bellbuoy_class_widths)] }
def ClassBackSaid : Prop := classBackRow.holds Tryd.pinned (OpenSpec.ofChange classBackSpec)

/-- ITS FALSE NEIGHBOUR: 'it returns false'. Refute it at one input. -/
def classBackWrong : ChangeSpec := { name := "classBack", fn := fun _ => fun
  | [d1, d2] => { results := [.lit (.bool false)], args := [d1, d2] }
  | _ => none }
def ClassBackWrongFalsely : Prop := classBackRow.holds Tryd.pinned (OpenSpec.ofChange classBackWrong)

/-- 'bellbuoylaw23.ClassSlots': WHATEVER THE INPUT: true; the input reads as it did. -/
def classSlotsSpec : ChangeSpec := { name := "classSlots", fn := fun _ => fun
  | [d1, d2] => { results := [.lit (.bool true)], args := [d1, d2] }
  | _ => none }
def classSlotsRow : OpenClaim := { program := "ytmealljdecancaadoor", sum := "9e000385cf56d5b436e2d307b93a09d831a83bab0c8b3cc10748d949ab6b37be", func := "bellbuoy/bellbuoylaw23.ClassSlots", spec := "classSlots", named := ["bellbuoy/class.widths"], apart := false, laid := [("bellbuoy/class.widths", laid_bellbuoy_class_widths)] }
def ClassSlotsSaid : Prop := classSlotsRow.holds Tryd.pinned (OpenSpec.ofChange classSlotsSpec)

/-- ITS FALSE NEIGHBOUR: 'it returns false'. Refute it at one input. -/
def classSlotsWrong : ChangeSpec := { name := "classSlots", fn := fun _ => fun
  | [d1, d2] => { results := [.lit (.bool false)], args := [d1, d2] }
  | _ => none }
def ClassSlotsWrongFalsely : Prop := classSlotsRow.holds Tryd.pinned (OpenSpec.ofChange classSlotsWrong)

/-- 'bellbuoytop.TopQueued': WHATEVER THE INPUT: true; the input reads as it did. -/
def topQueuedSpec : ChangeSpec := { name := "topQueued", fn := fun _ => fun
  | [d] => { results := [.lit (.bool true)], args := [d] }
  | _ => none }
def topQueuedRow : OpenClaim := { program := "ytmealljdecancaadoor", sum := "9e000385cf56d5b436e2d307b93a09d831a83bab0c8b3cc10748d949ab6b37be", func := "bellbuoy/bellbuoytop.TopQueued", spec := "topQueued", inPlace := ["internal/reflectlite.ValueOf", "internal/reflectlite.Swapper", "(internal/reflectlite.Value).Len"], unfollowed := true, recurses := true, named := ["bellbuoy/class.widths"], apart := false, laid := [("bellbuoy/class.widths", laid_bellbuoy_class_widths)] }
def TopQueuedSaid : Prop := topQueuedRow.holds Tryd.pinned (OpenSpec.ofChange topQueuedSpec)

/-- ITS FALSE NEIGHBOUR: 'it returns false'. Refute it at one input. -/
def topQueuedWrong : ChangeSpec := { name := "topQueued", fn := fun _ => fun
  | [d] => { results := [.lit (.bool false)], args := [d] }
  | _ => none }
def TopQueuedWrongFalsely : Prop := topQueuedRow.holds Tryd.pinned (OpenSpec.ofChange topQueuedWrong)

/- THE SECOND FORM. 'bulk': how many values and letters a reading holds, each counted each time it is reached (what is shared counts as often as it is met; a slice's spare places count too). A statement '..UptoSaid' is the law's where the arguments, and the package variables that the reading takes, are together of bulk at most 1048576: NARROWER than '..Said'. Prove '..Said' where nothing that the law and all that it calls make is longer than what came in: it says more and counts as full. Else prove '..UptoSaid'. A law counts once. -/
mutual
def uptoBulk {H : Type} : DataW H → Nat
  | .lit (.string bytes) => bytes.length + 1
  | .lit _ => 1
  | .nil => 1
  | .ptr d => uptoBulk d + 1
  | .slice elems spare => uptoBulkAll elems + uptoBulkAll spare + 1
  | .agg parts => uptoBulkAll parts + 1
  | .iface _ d => uptoBulk d + 1
  | .map entries => uptoBulkEntries entries + 1
  | .held _ => 1
def uptoBulkAll {H : Type} : List (DataW H) → Nat
  | [] => 0
  | d :: r => uptoBulk d + uptoBulkAll r
def uptoBulkEntries {H : Type} : List (Lit × DataW H) → Nat
  | [] => 0
  | x :: r => uptoBulkEntry x + uptoBulkEntries r
def uptoBulkEntry {H : Type} : Lit × DataW H → Nat
  | (.string bytes, d) => bytes.length + uptoBulk d + 1
  | (_, d) => uptoBulk d + 1
 end
def uptoSmall : (H : Type) → List (DataW H) → Bool := fun _ ds => decide (uptoBulkAll ds ≤ 1048576)
def OpenSpec.upto (s : _root_.Go.ChangeSpec) : _root_.Go.OpenSpec := { _root_.Go.OpenSpec.ofChange s with cond := some uptoSmall }

/-- 'bellbuoylaw23.ClassIs', WHERE WHAT IT READS IS OF BULK AT MOST 1048576: true; the input reads as it did. -/
def classIsUptoRow : OpenClaim := { program := "ytmealljdecancaadoor", sum := "9e000385cf56d5b436e2d307b93a09d831a83bab0c8b3cc10748d949ab6b37be", func := "bellbuoy/bellbuoylaw23.ClassIs", spec := "classIs", named := ["bellbuoy/class.widths"], apart := false, laid := [("bellbuoy/class.widths", laid_bellbuoy_class_widths)], narrowed := true }
def ClassIsUptoSaid : Prop := classIsUptoRow.holds Tryd.pinned (OpenSpec.upto classIsSpec)

/-- 'bellbuoylaw23.ClassOrders', WHERE WHAT IT READS IS OF BULK AT MOST 1048576: true; the input reads as it did. -/
def classOrdersUptoRow : OpenClaim := { program := "ytmealljdecancaadoor", sum := "9e000385cf56d5b436e2d307b93a09d831a83bab0c8b3cc10748d949ab6b37be", func := "bellbuoy/bellbuoylaw23.ClassOrders", spec := "classOrders", named := ["bellbuoy/class.widths"], apart := false, laid := [("bellbuoy/class.widths", laid_bellbuoy_class_widths)], narrowed := true }
def ClassOrdersUptoSaid : Prop := classOrdersUptoRow.holds Tryd.pinned (OpenSpec.upto classOrdersSpec)

/-- 'bellbuoylaw23.ClassWire', WHERE WHAT IT READS IS OF BULK AT MOST 1048576: true; the input reads as it did. -/
def classWireUptoRow : OpenClaim := { program := "ytmealljdecancaadoor", sum := "9e000385cf56d5b436e2d307b93a09d831a83bab0c8b3cc10748d949ab6b37be", func := "bellbuoy/bellbuoylaw23.ClassWire", spec := "classWire", named := ["bellbuoy/class.widths"], apart := false, laid := [("bellbuoy/class.widths", laid_bellbuoy_class_widths)], narrowed := true }
def ClassWireUptoSaid : Prop := classWireUptoRow.holds Tryd.pinned (OpenSpec.upto classWireSpec)

/-- 'bellbuoylaw23.ClassBack', WHERE WHAT IT READS IS OF BULK AT MOST 1048576: true; the input reads as it did. -/
def classBackUptoRow : OpenClaim := { program := "ytmealljdecancaadoor", sum := "9e000385cf56d5b436e2d307b93a09d831a83bab0c8b3cc10748d949ab6b37be", func := "bellbuoy/bellbuoylaw23.ClassBack", spec := "classBack", named := ["bellbuoy/class.widths"], apart := false, laid := [("bellbuoy/class.widths", laid_bellbuoy_class_widths)], narrowed := true }
def ClassBackUptoSaid : Prop := classBackUptoRow.holds Tryd.pinned (OpenSpec.upto classBackSpec)

/-- 'bellbuoylaw23.ClassSlots', WHERE WHAT IT READS IS OF BULK AT MOST 1048576: true; the input reads as it did. -/
def classSlotsUptoRow : OpenClaim := { program := "ytmealljdecancaadoor", sum := "9e000385cf56d5b436e2d307b93a09d831a83bab0c8b3cc10748d949ab6b37be", func := "bellbuoy/bellbuoylaw23.ClassSlots", spec := "classSlots", named := ["bellbuoy/class.widths"], apart := false, laid := [("bellbuoy/class.widths", laid_bellbuoy_class_widths)], narrowed := true }
def ClassSlotsUptoSaid : Prop := classSlotsUptoRow.holds Tryd.pinned (OpenSpec.upto classSlotsSpec)

/-- 'bellbuoytop.TopQueued', WHERE WHAT IT READS IS OF BULK AT MOST 1048576: true; the input reads as it did. -/
def topQueuedUptoRow : OpenClaim := { program := "ytmealljdecancaadoor", sum := "9e000385cf56d5b436e2d307b93a09d831a83bab0c8b3cc10748d949ab6b37be", func := "bellbuoy/bellbuoytop.TopQueued", spec := "topQueued", inPlace := ["internal/reflectlite.ValueOf", "internal/reflectlite.Swapper", "(internal/reflectlite.Value).Len"], unfollowed := true, recurses := true, named := ["bellbuoy/class.widths"], apart := false, laid := [("bellbuoy/class.widths", laid_bellbuoy_class_widths)], narrowed := true }
def TopQueuedUptoSaid : Prop := topQueuedUptoRow.holds Tryd.pinned (OpenSpec.upto topQueuedSpec)

end Rows
end Go.Proofs.YtmealljdecancaaDoor
