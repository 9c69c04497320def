/-
  DERIVED. GIVEN WITH THE SEED: THE CARDS: each row of YtmealljdecancaaDoorRows.lean that lists a variable, with what it lists TIED to the program's text (the seventh form; the later family's looks); each row that meets fmt, with fmt's text TOLD by the authors' own Lean function (tested against real Go, not proved from fmt's source: count such statements apart). THE CARD IS WHAT COUNTS. Prove the row's statement (the work); the ties are given (YtmealljdecancaaDoorTie.lean); close each card by the builder's one call (the guide's Derived/Test/ToyasCard.lean, 'card_holds'). Laid BY PROGRAM, IN A SANDBOX (cutbox-door.mjs). By AI agents, Wed Nov 11 2026. No macro, syntax, notation, axiom, sorry.
-/
import Derived.Test.YtmealljdecancaaDoorRows
import GoSem.ClaimSeven
namespace Go.Proofs.YtmealljdecancaaDoor
namespace Rows

/-- THE TIED CARD OF 'bellbuoylaw23.ClassIs'. -/
def classIsCard : Claim7 := { stood := { row := classIsRow, standIns := [], harness := (true, "356b3b9d8b1135972cf0aa9546255fc1cce76790b3c303ab4cbaa852f8a1261a"), looks := false }, kinds := [], alts := [], laidByText := true, laidKinds := [.data], laidTests := true, laidLooks := .later }
def ClassIsCardSaid : Prop := Claim7.holds Tryd.pinned (.plain (OpenSpec.ofChange classIsSpec)) classIsCard

/-- THE TIED CARD OF 'bellbuoylaw23.ClassOrders'. -/
def classOrdersCard : Claim7 := { stood := { row := classOrdersRow, standIns := [], harness := (true, "356b3b9d8b1135972cf0aa9546255fc1cce76790b3c303ab4cbaa852f8a1261a"), looks := false }, kinds := [], alts := [], laidByText := true, laidKinds := [.data], laidTests := true, laidLooks := .later }
def ClassOrdersCardSaid : Prop := Claim7.holds Tryd.pinned (.plain (OpenSpec.ofChange classOrdersSpec)) classOrdersCard

/-- THE TIED CARD OF 'bellbuoylaw23.ClassWire'. -/
def classWireCard : Claim7 := { stood := { row := classWireRow, standIns := [], harness := (true, "356b3b9d8b1135972cf0aa9546255fc1cce76790b3c303ab4cbaa852f8a1261a"), looks := false }, kinds := [], alts := [], laidByText := true, laidKinds := [.data], laidTests := true, laidLooks := .later }
def ClassWireCardSaid : Prop := Claim7.holds Tryd.pinned (.plain (OpenSpec.ofChange classWireSpec)) classWireCard

/-- THE TIED CARD OF 'bellbuoylaw23.ClassBack'. -/
def classBackCard : Claim7 := { stood := { row := classBackRow, standIns := [], harness := (true, "356b3b9d8b1135972cf0aa9546255fc1cce76790b3c303ab4cbaa852f8a1261a"), looks := false }, kinds := [], alts := [], laidByText := true, laidKinds := [.data], laidTests := true, laidLooks := .later }
def ClassBackCardSaid : Prop := Claim7.holds Tryd.pinned (.plain (OpenSpec.ofChange classBackSpec)) classBackCard

/-- THE TIED CARD OF 'bellbuoylaw23.ClassSlots'. -/
def classSlotsCard : Claim7 := { stood := { row := classSlotsRow, standIns := [], harness := (true, "356b3b9d8b1135972cf0aa9546255fc1cce76790b3c303ab4cbaa852f8a1261a"), looks := false }, kinds := [], alts := [], laidByText := true, laidKinds := [.data], laidTests := true, laidLooks := .later }
def ClassSlotsCardSaid : Prop := Claim7.holds Tryd.pinned (.plain (OpenSpec.ofChange classSlotsSpec)) classSlotsCard

/-- THE TIED CARD OF 'bellbuoytop.TopQueued'. -/
def topQueuedCard : Claim7 := { stood := { row := topQueuedRow, standIns := [], harness := (true, "356b3b9d8b1135972cf0aa9546255fc1cce76790b3c303ab4cbaa852f8a1261a"), looks := false }, kinds := [], alts := [], laidByText := true, laidKinds := [.data], laidTests := true, laidLooks := .later }
def TopQueuedCardSaid : Prop := Claim7.holds Tryd.pinned (.plain (OpenSpec.ofChange topQueuedSpec)) topQueuedCard

/-- THE SECOND FORM's CARD OF 'bellbuoylaw23.ClassIs'. -/
def classIsUptoCard : Claim7 := { stood := { row := classIsUptoRow, standIns := [], harness := (true, "356b3b9d8b1135972cf0aa9546255fc1cce76790b3c303ab4cbaa852f8a1261a"), looks := false }, kinds := [], alts := [], laidByText := true, laidKinds := [.data], laidTests := true, laidLooks := .later }
def ClassIsUptoCardSaid : Prop := Claim7.holds Tryd.pinned (.plain (OpenSpec.upto classIsSpec)) classIsUptoCard

/-- THE SECOND FORM's CARD OF 'bellbuoylaw23.ClassOrders'. -/
def classOrdersUptoCard : Claim7 := { stood := { row := classOrdersUptoRow, standIns := [], harness := (true, "356b3b9d8b1135972cf0aa9546255fc1cce76790b3c303ab4cbaa852f8a1261a"), looks := false }, kinds := [], alts := [], laidByText := true, laidKinds := [.data], laidTests := true, laidLooks := .later }
def ClassOrdersUptoCardSaid : Prop := Claim7.holds Tryd.pinned (.plain (OpenSpec.upto classOrdersSpec)) classOrdersUptoCard

/-- THE SECOND FORM's CARD OF 'bellbuoylaw23.ClassWire'. -/
def classWireUptoCard : Claim7 := { stood := { row := classWireUptoRow, standIns := [], harness := (true, "356b3b9d8b1135972cf0aa9546255fc1cce76790b3c303ab4cbaa852f8a1261a"), looks := false }, kinds := [], alts := [], laidByText := true, laidKinds := [.data], laidTests := true, laidLooks := .later }
def ClassWireUptoCardSaid : Prop := Claim7.holds Tryd.pinned (.plain (OpenSpec.upto classWireSpec)) classWireUptoCard

/-- THE SECOND FORM's CARD OF 'bellbuoylaw23.ClassBack'. -/
def classBackUptoCard : Claim7 := { stood := { row := classBackUptoRow, standIns := [], harness := (true, "356b3b9d8b1135972cf0aa9546255fc1cce76790b3c303ab4cbaa852f8a1261a"), looks := false }, kinds := [], alts := [], laidByText := true, laidKinds := [.data], laidTests := true, laidLooks := .later }
def ClassBackUptoCardSaid : Prop := Claim7.holds Tryd.pinned (.plain (OpenSpec.upto classBackSpec)) classBackUptoCard

/-- THE SECOND FORM's CARD OF 'bellbuoylaw23.ClassSlots'. -/
def classSlotsUptoCard : Claim7 := { stood := { row := classSlotsUptoRow, standIns := [], harness := (true, "356b3b9d8b1135972cf0aa9546255fc1cce76790b3c303ab4cbaa852f8a1261a"), looks := false }, kinds := [], alts := [], laidByText := true, laidKinds := [.data], laidTests := true, laidLooks := .later }
def ClassSlotsUptoCardSaid : Prop := Claim7.holds Tryd.pinned (.plain (OpenSpec.upto classSlotsSpec)) classSlotsUptoCard

/-- THE SECOND FORM's CARD OF 'bellbuoytop.TopQueued'. -/
def topQueuedUptoCard : Claim7 := { stood := { row := topQueuedUptoRow, standIns := [], harness := (true, "356b3b9d8b1135972cf0aa9546255fc1cce76790b3c303ab4cbaa852f8a1261a"), looks := false }, kinds := [], alts := [], laidByText := true, laidKinds := [.data], laidTests := true, laidLooks := .later }
def TopQueuedUptoCardSaid : Prop := Claim7.holds Tryd.pinned (.plain (OpenSpec.upto topQueuedSpec)) topQueuedUptoCard
end Rows
end Go.Proofs.YtmealljdecancaaDoor
