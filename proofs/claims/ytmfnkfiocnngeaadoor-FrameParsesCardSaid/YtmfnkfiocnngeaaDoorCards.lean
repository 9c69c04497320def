/-
  DERIVED. GIVEN WITH THE SEED: THE CARDS: each row of YtmfnkfiocnngeaaDoorRows.lean that lists a variable, with what it lists TIED to the program's text (the seventh form; the later family's looks); each row that meets fmt, with fmt's text TOLD by the authors' own Lean function (tested against real Go, not proved from fmt's source: count such statements apart). THE CARD IS WHAT COUNTS. Prove the row's statement (the work); the ties are given (YtmfnkfiocnngeaaDoorTie.lean); close each card by the builder's one call (the guide's Derived/Test/ToyasCard.lean, 'card_holds'). Laid BY PROGRAM, IN A SANDBOX (cutbox-door.mjs). By AI agents, Wed Nov 11 2026. No macro, syntax, notation, axiom, sorry.
-/
import Derived.Test.YtmfnkfiocnngeaaDoorRows
import GoSem.ClaimSeven
namespace Go.Proofs.YtmfnkfiocnngeaaDoor
namespace Rows

/-- THE TIED CARD OF 'bellbuoylaw06.FrameIs'. -/
def frameIsCard : Claim7 := { stood := { row := frameIsRow, standIns := [], harness := (true, "54b9bdfba07f3f07b50c5fdb7dfd2b0229d8b186b7e1d9e1adf8149588808e2e"), looks := true }, kinds := [], alts := [], laidByText := true, laidKinds := [.data, .data, .data, .data, .sentinel, .sentinel], laidTests := true, laidLooks := .later }
def FrameIsCardSaid : Prop := Claim7.holds Tryd.pinned (.plain (OpenSpec.ofChange frameIsSpec)) frameIsCard

/-- THE TIED CARD OF 'bellbuoylaw06.FrameParses'. -/
def frameParsesCard : Claim7 := { stood := { row := frameParsesRow, standIns := [], harness := (true, "54b9bdfba07f3f07b50c5fdb7dfd2b0229d8b186b7e1d9e1adf8149588808e2e"), looks := true }, kinds := [], alts := [], laidByText := true, laidKinds := [.data, .data, .data, .data, .sentinel, .sentinel], laidTests := true, laidLooks := .later }
def FrameParsesCardSaid : Prop := Claim7.holds Tryd.pinned (.plain (OpenSpec.ofChange frameParsesSpec)) frameParsesCard

/-- THE TIED CARD OF 'bellbuoylaw06.FrameBack'. -/
def frameBackCard : Claim7 := { stood := { row := frameBackRow, standIns := [], harness := (true, "54b9bdfba07f3f07b50c5fdb7dfd2b0229d8b186b7e1d9e1adf8149588808e2e"), looks := true }, kinds := [], alts := [], laidByText := true, laidKinds := [.data, .data, .data, .data, .sentinel, .sentinel], laidTests := true, laidLooks := .later }
def FrameBackCardSaid : Prop := Claim7.holds Tryd.pinned (.plain (OpenSpec.ofChange frameBackSpec)) frameBackCard

/-- THE TIED CARD OF 'bellbuoylaw06.FrameSizes'. -/
def frameSizesCard : Claim7 := { stood := { row := frameSizesRow, standIns := [], harness := (true, "54b9bdfba07f3f07b50c5fdb7dfd2b0229d8b186b7e1d9e1adf8149588808e2e"), looks := true }, kinds := [], alts := [], laidByText := true, laidKinds := [.data, .data, .data, .data, .sentinel, .sentinel], laidTests := true, laidLooks := .later }
def FrameSizesCardSaid : Prop := Claim7.holds Tryd.pinned (.plain (OpenSpec.ofChange frameSizesSpec)) frameSizesCard

/-- THE TIED CARD OF 'bellbuoylaw06.FrameFlips'. -/
def frameFlipsCard : Claim7 := { stood := { row := frameFlipsRow, standIns := [], harness := (true, "54b9bdfba07f3f07b50c5fdb7dfd2b0229d8b186b7e1d9e1adf8149588808e2e"), looks := true }, kinds := [], alts := [], laidByText := true, laidKinds := [.data, .data, .data, .data, .sentinel, .sentinel], laidTests := true, laidLooks := .later }
def FrameFlipsCardSaid : Prop := Claim7.holds Tryd.pinned (.plain (OpenSpec.ofChange frameFlipsSpec)) frameFlipsCard

/-- THE TIED CARD OF 'bellbuoylaw09.SpeakAlone'. -/
def speakAloneCard : Claim7 := { stood := { row := speakAloneRow, standIns := [], harness := (true, "54b9bdfba07f3f07b50c5fdb7dfd2b0229d8b186b7e1d9e1adf8149588808e2e"), looks := true }, kinds := [], alts := [], laidByText := true, laidKinds := [.data], laidTests := true, laidLooks := .later }
def SpeakAloneCardSaid : Prop := Claim7.holds Tryd.pinned (.plain (OpenSpec.ofChange speakAloneSpec)) speakAloneCard

/-- THE TIED CARD OF 'bellbuoylaw09.SpeakTwo'. -/
def speakTwoCard : Claim7 := { stood := { row := speakTwoRow, standIns := [], harness := (true, "54b9bdfba07f3f07b50c5fdb7dfd2b0229d8b186b7e1d9e1adf8149588808e2e"), looks := true }, kinds := [], alts := [], laidByText := true, laidKinds := [.data], laidTests := true, laidLooks := .later }
def SpeakTwoCardSaid : Prop := Claim7.holds Tryd.pinned (.plain (OpenSpec.ofChange speakTwoSpec)) speakTwoCard

/-- THE TIED CARD OF 'bellbuoytop.TopRetries'. -/
def topRetriesCard : Claim7 := { stood := { row := topRetriesRow, standIns := [], harness := (true, "54b9bdfba07f3f07b50c5fdb7dfd2b0229d8b186b7e1d9e1adf8149588808e2e"), looks := true }, kinds := [], alts := [], laidByText := true, laidKinds := [.data], laidTests := true, laidLooks := .later }
def TopRetriesCardSaid : Prop := Claim7.holds Tryd.pinned (.plain (OpenSpec.ofChange topRetriesSpec)) topRetriesCard

/-- THE SECOND FORM's CARD OF 'bellbuoylaw06.FrameIs'. -/
def frameIsUptoCard : Claim7 := { stood := { row := frameIsUptoRow, standIns := [], harness := (true, "54b9bdfba07f3f07b50c5fdb7dfd2b0229d8b186b7e1d9e1adf8149588808e2e"), looks := true }, kinds := [], alts := [], laidByText := true, laidKinds := [.data, .data, .data, .data, .sentinel, .sentinel], laidTests := true, laidLooks := .later }
def FrameIsUptoCardSaid : Prop := Claim7.holds Tryd.pinned (.plain (OpenSpec.upto frameIsSpec)) frameIsUptoCard

/-- THE SECOND FORM's CARD OF 'bellbuoylaw06.FrameParses'. -/
def frameParsesUptoCard : Claim7 := { stood := { row := frameParsesUptoRow, standIns := [], harness := (true, "54b9bdfba07f3f07b50c5fdb7dfd2b0229d8b186b7e1d9e1adf8149588808e2e"), looks := true }, kinds := [], alts := [], laidByText := true, laidKinds := [.data, .data, .data, .data, .sentinel, .sentinel], laidTests := true, laidLooks := .later }
def FrameParsesUptoCardSaid : Prop := Claim7.holds Tryd.pinned (.plain (OpenSpec.upto frameParsesSpec)) frameParsesUptoCard

/-- THE SECOND FORM's CARD OF 'bellbuoylaw06.FrameBack'. -/
def frameBackUptoCard : Claim7 := { stood := { row := frameBackUptoRow, standIns := [], harness := (true, "54b9bdfba07f3f07b50c5fdb7dfd2b0229d8b186b7e1d9e1adf8149588808e2e"), looks := true }, kinds := [], alts := [], laidByText := true, laidKinds := [.data, .data, .data, .data, .sentinel, .sentinel], laidTests := true, laidLooks := .later }
def FrameBackUptoCardSaid : Prop := Claim7.holds Tryd.pinned (.plain (OpenSpec.upto frameBackSpec)) frameBackUptoCard

/-- THE SECOND FORM's CARD OF 'bellbuoylaw06.FrameSizes'. -/
def frameSizesUptoCard : Claim7 := { stood := { row := frameSizesUptoRow, standIns := [], harness := (true, "54b9bdfba07f3f07b50c5fdb7dfd2b0229d8b186b7e1d9e1adf8149588808e2e"), looks := true }, kinds := [], alts := [], laidByText := true, laidKinds := [.data, .data, .data, .data, .sentinel, .sentinel], laidTests := true, laidLooks := .later }
def FrameSizesUptoCardSaid : Prop := Claim7.holds Tryd.pinned (.plain (OpenSpec.upto frameSizesSpec)) frameSizesUptoCard

/-- THE SECOND FORM's CARD OF 'bellbuoylaw06.FrameFlips'. -/
def frameFlipsUptoCard : Claim7 := { stood := { row := frameFlipsUptoRow, standIns := [], harness := (true, "54b9bdfba07f3f07b50c5fdb7dfd2b0229d8b186b7e1d9e1adf8149588808e2e"), looks := true }, kinds := [], alts := [], laidByText := true, laidKinds := [.data, .data, .data, .data, .sentinel, .sentinel], laidTests := true, laidLooks := .later }
def FrameFlipsUptoCardSaid : Prop := Claim7.holds Tryd.pinned (.plain (OpenSpec.upto frameFlipsSpec)) frameFlipsUptoCard

/-- THE SECOND FORM's CARD OF 'bellbuoylaw09.SpeakAlone'. -/
def speakAloneUptoCard : Claim7 := { stood := { row := speakAloneUptoRow, standIns := [], harness := (true, "54b9bdfba07f3f07b50c5fdb7dfd2b0229d8b186b7e1d9e1adf8149588808e2e"), looks := true }, kinds := [], alts := [], laidByText := true, laidKinds := [.data], laidTests := true, laidLooks := .later }
def SpeakAloneUptoCardSaid : Prop := Claim7.holds Tryd.pinned (.plain (OpenSpec.upto speakAloneSpec)) speakAloneUptoCard

/-- THE SECOND FORM's CARD OF 'bellbuoylaw09.SpeakTwo'. -/
def speakTwoUptoCard : Claim7 := { stood := { row := speakTwoUptoRow, standIns := [], harness := (true, "54b9bdfba07f3f07b50c5fdb7dfd2b0229d8b186b7e1d9e1adf8149588808e2e"), looks := true }, kinds := [], alts := [], laidByText := true, laidKinds := [.data], laidTests := true, laidLooks := .later }
def SpeakTwoUptoCardSaid : Prop := Claim7.holds Tryd.pinned (.plain (OpenSpec.upto speakTwoSpec)) speakTwoUptoCard

/-- THE SECOND FORM's CARD OF 'bellbuoytop.TopRetries'. -/
def topRetriesUptoCard : Claim7 := { stood := { row := topRetriesUptoRow, standIns := [], harness := (true, "54b9bdfba07f3f07b50c5fdb7dfd2b0229d8b186b7e1d9e1adf8149588808e2e"), looks := true }, kinds := [], alts := [], laidByText := true, laidKinds := [.data], laidTests := true, laidLooks := .later }
def TopRetriesUptoCardSaid : Prop := Claim7.holds Tryd.pinned (.plain (OpenSpec.upto topRetriesSpec)) topRetriesUptoCard
end Rows
end Go.Proofs.YtmfnkfiocnngeaaDoor
