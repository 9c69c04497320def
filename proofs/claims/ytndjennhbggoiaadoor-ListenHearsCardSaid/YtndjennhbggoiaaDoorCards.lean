/-
  DERIVED. GIVEN WITH THE SEED: THE CARDS: each row of YtndjennhbggoiaaDoorRows.lean that lists a variable, with what it lists TIED to the program's text (the seventh form; the later family's looks); each row that meets fmt, with fmt's text TOLD by the authors' own Lean function (tested against real Go, not proved from fmt's source: count such statements apart). THE CARD IS WHAT COUNTS. Prove the row's statement (the work); the ties are given (YtndjennhbggoiaaDoorTie.lean); close each card by the builder's one call (the guide's Derived/Test/ToyasCard.lean, 'card_holds'). Laid BY PROGRAM, IN A SANDBOX (cutbox-door.mjs). By AI agents, Wed Nov 11 2026. No macro, syntax, notation, axiom, sorry.
-/
import Derived.Test.YtndjennhbggoiaaDoorRows
import GoSem.ClaimSeven
namespace Go.Proofs.YtndjennhbggoiaaDoor
namespace Rows

/-- THE TIED CARD OF 'bellbuoylaw06.FrameSizes'. -/
def frameSizesCard : Claim7 := { stood := { row := frameSizesRow, standIns := [], harness := (true, "7260ae6b1a33904418732bda20cf47318ce5309b760a32a7dae307030e4b1d97"), looks := true }, kinds := [], alts := [], laidByText := true, laidKinds := [.data, .data, .data, .data, .sentinel, .sentinel], laidTests := true, laidLooks := .later }
def FrameSizesCardSaid : Prop := Claim7.holds Tryd.pinned (.plain (OpenSpec.ofChange frameSizesSpec)) frameSizesCard

/-- THE TIED CARD OF 'bellbuoylaw06.FrameFlips'. -/
def frameFlipsCard : Claim7 := { stood := { row := frameFlipsRow, standIns := [], harness := (true, "7260ae6b1a33904418732bda20cf47318ce5309b760a32a7dae307030e4b1d97"), looks := true }, kinds := [], alts := [], laidByText := true, laidKinds := [.data, .data, .data, .data, .sentinel, .sentinel], laidTests := true, laidLooks := .later }
def FrameFlipsCardSaid : Prop := Claim7.holds Tryd.pinned (.plain (OpenSpec.ofChange frameFlipsSpec)) frameFlipsCard

/-- THE TIED CARD OF 'bellbuoylaw06.FrameParses'. -/
def frameParsesCard : Claim7 := { stood := { row := frameParsesRow, standIns := [], harness := (true, "7260ae6b1a33904418732bda20cf47318ce5309b760a32a7dae307030e4b1d97"), looks := true }, kinds := [], alts := [], laidByText := true, laidKinds := [.data, .data, .data, .data, .sentinel, .sentinel], laidTests := true, laidLooks := .later }
def FrameParsesCardSaid : Prop := Claim7.holds Tryd.pinned (.plain (OpenSpec.ofChange frameParsesSpec)) frameParsesCard

/-- THE TIED CARD OF 'bellbuoylaw06.FrameBack'. -/
def frameBackCard : Claim7 := { stood := { row := frameBackRow, standIns := [], harness := (true, "7260ae6b1a33904418732bda20cf47318ce5309b760a32a7dae307030e4b1d97"), looks := true }, kinds := [], alts := [], laidByText := true, laidKinds := [.data, .data, .data, .data, .sentinel, .sentinel], laidTests := true, laidLooks := .later }
def FrameBackCardSaid : Prop := Claim7.holds Tryd.pinned (.plain (OpenSpec.ofChange frameBackSpec)) frameBackCard

/-- THE TIED CARD OF 'bellbuoylaw06.FrameIs'. -/
def frameIsCard : Claim7 := { stood := { row := frameIsRow, standIns := [], harness := (true, "7260ae6b1a33904418732bda20cf47318ce5309b760a32a7dae307030e4b1d97"), looks := true }, kinds := [], alts := [], laidByText := true, laidKinds := [.data, .data, .data, .data, .sentinel, .sentinel], laidTests := true, laidLooks := .later }
def FrameIsCardSaid : Prop := Claim7.holds Tryd.pinned (.plain (OpenSpec.ofChange frameIsSpec)) frameIsCard

/-- THE TIED CARD OF 'bellbuoylaw07.WireReads'. -/
def wireReadsCard : Claim7 := { stood := { row := wireReadsRow, standIns := [], harness := (true, "7260ae6b1a33904418732bda20cf47318ce5309b760a32a7dae307030e4b1d97"), looks := true }, kinds := [], alts := [], laidByText := true, laidKinds := [.data], laidTests := true, laidLooks := .later }
def WireReadsCardSaid : Prop := Claim7.holds Tryd.pinned (.plain (OpenSpec.ofChange wireReadsSpec)) wireReadsCard

/-- THE TIED CARD OF 'bellbuoylaw08.ListenHears'. -/
def listenHearsCard : Claim7 := { stood := { row := listenHearsRow, standIns := [], harness := (true, "7260ae6b1a33904418732bda20cf47318ce5309b760a32a7dae307030e4b1d97"), looks := true }, kinds := [], alts := [], laidByText := true, laidKinds := [.data], laidTests := true, laidLooks := .later }
def ListenHearsCardSaid : Prop := Claim7.holds Tryd.pinned (.plain (OpenSpec.ofChange listenHearsSpec)) listenHearsCard

/-- THE TIED CARD OF 'bellbuoylaw08.ListenFrames'. -/
def listenFramesCard : Claim7 := { stood := { row := listenFramesRow, standIns := [], harness := (true, "7260ae6b1a33904418732bda20cf47318ce5309b760a32a7dae307030e4b1d97"), looks := true }, kinds := [], alts := [], laidByText := true, laidKinds := [.data], laidTests := true, laidLooks := .later }
def ListenFramesCardSaid : Prop := Claim7.holds Tryd.pinned (.plain (OpenSpec.ofChange listenFramesSpec)) listenFramesCard

/-- THE TIED CARD OF 'bellbuoylaw08.ListenDecodes'. -/
def listenDecodesCard : Claim7 := { stood := { row := listenDecodesRow, standIns := [], harness := (true, "7260ae6b1a33904418732bda20cf47318ce5309b760a32a7dae307030e4b1d97"), looks := true }, kinds := [], alts := [], laidByText := true, laidKinds := [.data], laidTests := true, laidLooks := .later }
def ListenDecodesCardSaid : Prop := Claim7.holds Tryd.pinned (.plain (OpenSpec.ofChange listenDecodesSpec)) listenDecodesCard

/-- THE TIED CARD OF 'bellbuoytop.TopHeard'. -/
def topHeardCard : Claim7 := { stood := { row := topHeardRow, standIns := [], harness := (true, "7260ae6b1a33904418732bda20cf47318ce5309b760a32a7dae307030e4b1d97"), looks := true }, kinds := [], alts := [], laidByText := true, laidKinds := [.data], laidTests := true, laidLooks := .later }
def TopHeardCardSaid : Prop := Claim7.holds Tryd.pinned (.plain (OpenSpec.ofChange topHeardSpec)) topHeardCard

/-- THE TIED CARD OF 'bellbuoylaw09.SpeakAlone'. -/
def speakAloneCard : Claim7 := { stood := { row := speakAloneRow, standIns := [], harness := (true, "7260ae6b1a33904418732bda20cf47318ce5309b760a32a7dae307030e4b1d97"), looks := true }, kinds := [], alts := [], laidByText := true, laidKinds := [.data], laidTests := true, laidLooks := .later }
def SpeakAloneCardSaid : Prop := Claim7.holds Tryd.pinned (.plain (OpenSpec.ofChange speakAloneSpec)) speakAloneCard

/-- THE TIED CARD OF 'bellbuoylaw09.SpeakTwo'. -/
def speakTwoCard : Claim7 := { stood := { row := speakTwoRow, standIns := [], harness := (true, "7260ae6b1a33904418732bda20cf47318ce5309b760a32a7dae307030e4b1d97"), looks := true }, kinds := [], alts := [], laidByText := true, laidKinds := [.data], laidTests := true, laidLooks := .later }
def SpeakTwoCardSaid : Prop := Claim7.holds Tryd.pinned (.plain (OpenSpec.ofChange speakTwoSpec)) speakTwoCard

/-- THE TIED CARD OF 'bellbuoytop.TopRetries'. -/
def topRetriesCard : Claim7 := { stood := { row := topRetriesRow, standIns := [], harness := (true, "7260ae6b1a33904418732bda20cf47318ce5309b760a32a7dae307030e4b1d97"), looks := true }, kinds := [], alts := [], laidByText := true, laidKinds := [.data], laidTests := true, laidLooks := .later }
def TopRetriesCardSaid : Prop := Claim7.holds Tryd.pinned (.plain (OpenSpec.ofChange topRetriesSpec)) topRetriesCard

/-- THE SECOND FORM's CARD OF 'bellbuoylaw06.FrameSizes'. -/
def frameSizesUptoCard : Claim7 := { stood := { row := frameSizesUptoRow, standIns := [], harness := (true, "7260ae6b1a33904418732bda20cf47318ce5309b760a32a7dae307030e4b1d97"), looks := true }, kinds := [], alts := [], laidByText := true, laidKinds := [.data, .data, .data, .data, .sentinel, .sentinel], laidTests := true, laidLooks := .later }
def FrameSizesUptoCardSaid : Prop := Claim7.holds Tryd.pinned (.plain (OpenSpec.upto frameSizesSpec)) frameSizesUptoCard

/-- THE SECOND FORM's CARD OF 'bellbuoylaw06.FrameFlips'. -/
def frameFlipsUptoCard : Claim7 := { stood := { row := frameFlipsUptoRow, standIns := [], harness := (true, "7260ae6b1a33904418732bda20cf47318ce5309b760a32a7dae307030e4b1d97"), looks := true }, kinds := [], alts := [], laidByText := true, laidKinds := [.data, .data, .data, .data, .sentinel, .sentinel], laidTests := true, laidLooks := .later }
def FrameFlipsUptoCardSaid : Prop := Claim7.holds Tryd.pinned (.plain (OpenSpec.upto frameFlipsSpec)) frameFlipsUptoCard

/-- THE SECOND FORM's CARD OF 'bellbuoylaw06.FrameParses'. -/
def frameParsesUptoCard : Claim7 := { stood := { row := frameParsesUptoRow, standIns := [], harness := (true, "7260ae6b1a33904418732bda20cf47318ce5309b760a32a7dae307030e4b1d97"), looks := true }, kinds := [], alts := [], laidByText := true, laidKinds := [.data, .data, .data, .data, .sentinel, .sentinel], laidTests := true, laidLooks := .later }
def FrameParsesUptoCardSaid : Prop := Claim7.holds Tryd.pinned (.plain (OpenSpec.upto frameParsesSpec)) frameParsesUptoCard

/-- THE SECOND FORM's CARD OF 'bellbuoylaw06.FrameBack'. -/
def frameBackUptoCard : Claim7 := { stood := { row := frameBackUptoRow, standIns := [], harness := (true, "7260ae6b1a33904418732bda20cf47318ce5309b760a32a7dae307030e4b1d97"), looks := true }, kinds := [], alts := [], laidByText := true, laidKinds := [.data, .data, .data, .data, .sentinel, .sentinel], laidTests := true, laidLooks := .later }
def FrameBackUptoCardSaid : Prop := Claim7.holds Tryd.pinned (.plain (OpenSpec.upto frameBackSpec)) frameBackUptoCard

/-- THE SECOND FORM's CARD OF 'bellbuoylaw06.FrameIs'. -/
def frameIsUptoCard : Claim7 := { stood := { row := frameIsUptoRow, standIns := [], harness := (true, "7260ae6b1a33904418732bda20cf47318ce5309b760a32a7dae307030e4b1d97"), looks := true }, kinds := [], alts := [], laidByText := true, laidKinds := [.data, .data, .data, .data, .sentinel, .sentinel], laidTests := true, laidLooks := .later }
def FrameIsUptoCardSaid : Prop := Claim7.holds Tryd.pinned (.plain (OpenSpec.upto frameIsSpec)) frameIsUptoCard

/-- THE SECOND FORM's CARD OF 'bellbuoylaw07.WireReads'. -/
def wireReadsUptoCard : Claim7 := { stood := { row := wireReadsUptoRow, standIns := [], harness := (true, "7260ae6b1a33904418732bda20cf47318ce5309b760a32a7dae307030e4b1d97"), looks := true }, kinds := [], alts := [], laidByText := true, laidKinds := [.data], laidTests := true, laidLooks := .later }
def WireReadsUptoCardSaid : Prop := Claim7.holds Tryd.pinned (.plain (OpenSpec.upto wireReadsSpec)) wireReadsUptoCard

/-- THE SECOND FORM's CARD OF 'bellbuoylaw08.ListenHears'. -/
def listenHearsUptoCard : Claim7 := { stood := { row := listenHearsUptoRow, standIns := [], harness := (true, "7260ae6b1a33904418732bda20cf47318ce5309b760a32a7dae307030e4b1d97"), looks := true }, kinds := [], alts := [], laidByText := true, laidKinds := [.data], laidTests := true, laidLooks := .later }
def ListenHearsUptoCardSaid : Prop := Claim7.holds Tryd.pinned (.plain (OpenSpec.upto listenHearsSpec)) listenHearsUptoCard

/-- THE SECOND FORM's CARD OF 'bellbuoylaw08.ListenFrames'. -/
def listenFramesUptoCard : Claim7 := { stood := { row := listenFramesUptoRow, standIns := [], harness := (true, "7260ae6b1a33904418732bda20cf47318ce5309b760a32a7dae307030e4b1d97"), looks := true }, kinds := [], alts := [], laidByText := true, laidKinds := [.data], laidTests := true, laidLooks := .later }
def ListenFramesUptoCardSaid : Prop := Claim7.holds Tryd.pinned (.plain (OpenSpec.upto listenFramesSpec)) listenFramesUptoCard

/-- THE SECOND FORM's CARD OF 'bellbuoylaw08.ListenDecodes'. -/
def listenDecodesUptoCard : Claim7 := { stood := { row := listenDecodesUptoRow, standIns := [], harness := (true, "7260ae6b1a33904418732bda20cf47318ce5309b760a32a7dae307030e4b1d97"), looks := true }, kinds := [], alts := [], laidByText := true, laidKinds := [.data], laidTests := true, laidLooks := .later }
def ListenDecodesUptoCardSaid : Prop := Claim7.holds Tryd.pinned (.plain (OpenSpec.upto listenDecodesSpec)) listenDecodesUptoCard

/-- THE SECOND FORM's CARD OF 'bellbuoytop.TopHeard'. -/
def topHeardUptoCard : Claim7 := { stood := { row := topHeardUptoRow, standIns := [], harness := (true, "7260ae6b1a33904418732bda20cf47318ce5309b760a32a7dae307030e4b1d97"), looks := true }, kinds := [], alts := [], laidByText := true, laidKinds := [.data], laidTests := true, laidLooks := .later }
def TopHeardUptoCardSaid : Prop := Claim7.holds Tryd.pinned (.plain (OpenSpec.upto topHeardSpec)) topHeardUptoCard

/-- THE SECOND FORM's CARD OF 'bellbuoylaw09.SpeakAlone'. -/
def speakAloneUptoCard : Claim7 := { stood := { row := speakAloneUptoRow, standIns := [], harness := (true, "7260ae6b1a33904418732bda20cf47318ce5309b760a32a7dae307030e4b1d97"), looks := true }, kinds := [], alts := [], laidByText := true, laidKinds := [.data], laidTests := true, laidLooks := .later }
def SpeakAloneUptoCardSaid : Prop := Claim7.holds Tryd.pinned (.plain (OpenSpec.upto speakAloneSpec)) speakAloneUptoCard

/-- THE SECOND FORM's CARD OF 'bellbuoylaw09.SpeakTwo'. -/
def speakTwoUptoCard : Claim7 := { stood := { row := speakTwoUptoRow, standIns := [], harness := (true, "7260ae6b1a33904418732bda20cf47318ce5309b760a32a7dae307030e4b1d97"), looks := true }, kinds := [], alts := [], laidByText := true, laidKinds := [.data], laidTests := true, laidLooks := .later }
def SpeakTwoUptoCardSaid : Prop := Claim7.holds Tryd.pinned (.plain (OpenSpec.upto speakTwoSpec)) speakTwoUptoCard

/-- THE SECOND FORM's CARD OF 'bellbuoytop.TopRetries'. -/
def topRetriesUptoCard : Claim7 := { stood := { row := topRetriesUptoRow, standIns := [], harness := (true, "7260ae6b1a33904418732bda20cf47318ce5309b760a32a7dae307030e4b1d97"), looks := true }, kinds := [], alts := [], laidByText := true, laidKinds := [.data], laidTests := true, laidLooks := .later }
def TopRetriesUptoCardSaid : Prop := Claim7.holds Tryd.pinned (.plain (OpenSpec.upto topRetriesSpec)) topRetriesUptoCard
end Rows
end Go.Proofs.YtndjennhbggoiaaDoor
