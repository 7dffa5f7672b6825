/-
  DERIVED. GIVEN WITH THE SEED: THE CARDS: each row of YtdbfpjgnlfejmaaDoorRows.lean that lists a variable, with what it lists TIED to the program's text (the seventh form; the later family's looks); each row that meets fmt, with fmt's text TOLD by the authors' own Lean function (tested against real Go, not proved from fmt's source: count such statements apart). THE CARD IS WHAT COUNTS. Prove the row's statement (the work); the ties are given (YtdbfpjgnlfejmaaDoorTie.lean); close each card by the builder's one call (the guide's Derived/Test/ToyasCard.lean, 'card_holds'). Laid BY PROGRAM, IN A SANDBOX (cutbox-door.mjs). By AI agents, Wed Nov 11 2026. No macro, syntax, notation, axiom, sorry.
-/
import Derived.Test.YtdbfpjgnlfejmaaDoorRows
import GoSem.ClaimSeven
namespace Go.Proofs.YtdbfpjgnlfejmaaDoor
namespace Rows

/-- THE TIED CARD OF 'lodgerlaw26.DiagSorts'. -/
def diagSortsCard : Claim7 := { stood := { row := diagSortsRow, standIns := [], harness := (true, "a7bebf9a0ed2280a856f9b17a72e71a0ed185be35e8fe28c10c7a8eb0fd3d898"), looks := false }, kinds := [], alts := [], laidByText := true, laidKinds := [.data], laidTests := true, laidLooks := .later }
def DiagSortsCardSaid : Prop := Claim7.holds Tryd.pinned (.plain (OpenSpec.ofChange diagSortsSpec)) diagSortsCard

/-- THE TIED CARD OF 'lodgerlaw26.DiagReads'. -/
def diagReadsCard : Claim7 := { stood := { row := diagReadsRow, standIns := [], harness := (true, "a7bebf9a0ed2280a856f9b17a72e71a0ed185be35e8fe28c10c7a8eb0fd3d898"), looks := false }, kinds := [], alts := [], laidByText := true, laidKinds := [.data], laidTests := true, laidLooks := .later }
def DiagReadsCardSaid : Prop := Claim7.holds Tryd.pinned (.plain (OpenSpec.ofChange diagReadsSpec)) diagReadsCard

/-- THE TIED CARD OF 'lodgerlaw26.DiagBack'. -/
def diagBackCard : Claim7 := { stood := { row := diagBackRow, standIns := [], harness := (true, "a7bebf9a0ed2280a856f9b17a72e71a0ed185be35e8fe28c10c7a8eb0fd3d898"), looks := false }, kinds := [], alts := [], laidByText := true, laidKinds := [.data], laidTests := true, laidLooks := .later }
def DiagBackCardSaid : Prop := Claim7.holds Tryd.pinned (.plain (OpenSpec.ofChange diagBackSpec)) diagBackCard

/-- THE TIED CARD OF 'lodgerlaw26.DiagOrder'. -/
def diagOrderCard : Claim7 := { stood := { row := diagOrderRow, standIns := [], harness := (true, "a7bebf9a0ed2280a856f9b17a72e71a0ed185be35e8fe28c10c7a8eb0fd3d898"), looks := false }, kinds := [], alts := [], laidByText := true, laidKinds := [.data], laidTests := true, laidLooks := .later }
def DiagOrderCardSaid : Prop := Claim7.holds Tryd.pinned (.plain (OpenSpec.ofChange diagOrderSpec)) diagOrderCard

/-- THE TIED CARD OF 'lodgerlaw27.MsgReads'. -/
def msgReadsCard : Claim7 := { stood := { row := msgReadsRow, standIns := [], harness := (true, "a7bebf9a0ed2280a856f9b17a72e71a0ed185be35e8fe28c10c7a8eb0fd3d898"), looks := false }, kinds := [], alts := [], laidByText := true, laidKinds := [.data], laidTests := true, laidLooks := .later }
def MsgReadsCardSaid : Prop := Claim7.holds Tryd.pinned (.plain (OpenSpec.ofChange msgReadsSpec)) msgReadsCard

/-- THE TIED CARD OF 'lodgerlaw27.MsgAnswers'. -/
def msgAnswersCard : Claim7 := { stood := { row := msgAnswersRow, standIns := [], harness := (true, "a7bebf9a0ed2280a856f9b17a72e71a0ed185be35e8fe28c10c7a8eb0fd3d898"), looks := false }, kinds := [], alts := [], laidByText := true, laidKinds := [.data], laidTests := true, laidLooks := .later }
def MsgAnswersCardSaid : Prop := Claim7.holds Tryd.pinned (.plain (OpenSpec.ofChange msgAnswersSpec)) msgAnswersCard

/-- THE TIED CARD OF 'lodgerlaw27.MsgBack'. -/
def msgBackCard : Claim7 := { stood := { row := msgBackRow, standIns := [], harness := (true, "a7bebf9a0ed2280a856f9b17a72e71a0ed185be35e8fe28c10c7a8eb0fd3d898"), looks := false }, kinds := [], alts := [], laidByText := true, laidKinds := [.data], laidTests := true, laidLooks := .later }
def MsgBackCardSaid : Prop := Claim7.holds Tryd.pinned (.plain (OpenSpec.ofChange msgBackSpec)) msgBackCard

/-- THE TIED CARD OF 'lodgerlaw27.MsgOnce'. -/
def msgOnceCard : Claim7 := { stood := { row := msgOnceRow, standIns := [], harness := (true, "a7bebf9a0ed2280a856f9b17a72e71a0ed185be35e8fe28c10c7a8eb0fd3d898"), looks := false }, kinds := [], alts := [], laidByText := true, laidKinds := [.data], laidTests := true, laidLooks := .later }
def MsgOnceCardSaid : Prop := Claim7.holds Tryd.pinned (.plain (OpenSpec.ofChange msgOnceSpec)) msgOnceCard

/-- THE SECOND FORM's CARD OF 'lodgerlaw26.DiagSorts'. -/
def diagSortsUptoCard : Claim7 := { stood := { row := diagSortsUptoRow, standIns := [], harness := (true, "a7bebf9a0ed2280a856f9b17a72e71a0ed185be35e8fe28c10c7a8eb0fd3d898"), looks := false }, kinds := [], alts := [], laidByText := true, laidKinds := [.data], laidTests := true, laidLooks := .later }
def DiagSortsUptoCardSaid : Prop := Claim7.holds Tryd.pinned (.plain (OpenSpec.upto diagSortsSpec)) diagSortsUptoCard

/-- THE SECOND FORM's CARD OF 'lodgerlaw26.DiagReads'. -/
def diagReadsUptoCard : Claim7 := { stood := { row := diagReadsUptoRow, standIns := [], harness := (true, "a7bebf9a0ed2280a856f9b17a72e71a0ed185be35e8fe28c10c7a8eb0fd3d898"), looks := false }, kinds := [], alts := [], laidByText := true, laidKinds := [.data], laidTests := true, laidLooks := .later }
def DiagReadsUptoCardSaid : Prop := Claim7.holds Tryd.pinned (.plain (OpenSpec.upto diagReadsSpec)) diagReadsUptoCard

/-- THE SECOND FORM's CARD OF 'lodgerlaw26.DiagBack'. -/
def diagBackUptoCard : Claim7 := { stood := { row := diagBackUptoRow, standIns := [], harness := (true, "a7bebf9a0ed2280a856f9b17a72e71a0ed185be35e8fe28c10c7a8eb0fd3d898"), looks := false }, kinds := [], alts := [], laidByText := true, laidKinds := [.data], laidTests := true, laidLooks := .later }
def DiagBackUptoCardSaid : Prop := Claim7.holds Tryd.pinned (.plain (OpenSpec.upto diagBackSpec)) diagBackUptoCard

/-- THE SECOND FORM's CARD OF 'lodgerlaw26.DiagOrder'. -/
def diagOrderUptoCard : Claim7 := { stood := { row := diagOrderUptoRow, standIns := [], harness := (true, "a7bebf9a0ed2280a856f9b17a72e71a0ed185be35e8fe28c10c7a8eb0fd3d898"), looks := false }, kinds := [], alts := [], laidByText := true, laidKinds := [.data], laidTests := true, laidLooks := .later }
def DiagOrderUptoCardSaid : Prop := Claim7.holds Tryd.pinned (.plain (OpenSpec.upto diagOrderSpec)) diagOrderUptoCard

/-- THE SECOND FORM's CARD OF 'lodgerlaw27.MsgReads'. -/
def msgReadsUptoCard : Claim7 := { stood := { row := msgReadsUptoRow, standIns := [], harness := (true, "a7bebf9a0ed2280a856f9b17a72e71a0ed185be35e8fe28c10c7a8eb0fd3d898"), looks := false }, kinds := [], alts := [], laidByText := true, laidKinds := [.data], laidTests := true, laidLooks := .later }
def MsgReadsUptoCardSaid : Prop := Claim7.holds Tryd.pinned (.plain (OpenSpec.upto msgReadsSpec)) msgReadsUptoCard

/-- THE SECOND FORM's CARD OF 'lodgerlaw27.MsgAnswers'. -/
def msgAnswersUptoCard : Claim7 := { stood := { row := msgAnswersUptoRow, standIns := [], harness := (true, "a7bebf9a0ed2280a856f9b17a72e71a0ed185be35e8fe28c10c7a8eb0fd3d898"), looks := false }, kinds := [], alts := [], laidByText := true, laidKinds := [.data], laidTests := true, laidLooks := .later }
def MsgAnswersUptoCardSaid : Prop := Claim7.holds Tryd.pinned (.plain (OpenSpec.upto msgAnswersSpec)) msgAnswersUptoCard

/-- THE SECOND FORM's CARD OF 'lodgerlaw27.MsgBack'. -/
def msgBackUptoCard : Claim7 := { stood := { row := msgBackUptoRow, standIns := [], harness := (true, "a7bebf9a0ed2280a856f9b17a72e71a0ed185be35e8fe28c10c7a8eb0fd3d898"), looks := false }, kinds := [], alts := [], laidByText := true, laidKinds := [.data], laidTests := true, laidLooks := .later }
def MsgBackUptoCardSaid : Prop := Claim7.holds Tryd.pinned (.plain (OpenSpec.upto msgBackSpec)) msgBackUptoCard

/-- THE SECOND FORM's CARD OF 'lodgerlaw27.MsgOnce'. -/
def msgOnceUptoCard : Claim7 := { stood := { row := msgOnceUptoRow, standIns := [], harness := (true, "a7bebf9a0ed2280a856f9b17a72e71a0ed185be35e8fe28c10c7a8eb0fd3d898"), looks := false }, kinds := [], alts := [], laidByText := true, laidKinds := [.data], laidTests := true, laidLooks := .later }
def MsgOnceUptoCardSaid : Prop := Claim7.holds Tryd.pinned (.plain (OpenSpec.upto msgOnceSpec)) msgOnceUptoCard
end Rows
end Go.Proofs.YtdbfpjgnlfejmaaDoor
