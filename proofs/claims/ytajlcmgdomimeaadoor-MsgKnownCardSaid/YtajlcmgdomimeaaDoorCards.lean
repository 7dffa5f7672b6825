/-
  DERIVED. GIVEN WITH THE SEED: THE CARDS: each row of YtajlcmgdomimeaaDoorRows.lean that lists a variable, with what it lists TIED to the program's text (the seventh form; the later family's looks); each row that meets fmt, with fmt's text TOLD by the authors' own Lean function (tested against real Go, not proved from fmt's source: count such statements apart). THE CARD IS WHAT COUNTS. Prove the row's statement (the work); the ties are given (YtajlcmgdomimeaaDoorTie.lean); close each card by the builder's one call (the guide's Derived/Test/ToyasCard.lean, 'card_holds'). Laid BY PROGRAM, IN A SANDBOX (cutbox-door.mjs). By AI agents, Wed Nov 11 2026. No macro, syntax, notation, axiom, sorry.
-/
import Derived.Test.YtajlcmgdomimeaaDoorRows
import GoSem.ClaimSeven
namespace Go.Proofs.YtajlcmgdomimeaaDoor
namespace Rows

/-- THE TIED CARD OF 'lodgerlaw27.MsgAsks'. -/
def msgAsksCard : Claim7 := { stood := { row := msgAsksRow, standIns := [], harness := (true, "ee3abc4dde728694211ca2e4be3537806c184b590c587b1650cfd93f5753903c"), looks := false }, kinds := [], alts := [], laidByText := true, laidKinds := [.data], laidTests := true, laidLooks := .later }
def MsgAsksCardSaid : Prop := Claim7.holds Tryd.pinned (.plain (OpenSpec.ofChange msgAsksSpec)) msgAsksCard

/-- THE TIED CARD OF 'lodgerlaw27.MsgReads'. -/
def msgReadsCard : Claim7 := { stood := { row := msgReadsRow, standIns := [], harness := (true, "ee3abc4dde728694211ca2e4be3537806c184b590c587b1650cfd93f5753903c"), looks := false }, kinds := [], alts := [], laidByText := true, laidKinds := [.data], laidTests := true, laidLooks := .later }
def MsgReadsCardSaid : Prop := Claim7.holds Tryd.pinned (.plain (OpenSpec.ofChange msgReadsSpec)) msgReadsCard

/-- THE TIED CARD OF 'lodgerlaw27.MsgAnswers'. -/
def msgAnswersCard : Claim7 := { stood := { row := msgAnswersRow, standIns := [], harness := (true, "ee3abc4dde728694211ca2e4be3537806c184b590c587b1650cfd93f5753903c"), looks := false }, kinds := [], alts := [], laidByText := true, laidKinds := [.data], laidTests := true, laidLooks := .later }
def MsgAnswersCardSaid : Prop := Claim7.holds Tryd.pinned (.plain (OpenSpec.ofChange msgAnswersSpec)) msgAnswersCard

/-- THE TIED CARD OF 'lodgerlaw27.MsgBack'. -/
def msgBackCard : Claim7 := { stood := { row := msgBackRow, standIns := [], harness := (true, "ee3abc4dde728694211ca2e4be3537806c184b590c587b1650cfd93f5753903c"), looks := false }, kinds := [], alts := [], laidByText := true, laidKinds := [.data], laidTests := true, laidLooks := .later }
def MsgBackCardSaid : Prop := Claim7.holds Tryd.pinned (.plain (OpenSpec.ofChange msgBackSpec)) msgBackCard

/-- THE TIED CARD OF 'lodgerlaw27.MsgOnce'. -/
def msgOnceCard : Claim7 := { stood := { row := msgOnceRow, standIns := [], harness := (true, "ee3abc4dde728694211ca2e4be3537806c184b590c587b1650cfd93f5753903c"), looks := false }, kinds := [], alts := [], laidByText := true, laidKinds := [.data], laidTests := true, laidLooks := .later }
def MsgOnceCardSaid : Prop := Claim7.holds Tryd.pinned (.plain (OpenSpec.ofChange msgOnceSpec)) msgOnceCard

/-- THE TIED CARD OF 'lodgerlaw27.MsgKnown'. -/
def msgKnownCard : Claim7 := { stood := { row := msgKnownRow, standIns := [], harness := (true, "ee3abc4dde728694211ca2e4be3537806c184b590c587b1650cfd93f5753903c"), looks := false }, kinds := [], alts := [], laidByText := true, laidKinds := [.data], laidTests := true, laidLooks := .later }
def MsgKnownCardSaid : Prop := Claim7.holds Tryd.pinned (.plain (OpenSpec.ofChange msgKnownSpec)) msgKnownCard

/-- THE SECOND FORM's CARD OF 'lodgerlaw27.MsgAsks'. -/
def msgAsksUptoCard : Claim7 := { stood := { row := msgAsksUptoRow, standIns := [], harness := (true, "ee3abc4dde728694211ca2e4be3537806c184b590c587b1650cfd93f5753903c"), looks := false }, kinds := [], alts := [], laidByText := true, laidKinds := [.data], laidTests := true, laidLooks := .later }
def MsgAsksUptoCardSaid : Prop := Claim7.holds Tryd.pinned (.plain (OpenSpec.upto msgAsksSpec)) msgAsksUptoCard

/-- THE SECOND FORM's CARD OF 'lodgerlaw27.MsgReads'. -/
def msgReadsUptoCard : Claim7 := { stood := { row := msgReadsUptoRow, standIns := [], harness := (true, "ee3abc4dde728694211ca2e4be3537806c184b590c587b1650cfd93f5753903c"), looks := false }, kinds := [], alts := [], laidByText := true, laidKinds := [.data], laidTests := true, laidLooks := .later }
def MsgReadsUptoCardSaid : Prop := Claim7.holds Tryd.pinned (.plain (OpenSpec.upto msgReadsSpec)) msgReadsUptoCard

/-- THE SECOND FORM's CARD OF 'lodgerlaw27.MsgAnswers'. -/
def msgAnswersUptoCard : Claim7 := { stood := { row := msgAnswersUptoRow, standIns := [], harness := (true, "ee3abc4dde728694211ca2e4be3537806c184b590c587b1650cfd93f5753903c"), looks := false }, kinds := [], alts := [], laidByText := true, laidKinds := [.data], laidTests := true, laidLooks := .later }
def MsgAnswersUptoCardSaid : Prop := Claim7.holds Tryd.pinned (.plain (OpenSpec.upto msgAnswersSpec)) msgAnswersUptoCard

/-- THE SECOND FORM's CARD OF 'lodgerlaw27.MsgBack'. -/
def msgBackUptoCard : Claim7 := { stood := { row := msgBackUptoRow, standIns := [], harness := (true, "ee3abc4dde728694211ca2e4be3537806c184b590c587b1650cfd93f5753903c"), looks := false }, kinds := [], alts := [], laidByText := true, laidKinds := [.data], laidTests := true, laidLooks := .later }
def MsgBackUptoCardSaid : Prop := Claim7.holds Tryd.pinned (.plain (OpenSpec.upto msgBackSpec)) msgBackUptoCard

/-- THE SECOND FORM's CARD OF 'lodgerlaw27.MsgOnce'. -/
def msgOnceUptoCard : Claim7 := { stood := { row := msgOnceUptoRow, standIns := [], harness := (true, "ee3abc4dde728694211ca2e4be3537806c184b590c587b1650cfd93f5753903c"), looks := false }, kinds := [], alts := [], laidByText := true, laidKinds := [.data], laidTests := true, laidLooks := .later }
def MsgOnceUptoCardSaid : Prop := Claim7.holds Tryd.pinned (.plain (OpenSpec.upto msgOnceSpec)) msgOnceUptoCard

/-- THE SECOND FORM's CARD OF 'lodgerlaw27.MsgKnown'. -/
def msgKnownUptoCard : Claim7 := { stood := { row := msgKnownUptoRow, standIns := [], harness := (true, "ee3abc4dde728694211ca2e4be3537806c184b590c587b1650cfd93f5753903c"), looks := false }, kinds := [], alts := [], laidByText := true, laidKinds := [.data], laidTests := true, laidLooks := .later }
def MsgKnownUptoCardSaid : Prop := Claim7.holds Tryd.pinned (.plain (OpenSpec.upto msgKnownSpec)) msgKnownUptoCard
end Rows
end Go.Proofs.YtajlcmgdomimeaaDoor
