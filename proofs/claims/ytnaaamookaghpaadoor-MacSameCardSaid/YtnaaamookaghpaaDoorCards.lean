/-
  DERIVED. GIVEN WITH THE SEED: THE CARDS: each row of YtnaaamookaghpaaDoorRows.lean that lists a variable, with what it lists TIED to the program's text (the seventh form; the later family's looks); each row that meets fmt, with fmt's text TOLD by the authors' own Lean function (tested against real Go, not proved from fmt's source: count such statements apart). THE CARD IS WHAT COUNTS. Prove the row's statement (the work); the ties are given (YtnaaamookaghpaaDoorTie.lean); close each card by the builder's one call (the guide's Derived/Test/ToyasCard.lean, 'card_holds'). Laid BY PROGRAM, IN A SANDBOX (cutbox-door.mjs). By AI agents, Wed Nov 11 2026. No macro, syntax, notation, axiom, sorry.
-/
import Derived.Test.YtnaaamookaghpaaDoorRows
import GoSem.ClaimSeven
namespace Go.Proofs.YtnaaamookaghpaaDoor
namespace Rows

/-- THE TIED CARD OF 'lodgerlaw04.MacKnown'. -/
def macKnownCard : Claim7 := { stood := { row := macKnownRow, standIns := [], harness := (true, "5d89914b2ed5fc6222e9a3dc5e25551b21b0f73c040a7b92013a8d3f66a95e12"), looks := false }, kinds := [], alts := [], laidByText := true, laidKinds := [.data], laidTests := true, laidLooks := .later }
def MacKnownCardSaid : Prop := Claim7.holds Tryd.pinned (.plain (OpenSpec.ofChange macKnownSpec)) macKnownCard

/-- THE TIED CARD OF 'lodgerlaw08.SessKnown'. -/
def sessKnownCard : Claim7 := { stood := { row := sessKnownRow, standIns := [], harness := (true, "5d89914b2ed5fc6222e9a3dc5e25551b21b0f73c040a7b92013a8d3f66a95e12"), looks := false }, kinds := [], alts := [], laidByText := true, laidKinds := [.data], laidTests := true, laidLooks := .later }
def SessKnownCardSaid : Prop := Claim7.holds Tryd.pinned (.plain (OpenSpec.ofChange sessKnownSpec)) sessKnownCard

/-- THE TIED CARD OF 'lodgerlaw04.MacSame'. -/
def macSameCard : Claim7 := { stood := { row := macSameRow, standIns := [], harness := (true, "5d89914b2ed5fc6222e9a3dc5e25551b21b0f73c040a7b92013a8d3f66a95e12"), looks := false }, kinds := [], alts := [], laidByText := true, laidKinds := [.data], laidTests := true, laidLooks := .later }
def MacSameCardSaid : Prop := Claim7.holds Tryd.pinned (.plain (OpenSpec.ofChange macSameSpec)) macSameCard

/-- THE SECOND FORM's CARD OF 'lodgerlaw04.MacKnown'. -/
def macKnownUptoCard : Claim7 := { stood := { row := macKnownUptoRow, standIns := [], harness := (true, "5d89914b2ed5fc6222e9a3dc5e25551b21b0f73c040a7b92013a8d3f66a95e12"), looks := false }, kinds := [], alts := [], laidByText := true, laidKinds := [.data], laidTests := true, laidLooks := .later }
def MacKnownUptoCardSaid : Prop := Claim7.holds Tryd.pinned (.plain (OpenSpec.upto macKnownSpec)) macKnownUptoCard

/-- THE SECOND FORM's CARD OF 'lodgerlaw08.SessKnown'. -/
def sessKnownUptoCard : Claim7 := { stood := { row := sessKnownUptoRow, standIns := [], harness := (true, "5d89914b2ed5fc6222e9a3dc5e25551b21b0f73c040a7b92013a8d3f66a95e12"), looks := false }, kinds := [], alts := [], laidByText := true, laidKinds := [.data], laidTests := true, laidLooks := .later }
def SessKnownUptoCardSaid : Prop := Claim7.holds Tryd.pinned (.plain (OpenSpec.upto sessKnownSpec)) sessKnownUptoCard

/-- THE SECOND FORM's CARD OF 'lodgerlaw04.MacSame'. -/
def macSameUptoCard : Claim7 := { stood := { row := macSameUptoRow, standIns := [], harness := (true, "5d89914b2ed5fc6222e9a3dc5e25551b21b0f73c040a7b92013a8d3f66a95e12"), looks := false }, kinds := [], alts := [], laidByText := true, laidKinds := [.data], laidTests := true, laidLooks := .later }
def MacSameUptoCardSaid : Prop := Claim7.holds Tryd.pinned (.plain (OpenSpec.upto macSameSpec)) macSameUptoCard
end Rows
end Go.Proofs.YtnaaamookaghpaaDoor
