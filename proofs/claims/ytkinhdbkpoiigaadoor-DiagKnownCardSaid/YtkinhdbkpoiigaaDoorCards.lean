/-
  DERIVED. GIVEN WITH THE SEED: THE CARDS: each row of YtkinhdbkpoiigaaDoorRows.lean that lists a variable, with what it lists TIED to the program's text (the seventh form; the later family's looks); each row that meets fmt, with fmt's text TOLD by the authors' own Lean function (tested against real Go, not proved from fmt's source: count such statements apart). THE CARD IS WHAT COUNTS. Prove the row's statement (the work); the ties are given (YtkinhdbkpoiigaaDoorTie.lean); close each card by the builder's one call (the guide's Derived/Test/ToyasCard.lean, 'card_holds'). Laid BY PROGRAM, IN A SANDBOX (cutbox-door.mjs). By AI agents, Wed Nov 11 2026. No macro, syntax, notation, axiom, sorry.
-/
import Derived.Test.YtkinhdbkpoiigaaDoorRows
import GoSem.ClaimSeven
namespace Go.Proofs.YtkinhdbkpoiigaaDoor
namespace Rows

/-- THE TIED CARD OF 'lodgerlaw26.DiagSorts'. -/
def diagSortsCard : Claim7 := { stood := { row := diagSortsRow, standIns := [], harness := (true, "1f0c9bccb75f9da93d103cae139352b79c2e03dfce783c7f80549e62245a2e71"), looks := false }, kinds := [], alts := [], laidByText := true, laidKinds := [.data], laidTests := true, laidLooks := .later }
def DiagSortsCardSaid : Prop := Claim7.holds Tryd.pinned (.plain (OpenSpec.ofChange diagSortsSpec)) diagSortsCard

/-- THE TIED CARD OF 'lodgerlaw26.DiagReads'. -/
def diagReadsCard : Claim7 := { stood := { row := diagReadsRow, standIns := [], harness := (true, "1f0c9bccb75f9da93d103cae139352b79c2e03dfce783c7f80549e62245a2e71"), looks := false }, kinds := [], alts := [], laidByText := true, laidKinds := [.data], laidTests := true, laidLooks := .later }
def DiagReadsCardSaid : Prop := Claim7.holds Tryd.pinned (.plain (OpenSpec.ofChange diagReadsSpec)) diagReadsCard

/-- THE TIED CARD OF 'lodgerlaw26.DiagBack'. -/
def diagBackCard : Claim7 := { stood := { row := diagBackRow, standIns := [], harness := (true, "1f0c9bccb75f9da93d103cae139352b79c2e03dfce783c7f80549e62245a2e71"), looks := false }, kinds := [], alts := [], laidByText := true, laidKinds := [.data], laidTests := true, laidLooks := .later }
def DiagBackCardSaid : Prop := Claim7.holds Tryd.pinned (.plain (OpenSpec.ofChange diagBackSpec)) diagBackCard

/-- THE TIED CARD OF 'lodgerlaw26.DiagOrder'. -/
def diagOrderCard : Claim7 := { stood := { row := diagOrderRow, standIns := [], harness := (true, "1f0c9bccb75f9da93d103cae139352b79c2e03dfce783c7f80549e62245a2e71"), looks := false }, kinds := [], alts := [], laidByText := true, laidKinds := [.data], laidTests := true, laidLooks := .later }
def DiagOrderCardSaid : Prop := Claim7.holds Tryd.pinned (.plain (OpenSpec.ofChange diagOrderSpec)) diagOrderCard

/-- THE TIED CARD OF 'lodgerlaw26.DiagKnown'. -/
def diagKnownCard : Claim7 := { stood := { row := diagKnownRow, standIns := [], harness := (true, "1f0c9bccb75f9da93d103cae139352b79c2e03dfce783c7f80549e62245a2e71"), looks := false }, kinds := [], alts := [], laidByText := true, laidKinds := [.data], laidTests := true, laidLooks := .later }
def DiagKnownCardSaid : Prop := Claim7.holds Tryd.pinned (.plain (OpenSpec.ofChange diagKnownSpec)) diagKnownCard

/-- THE SECOND FORM's CARD OF 'lodgerlaw26.DiagSorts'. -/
def diagSortsUptoCard : Claim7 := { stood := { row := diagSortsUptoRow, standIns := [], harness := (true, "1f0c9bccb75f9da93d103cae139352b79c2e03dfce783c7f80549e62245a2e71"), looks := false }, kinds := [], alts := [], laidByText := true, laidKinds := [.data], laidTests := true, laidLooks := .later }
def DiagSortsUptoCardSaid : Prop := Claim7.holds Tryd.pinned (.plain (OpenSpec.upto diagSortsSpec)) diagSortsUptoCard

/-- THE SECOND FORM's CARD OF 'lodgerlaw26.DiagReads'. -/
def diagReadsUptoCard : Claim7 := { stood := { row := diagReadsUptoRow, standIns := [], harness := (true, "1f0c9bccb75f9da93d103cae139352b79c2e03dfce783c7f80549e62245a2e71"), looks := false }, kinds := [], alts := [], laidByText := true, laidKinds := [.data], laidTests := true, laidLooks := .later }
def DiagReadsUptoCardSaid : Prop := Claim7.holds Tryd.pinned (.plain (OpenSpec.upto diagReadsSpec)) diagReadsUptoCard

/-- THE SECOND FORM's CARD OF 'lodgerlaw26.DiagBack'. -/
def diagBackUptoCard : Claim7 := { stood := { row := diagBackUptoRow, standIns := [], harness := (true, "1f0c9bccb75f9da93d103cae139352b79c2e03dfce783c7f80549e62245a2e71"), looks := false }, kinds := [], alts := [], laidByText := true, laidKinds := [.data], laidTests := true, laidLooks := .later }
def DiagBackUptoCardSaid : Prop := Claim7.holds Tryd.pinned (.plain (OpenSpec.upto diagBackSpec)) diagBackUptoCard

/-- THE SECOND FORM's CARD OF 'lodgerlaw26.DiagOrder'. -/
def diagOrderUptoCard : Claim7 := { stood := { row := diagOrderUptoRow, standIns := [], harness := (true, "1f0c9bccb75f9da93d103cae139352b79c2e03dfce783c7f80549e62245a2e71"), looks := false }, kinds := [], alts := [], laidByText := true, laidKinds := [.data], laidTests := true, laidLooks := .later }
def DiagOrderUptoCardSaid : Prop := Claim7.holds Tryd.pinned (.plain (OpenSpec.upto diagOrderSpec)) diagOrderUptoCard

/-- THE SECOND FORM's CARD OF 'lodgerlaw26.DiagKnown'. -/
def diagKnownUptoCard : Claim7 := { stood := { row := diagKnownUptoRow, standIns := [], harness := (true, "1f0c9bccb75f9da93d103cae139352b79c2e03dfce783c7f80549e62245a2e71"), looks := false }, kinds := [], alts := [], laidByText := true, laidKinds := [.data], laidTests := true, laidLooks := .later }
def DiagKnownUptoCardSaid : Prop := Claim7.holds Tryd.pinned (.plain (OpenSpec.upto diagKnownSpec)) diagKnownUptoCard
end Rows
end Go.Proofs.YtkinhdbkpoiigaaDoor
