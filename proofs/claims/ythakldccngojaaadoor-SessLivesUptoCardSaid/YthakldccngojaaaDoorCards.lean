/-
  DERIVED. GIVEN WITH THE SEED: THE CARDS: each row of YthakldccngojaaaDoorRows.lean that lists a variable, with what it lists TIED to the program's text (the seventh form; the later family's looks); each row that meets fmt, with fmt's text TOLD by the authors' own Lean function (tested against real Go, not proved from fmt's source: count such statements apart). THE CARD IS WHAT COUNTS. Prove the row's statement (the work); the ties are given (YthakldccngojaaaDoorTie.lean); close each card by the builder's one call (the guide's Derived/Test/ToyasCard.lean, 'card_holds'). Laid BY PROGRAM, IN A SANDBOX (cutbox-door.mjs). By AI agents, Wed Nov 11 2026. No macro, syntax, notation, axiom, sorry.
-/
import Derived.Test.YthakldccngojaaaDoorRows
import GoSem.ClaimSeven
namespace Go.Proofs.YthakldccngojaaaDoor
namespace Rows

/-- THE TIED CARD OF 'lodgerlaw08.SessLives'. -/
def sessLivesCard : Claim7 := { stood := { row := sessLivesRow, standIns := [], harness := (true, "7ac9616456832989c98e70abb23790411b4db91766a6622886fd5e4daf5c5193"), looks := false }, kinds := [], alts := [], laidByText := true, laidKinds := [.data], laidTests := true, laidLooks := .later }
def SessLivesCardSaid : Prop := Claim7.holds Tryd.pinned (.plain (OpenSpec.ofChange sessLivesSpec)) sessLivesCard

/-- THE SECOND FORM's CARD OF 'lodgerlaw08.SessLives'. -/
def sessLivesUptoCard : Claim7 := { stood := { row := sessLivesUptoRow, standIns := [], harness := (true, "7ac9616456832989c98e70abb23790411b4db91766a6622886fd5e4daf5c5193"), looks := false }, kinds := [], alts := [], laidByText := true, laidKinds := [.data], laidTests := true, laidLooks := .later }
def SessLivesUptoCardSaid : Prop := Claim7.holds Tryd.pinned (.plain (OpenSpec.upto sessLivesSpec)) sessLivesUptoCard
end Rows
end Go.Proofs.YthakldccngojaaaDoor
