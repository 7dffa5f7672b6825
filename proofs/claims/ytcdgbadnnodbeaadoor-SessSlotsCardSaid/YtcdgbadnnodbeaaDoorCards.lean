/-
  DERIVED. GIVEN WITH THE SEED: THE CARDS: each row of YtcdgbadnnodbeaaDoorRows.lean that lists a variable, with what it lists TIED to the program's text (the seventh form; the later family's looks); each row that meets fmt, with fmt's text TOLD by the authors' own Lean function (tested against real Go, not proved from fmt's source: count such statements apart). THE CARD IS WHAT COUNTS. Prove the row's statement (the work); the ties are given (YtcdgbadnnodbeaaDoorTie.lean); close each card by the builder's one call (the guide's Derived/Test/ToyasCard.lean, 'card_holds'). Laid BY PROGRAM, IN A SANDBOX (cutbox-door.mjs). By AI agents, Wed Nov 11 2026. No macro, syntax, notation, axiom, sorry.
-/
import Derived.Test.YtcdgbadnnodbeaaDoorRows
import GoSem.ClaimSeven
namespace Go.Proofs.YtcdgbadnnodbeaaDoor
namespace Rows

/-- THE TIED CARD OF 'lodgerlaw08.SessSlots'. -/
def sessSlotsCard : Claim7 := { stood := { row := sessSlotsRow, standIns := [], harness := (true, "070a8e57a6e1180f2dba34394126f78a97f976bf2086f235d38b043f4f74f5e4"), looks := false }, kinds := [], alts := [], laidByText := true, laidKinds := [.data], laidTests := true, laidLooks := .later }
def SessSlotsCardSaid : Prop := Claim7.holds Tryd.pinned (.plain (OpenSpec.ofChange sessSlotsSpec)) sessSlotsCard

/-- THE SECOND FORM's CARD OF 'lodgerlaw08.SessSlots'. -/
def sessSlotsUptoCard : Claim7 := { stood := { row := sessSlotsUptoRow, standIns := [], harness := (true, "070a8e57a6e1180f2dba34394126f78a97f976bf2086f235d38b043f4f74f5e4"), looks := false }, kinds := [], alts := [], laidByText := true, laidKinds := [.data], laidTests := true, laidLooks := .later }
def SessSlotsUptoCardSaid : Prop := Claim7.holds Tryd.pinned (.plain (OpenSpec.upto sessSlotsSpec)) sessSlotsUptoCard
end Rows
end Go.Proofs.YtcdgbadnnodbeaaDoor
