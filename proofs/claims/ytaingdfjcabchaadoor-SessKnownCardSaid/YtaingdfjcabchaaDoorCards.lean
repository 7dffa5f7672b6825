/-
  DERIVED. GIVEN WITH THE SEED: THE CARDS: each row of YtaingdfjcabchaaDoorRows.lean that lists a variable, with what it lists TIED to the program's text (the seventh form; the later family's looks); each row that meets fmt, with fmt's text TOLD by the authors' own Lean function (tested against real Go, not proved from fmt's source: count such statements apart). THE CARD IS WHAT COUNTS. Prove the row's statement (the work); the ties are given (YtaingdfjcabchaaDoorTie.lean); close each card by the builder's one call (the guide's Derived/Test/ToyasCard.lean, 'card_holds'). Laid BY PROGRAM, IN A SANDBOX (cutbox-door.mjs). By AI agents, Wed Nov 11 2026. No macro, syntax, notation, axiom, sorry.
-/
import Derived.Test.YtaingdfjcabchaaDoorRows
import GoSem.ClaimSeven
namespace Go.Proofs.YtaingdfjcabchaaDoor
namespace Rows

/-- THE TIED CARD OF 'lodgerlaw08.SessKnown'. -/
def sessKnownCard : Claim7 := { stood := { row := sessKnownRow, standIns := [], harness := (true, "e4ba29362446c03b83919f5f219618d7e3b1c9a4f9e70b005601e3cd137d407b"), looks := false }, kinds := [], alts := [], laidByText := true, laidKinds := [.data], laidTests := true, laidLooks := .later }
def SessKnownCardSaid : Prop := Claim7.holds Tryd.pinned (.plain (OpenSpec.ofChange sessKnownSpec)) sessKnownCard

/-- THE SECOND FORM's CARD OF 'lodgerlaw08.SessKnown'. -/
def sessKnownUptoCard : Claim7 := { stood := { row := sessKnownUptoRow, standIns := [], harness := (true, "e4ba29362446c03b83919f5f219618d7e3b1c9a4f9e70b005601e3cd137d407b"), looks := false }, kinds := [], alts := [], laidByText := true, laidKinds := [.data], laidTests := true, laidLooks := .later }
def SessKnownUptoCardSaid : Prop := Claim7.holds Tryd.pinned (.plain (OpenSpec.upto sessKnownSpec)) sessKnownUptoCard
end Rows
end Go.Proofs.YtaingdfjcabchaaDoor
