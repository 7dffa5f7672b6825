/-
  DERIVED. GIVEN WITH THE SEED: THE CARDS: each row of YteimfcpgneafiaaGreatDoorRows.lean that lists a variable, with what it lists TIED to the program's text (the seventh form; the later family's looks); each row that meets fmt, with fmt's text TOLD by the authors' own Lean function (tested against real Go, not proved from fmt's source: count such statements apart). THE CARD IS WHAT COUNTS. Prove the row's statement (the work); the ties are given (YteimfcpgneafiaaGreatDoorTie.lean); close each card by the builder's one call (the guide's Derived/Test/ToyasCard.lean, 'card_holds'). Laid BY PROGRAM, IN A SANDBOX (cutbox-door.mjs). By AI agents, Wed Nov 11 2026. No macro, syntax, notation, axiom, sorry.
-/
import Derived.Test.YteimfcpgneafiaaGreatDoorRows
import GoSem.ClaimSeven
namespace Go.Proofs.YteimfcpgneafiaaGreatDoor
namespace Rows

/-- THE TIED CARD OF 'lodgerlaw15.MemoKnown'. -/
def memoKnownCard : Claim7 := { stood := { row := memoKnownRow, standIns := [], harness := (true, "99c46b53d89b2a12188e24f8bc0fad1401698bf1ec797c9b0031b935c610f0cd"), looks := false }, kinds := [], alts := [], laidByText := true, laidKinds := [.data, .data, .data], laidTests := true, laidLooks := .later }
def MemoKnownCardSaid : Prop := Claim7.holds Tryz.pinned (.plain (OpenSpec.ofChange memoKnownSpec)) memoKnownCard

/-- THE SECOND FORM's CARD OF 'lodgerlaw15.MemoKnown'. -/
def memoKnownUptoCard : Claim7 := { stood := { row := memoKnownUptoRow, standIns := [], harness := (true, "99c46b53d89b2a12188e24f8bc0fad1401698bf1ec797c9b0031b935c610f0cd"), looks := false }, kinds := [], alts := [], laidByText := true, laidKinds := [.data, .data, .data], laidTests := true, laidLooks := .later }
def MemoKnownUptoCardSaid : Prop := Claim7.holds Tryz.pinned (.plain (OpenSpec.upto memoKnownSpec)) memoKnownUptoCard
end Rows
end Go.Proofs.YteimfcpgneafiaaGreatDoor
