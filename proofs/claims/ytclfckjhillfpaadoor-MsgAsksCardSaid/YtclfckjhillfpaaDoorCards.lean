/-
  DERIVED. GIVEN WITH THE SEED: THE CARDS: each row of YtclfckjhillfpaaDoorRows.lean that lists a variable, with what it lists TIED to the program's text (the seventh form; the later family's looks); each row that meets fmt, with fmt's text TOLD by the authors' own Lean function (tested against real Go, not proved from fmt's source: count such statements apart). THE CARD IS WHAT COUNTS. Prove the row's statement (the work); the ties are given (YtclfckjhillfpaaDoorTie.lean); close each card by the builder's one call (the guide's Derived/Test/ToyasCard.lean, 'card_holds'). Laid BY PROGRAM, IN A SANDBOX (cutbox-door.mjs). By AI agents, Wed Nov 11 2026. No macro, syntax, notation, axiom, sorry.
-/
import Derived.Test.YtclfckjhillfpaaDoorRows
import GoSem.ClaimSeven
namespace Go.Proofs.YtclfckjhillfpaaDoor
namespace Rows

/-- THE TIED CARD OF 'lodgerlaw27.MsgAsks'. -/
def msgAsksCard : Claim7 := { stood := { row := msgAsksRow, standIns := [], harness := (true, "23b3eece8873933a6e8f1df20c5a1cdd58e74d1c24db7b805872de76aeade30f"), looks := false }, kinds := [], alts := [], laidByText := true, laidKinds := [.data], laidTests := true, laidLooks := .later }
def MsgAsksCardSaid : Prop := Claim7.holds Tryd.pinned (.plain (OpenSpec.ofChange msgAsksSpec)) msgAsksCard

/-- THE SECOND FORM's CARD OF 'lodgerlaw27.MsgAsks'. -/
def msgAsksUptoCard : Claim7 := { stood := { row := msgAsksUptoRow, standIns := [], harness := (true, "23b3eece8873933a6e8f1df20c5a1cdd58e74d1c24db7b805872de76aeade30f"), looks := false }, kinds := [], alts := [], laidByText := true, laidKinds := [.data], laidTests := true, laidLooks := .later }
def MsgAsksUptoCardSaid : Prop := Claim7.holds Tryd.pinned (.plain (OpenSpec.upto msgAsksSpec)) msgAsksUptoCard
end Rows
end Go.Proofs.YtclfckjhillfpaaDoor
