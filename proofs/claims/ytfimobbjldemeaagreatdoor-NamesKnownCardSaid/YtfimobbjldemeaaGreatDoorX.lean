/- The calls of which all is known, for the evaluator. -/
import Derived.Test.YtfimobbjldemeaaGreatDoorKeys
namespace Go.Proofs.YtfimobbjldemeaaGreatDoor
open Go Ev

noncomputable instance knownX : XT Tryz.prog := ⟨fun f => bif Nat.beq f 17 then some (sortedF 42 9) else (none)⟩

instance knownOk : XTOk Tryz.prog := ⟨fun f F e => by
  change (bif Nat.beq f 17 then some (sortedF 42 9) else (none)) = some F at e
  cases h17 : Nat.beq f 17 with
  | true =>
    rw [h17] at e
    cases e
    obtain rfl := Nat.eq_of_beq_eq_true h17
    exact keysKnown.known
  | false =>
    rw [h17] at e
    cases e⟩
end Go.Proofs.YtfimobbjldemeaaGreatDoor
