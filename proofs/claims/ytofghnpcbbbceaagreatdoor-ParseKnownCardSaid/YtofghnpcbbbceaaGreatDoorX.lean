/- The calls of which all is known, for the evaluator: errors.As. -/
import Derived.Test.YtofghnpcbbbceaaGreatDoorAs
namespace Go.Proofs.YtofghnpcbbbceaaGreatDoor
open Go Ev

noncomputable instance knownX : XT Tryz.prog := ⟨fun f => bif Nat.beq f 16 then some asKnown.asF else none⟩

instance knownOk : XTOk Tryz.prog := ⟨fun f F e => by
  change (bif Nat.beq f 16 then some asKnown.asF else none) = some F at e
  cases hb : Nat.beq f 16 with
  | false => rw [hb] at e; cases e
  | true =>
    rw [hb] at e
    cases e
    obtain rfl := Nat.eq_of_beq_eq_true hb
    exact asKnown.as_ok⟩
end Go.Proofs.YtofghnpcbbbceaaGreatDoor
