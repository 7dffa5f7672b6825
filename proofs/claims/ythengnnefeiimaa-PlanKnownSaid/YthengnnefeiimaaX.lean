/- The calls of which all is known, for the evaluator. -/
import Derived.Test.YthengnnefeiimaaIns
namespace Go.Proofs.Ythengnnefeiimaa
open Go Ev

noncomputable instance knownX : XT Try.prog := ⟨fun f => bif Nat.beq f 27 then some (insertF 9) else (none)⟩

instance knownOk : XTOk Try.prog := ⟨fun f F e => by
  change (bif Nat.beq f 27 then some (insertF 9) else (none)) = some F at e
  cases h27 : Nat.beq f 27 with
  | true =>
    rw [h27] at e
    cases e
    obtain rfl := Nat.eq_of_beq_eq_true h27
    exact insKnown.known
  | false =>
    rw [h27] at e
    cases e⟩
end Go.Proofs.Ythengnnefeiimaa
