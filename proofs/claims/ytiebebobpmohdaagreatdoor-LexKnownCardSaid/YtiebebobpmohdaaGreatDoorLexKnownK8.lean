/- A part of the run of LexKnown: what the evaluator comes to, and that it does. Written by a program of ours. -/
import Derived.Test.YtiebebobpmohdaaGreatDoorLexKnownM1
set_option maxRecDepth 100000
namespace Go.Proofs.YtiebebobpmohdaaGreatDoor.lexKnown
open Ev
theorem c8 : slimO [8, 42, 73, 74, 83, 106, 431, 437, 444, 483] [] [[], [], []] (Ev.runN Tryz.prog 60000 m7) = some m8 := by kernel_rfl
theorem p8 : plainM m8 = true := by kernel_rfl
end Go.Proofs.YtiebebobpmohdaaGreatDoor.lexKnown
