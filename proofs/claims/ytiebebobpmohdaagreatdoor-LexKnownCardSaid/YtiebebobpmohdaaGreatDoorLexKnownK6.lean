/- A part of the run of LexKnown: what the evaluator comes to, and that it does. Written by a program of ours. -/
import Derived.Test.YtiebebobpmohdaaGreatDoorLexKnownM1
set_option maxRecDepth 100000
namespace Go.Proofs.YtiebebobpmohdaaGreatDoor.lexKnown
open Ev
theorem c6 : slimO [8, 42, 73, 74, 83, 106, 431, 437, 444, 457, 458] [] [[], []] (Ev.runN Tryz.prog 60000 m5) = some m6 := by kernel_rfl
theorem p6 : plainM m6 = true := by kernel_rfl
end Go.Proofs.YtiebebobpmohdaaGreatDoor.lexKnown
