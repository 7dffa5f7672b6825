/- A part of the run of LexKnown: what the evaluator comes to, and that it does. Written by a program of ours. -/
import Derived.Test.YtiebebobpmohdaaGreatDoorLexKnownM1
set_option maxRecDepth 100000
namespace Go.Proofs.YtiebebobpmohdaaGreatDoor.lexKnown
open Ev
theorem c9 : slimO [8, 42, 73, 74, 83, 106, 431, 437, 444, 497, 505, 506] [] [[], [], []] (Ev.runN Tryz.prog 60000 m8) = some m9 := by kernel_rfl
theorem p9 : plainM m9 = true := by kernel_rfl
end Go.Proofs.YtiebebobpmohdaaGreatDoor.lexKnown
