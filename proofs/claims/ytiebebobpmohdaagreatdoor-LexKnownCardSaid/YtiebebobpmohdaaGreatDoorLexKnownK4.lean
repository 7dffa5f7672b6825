/- A part of the run of LexKnown: what the evaluator comes to, and that it does. Written by a program of ours. -/
import Derived.Test.YtiebebobpmohdaaGreatDoorLexKnownM1
set_option maxRecDepth 100000
namespace Go.Proofs.YtiebebobpmohdaaGreatDoor.lexKnown
open Ev
theorem c4 : slimO [8, 42, 73, 74, 83, 106, 355, 365, 372, 373, 374, 375] [] [[], [], []] (Ev.runN Tryz.prog 60000 m3) = some m4 := by kernel_rfl
theorem p4 : plainM m4 = true := by kernel_rfl
end Go.Proofs.YtiebebobpmohdaaGreatDoor.lexKnown
