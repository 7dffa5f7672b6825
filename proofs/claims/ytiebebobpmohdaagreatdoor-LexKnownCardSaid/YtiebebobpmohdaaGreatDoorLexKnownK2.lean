/- A part of the run of LexKnown: what the evaluator comes to, and that it does. Written by a program of ours. -/
import Derived.Test.YtiebebobpmohdaaGreatDoorLexKnownM1
set_option maxRecDepth 100000
namespace Go.Proofs.YtiebebobpmohdaaGreatDoor.lexKnown
open Ev
theorem c2 : slimO [8, 42, 73, 74, 83, 106, 176, 188, 195, 196, 197, 198] [] [[], [], []] (Ev.runN Tryz.prog 60000 m1) = some m2 := by kernel_rfl
theorem p2 : plainM m2 = true := by kernel_rfl
end Go.Proofs.YtiebebobpmohdaaGreatDoor.lexKnown
