/- A part of the run of LexKnown: what the evaluator comes to, and that it does. Written by a program of ours. -/
import Derived.Test.YtiebebobpmohdaaGreatDoorLexKnownM1
set_option maxRecDepth 100000
namespace Go.Proofs.YtiebebobpmohdaaGreatDoor.lexKnown
open Ev
theorem c3 : slimO [8, 42, 73, 74, 83, 106, 267, 274, 281, 282, 283, 284, 285] [] [[], [], []] (Ev.runN Tryz.prog 60000 m2) = some m3 := by kernel_rfl
theorem p3 : plainM m3 = true := by kernel_rfl
end Go.Proofs.YtiebebobpmohdaaGreatDoor.lexKnown
