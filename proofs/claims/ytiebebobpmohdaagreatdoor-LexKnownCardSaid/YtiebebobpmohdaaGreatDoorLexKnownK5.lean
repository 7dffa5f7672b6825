/- A part of the run of LexKnown: what the evaluator comes to, and that it does. Written by a program of ours. -/
import Derived.Test.YtiebebobpmohdaaGreatDoorLexKnownM1
set_option maxRecDepth 100000
namespace Go.Proofs.YtiebebobpmohdaaGreatDoor.lexKnown
open Ev
theorem c5 : slimO [8, 42, 73, 74, 83, 106, 431, 437, 444, 445, 446] [] [[], [], []] (Ev.runN Tryz.prog 60000 m4) = some m5 := by kernel_rfl
theorem p5 : plainM m5 = true := by kernel_rfl
end Go.Proofs.YtiebebobpmohdaaGreatDoor.lexKnown
