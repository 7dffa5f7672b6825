/- A part of the run of LexKnown: what the evaluator comes to, and that it does. Written by a program of ours. -/
import Derived.Test.YtiebebobpmohdaaGreatDoorRows
import Derived.Test.YtiebebobpmohdaaGreatDoorX
import Derived.Test.YtiebebobpmohdaaGreatDoorEvY
import Derived.Test.YtiebebobpmohdaaGreatDoorLexKnownG
import Derived.Test.YtiebebobpmohdaaGreatDoorLexKnownM1
set_option maxRecDepth 100000
namespace Go.Proofs.YtiebebobpmohdaaGreatDoor.lexKnown
open Ev
theorem c1 : slimO [8, 42, 73, 74, 83, 106, 107, 108, 109, 110] [] [[], [], []] (startN Tryz.prog glob 3 60000) = some m1 := by kernel_rfl
theorem p1 : plainM m1 = true := by kernel_rfl
end Go.Proofs.YtiebebobpmohdaaGreatDoor.lexKnown
