/- A part of the run of PrintKnown: what the evaluator comes to, and that it does. Written by a program of ours. -/
import Derived.Test.YtaeeepmjghgflaaGreatDoorPrintKnownM3
set_option maxRecDepth 100000
namespace Go.Proofs.YtaeeepmjghgflaaGreatDoor.printKnown
open Ev
theorem c58 : slimDO [11252, 11297, 11315, 11320, 11352, 11355, 11367, 11369, 11370, 11371, 11373, 11403, 11404, 11405, 11406, 11407, 11408] [0, 1, 3, 5, 6, 7, 8, 9, 10, 11, 12, 13] [[0, 2, 3, 6], [2, 3, 8], [0, 2, 3, 4, 29], [1, 4, 6, 15], [0], [0, 209]] (Ev.runN Tryz.prog 22350 m57) = some m58 := by kernel_rfl
theorem p58 : heldM m58 = true := by kernel_rfl
end Go.Proofs.YtaeeepmjghgflaaGreatDoor.printKnown
