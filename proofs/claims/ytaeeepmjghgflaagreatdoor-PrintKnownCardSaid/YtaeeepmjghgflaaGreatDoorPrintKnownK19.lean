/- A part of the run of PrintKnown: what the evaluator comes to, and that it does. Written by a program of ours. -/
import Derived.Test.YtaeeepmjghgflaaGreatDoorPrintKnownM3
set_option maxRecDepth 100000
namespace Go.Proofs.YtaeeepmjghgflaaGreatDoor.printKnown
open Ev
theorem c55 : slimDO [9038, 9039, 9040, 9041, 9042, 9043, 9044, 9045, 9046, 9047, 9048, 9049, 9050, 9051, 9052, 9053, 9054, 9055, 9056, 9057, 9058, 9059, 9060, 9061, 9062, 9063, 9064, 9065, 9066, 9067, 9068, 9069, 9070, 9071, 9072, 9073, 9074, 9075, 9076, 9077, 9078, 9079, 10799, 10800, 10801, 10802, 10803, 10805, 10821, 10822, 10831, 10860] [0, 1] [[2, 3, 15], [0, 2, 3, 4, 29], [0, 3, 4, 5, 6, 7, 8, 135, 136, 137, 138, 139, 140, 141, 142, 143, 144, 145, 146, 147, 148, 149, 150, 151, 152, 153, 154, 155, 156, 159]] (Ev.runN Tryz.prog 27450 m54) = some m55 := by kernel_rfl
theorem p55 : heldM m55 = true := by kernel_rfl
theorem c56 : slimDO [9038, 11115, 11116] [0, 2, 3] [[0, 3, 4, 164]] (Ev.runN Tryz.prog 24750 m55) = some m56 := by kernel_rfl
theorem p56 : heldM m56 = true := by kernel_rfl
theorem c57 : slimDO [11210, 11211, 11212, 11213, 11214, 11215] [0, 1, 5, 6, 7, 8] [[0, 2, 3, 6], [2, 3, 8], [1, 4, 10], [0], [0, 209]] (Ev.runN Tryz.prog 25750 m56) = some m57 := by kernel_rfl
theorem p57 : heldM m57 = true := by kernel_rfl
end Go.Proofs.YtaeeepmjghgflaaGreatDoor.printKnown
