/- A part of the run of PrintKnown: what the evaluator comes to, and that it does. Written by a program of ours. -/
import Derived.Test.YtaeeepmjghgflaaGreatDoorPrintKnownM3
set_option maxRecDepth 100000
namespace Go.Proofs.YtaeeepmjghgflaaGreatDoor.printKnown
open Ev
theorem c37 : slimDO [0, 7979] [1, 4, 7, 25] [[0, 1, 2, 31, 32, 33, 34, 35, 36, 37, 38, 39, 40, 41, 42, 43, 46]] (Ev.runN Tryz.prog 21200 m36) = some m37 := by kernel_rfl
theorem p37 : heldM m37 = true := by kernel_rfl
theorem c38 : slimDO [0, 8278, 8341, 8366, 8388, 8416, 8438, 8466, 8486, 8487, 8503, 8504, 8512] [1, 4, 5, 6] [[0, 1, 2, 31, 32, 33, 34, 35, 36, 37, 38, 39, 40, 41, 42, 43, 46]] (Ev.runN Tryz.prog 24350 m37) = some m38 := by kernel_rfl
theorem p38 : heldM m38 = true := by kernel_rfl
theorem c39 : slimDO [0, 8278, 8341, 8366, 8388, 8416, 8438, 8466, 8486, 8487, 8503, 8504, 8512, 8514, 8515, 8516, 8518, 8624, 8649, 8671, 8699, 8721, 8749, 8769, 8770, 8786, 8787, 8795] [0, 1, 2, 6] [[4, 5, 6], [2, 3, 4, 35, 36, 37], [1, 4, 6, 15], [0, 1, 2, 31, 32, 33, 34, 35, 36, 37, 38, 39, 40, 41, 42, 43, 46]] (Ev.runN Tryz.prog 27700 m38) = some m39 := by kernel_rfl
theorem p39 : heldM m39 = true := by kernel_rfl
theorem c40 : slimDO [0, 8797, 8832, 8892, 8926, 8928, 8929, 8930, 8932, 8947] [0, 5, 6, 7, 8, 9, 10, 11, 12, 13, 14, 15] [[92, 93], [0, 2, 3, 4, 6, 15, 16, 17, 18, 19, 20, 21, 22], [1, 4, 6, 15], [0, 1, 2, 31, 32, 33, 34, 35, 36, 37, 38, 39, 40, 41, 42, 43, 46]] (Ev.runN Tryz.prog 20250 m39) = some m40 := by kernel_rfl
theorem p40 : heldM m40 = true := by kernel_rfl
theorem c41 : slimDO [9038, 9039, 9040, 9041, 9042, 9043, 9044, 9045, 9046, 9047, 9048, 9049, 9050, 9051, 9052, 9053, 9054, 9055, 9056, 9057, 9058, 9059, 9060, 9061, 9062, 9063, 9064, 9065, 9066, 9067, 9068, 9069, 9070, 9071, 9072, 9073, 9074, 9075, 9076, 9077, 9078, 9079, 9080, 9081, 9082, 9083, 9084, 9086, 9097, 9098, 9099, 9100, 9101, 9102] [0, 1, 5, 6, 7, 8, 9] [[0, 2, 3, 6], [2, 3, 8], [0, 2, 3, 4, 29], [0, 3, 4, 5, 6, 135, 136, 137, 138, 139, 140, 141, 143, 144, 145, 146, 147]] (Ev.runN Tryz.prog 26950 m40) = some m41 := by kernel_rfl
theorem p41 : heldM m41 = true := by kernel_rfl
theorem c42 : slimDO [9038, 9039, 9040, 9041, 9042, 9043, 9044, 9045, 9046, 9047, 9048, 9049, 9050, 9051, 9052, 9053, 9054, 9055, 9056, 9057, 9058, 9059, 9060, 9061, 9062, 9063, 9064, 9065, 9066, 9067, 9068, 9069, 9070, 9071, 9072, 9073, 9074, 9075, 9076, 9077, 9078, 9079, 9155, 9156, 9157, 9158, 9159, 9161, 9175, 9176, 9177, 9178, 9179, 9180] [0, 2, 9, 10, 11, 12] [[0, 1], [0, 2, 3, 6], [2, 3, 8], [0, 2, 3, 4, 29], [0, 3, 4, 5, 6, 7, 8, 135, 136, 137, 138, 139, 140, 141, 142, 143, 144, 145, 146, 147, 148, 149, 150, 151, 152, 153, 154, 155, 156, 159]] (Ev.runN Tryz.prog 24550 m41) = some m42 := by kernel_rfl
theorem p42 : heldM m42 = true := by kernel_rfl
end Go.Proofs.YtaeeepmjghgflaaGreatDoor.printKnown
