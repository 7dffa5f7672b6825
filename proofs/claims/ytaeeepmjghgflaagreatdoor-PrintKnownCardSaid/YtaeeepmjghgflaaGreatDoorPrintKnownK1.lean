/- A part of the run of PrintKnown: what the evaluator comes to, and that it does. Written by a program of ours. -/
import Derived.Test.YtaeeepmjghgflaaGreatDoorRows
import Derived.Test.YtaeeepmjghgflaaGreatDoorEvY
import Derived.Test.YtaeeepmjghgflaaGreatDoorPrintKnownG
import Derived.Test.YtaeeepmjghgflaaGreatDoorPrintKnownM3
set_option maxRecDepth 100000
namespace Go.Proofs.YtaeeepmjghgflaaGreatDoor.printKnown
open Ev
theorem c1 : slimDO [0, 1] [0, 1, 2, 31, 32, 33, 34, 35, 36, 37, 38, 39, 40, 41, 42, 43] [] (startN Tryz.prog glob 3 20250) = some m1 := by kernel_rfl
theorem p1 : heldM m1 = true := by kernel_rfl
theorem c2 : slimDO [0, 31, 74, 103, 137, 153, 156, 179, 189, 191, 192, 193, 195] [0, 2] [[0, 2, 3, 4, 28], [1, 4, 6, 15], [0, 1, 2, 31, 32, 33, 34, 35, 36, 37, 38, 39, 40, 41, 42, 43, 46]] (Ev.runN Tryz.prog 22150 m1) = some m2 := by kernel_rfl
theorem p2 : heldM m2 = true := by kernel_rfl
theorem c3 : slimDO [0, 342, 343, 344, 345, 346, 347, 348] [0, 2, 9, 10, 11, 12, 42, 43] [[0, 1], [0, 2, 3, 6], [2, 3, 8], [1, 4, 10], [0, 1, 2, 31, 32, 33, 34, 35, 36, 37, 38, 39, 40, 41, 42, 43, 46]] (Ev.runN Tryz.prog 25200 m2) = some m3 := by kernel_rfl
theorem p3 : heldM m3 = true := by kernel_rfl
theorem c4 : slimDO [0, 342, 391, 420, 454, 472, 477, 498, 512, 517, 527, 529, 530, 531, 533, 573, 574, 575, 576, 577, 578] [0, 2, 9, 10, 11, 12, 42, 43, 44, 45] [[0, 1], [0, 2, 3, 6], [2, 3, 8], [0, 2, 3, 4, 29], [1, 4, 6, 15], [0, 1, 2, 31, 32, 33, 34, 35, 36, 37, 38, 39, 40, 41, 42, 43, 46]] (Ev.runN Tryz.prog 25000 m3) = some m4 := by kernel_rfl
theorem p4 : heldM m4 = true := by kernel_rfl
theorem c5 : slimDO [0, 759, 760, 761, 762, 763, 764] [0, 2, 3, 5] [[0, 1], [0, 2, 3, 6], [2, 3, 8], [1, 4, 10], [0, 1, 2, 31, 32, 33, 34, 35, 36, 37, 38, 39, 40, 41, 42, 43, 46]] (Ev.runN Tryz.prog 24900 m4) = some m5 := by kernel_rfl
theorem p5 : heldM m5 = true := by kernel_rfl
theorem c6 : slimDO [0, 759, 760, 761, 770, 844, 845, 848, 883, 911, 912] [0, 2, 3, 92, 95] [[], [1, 4, 10], [0, 1, 2, 31, 32, 33, 34, 35, 36, 37, 38, 39, 40, 41, 42, 43, 46]] (Ev.runN Tryz.prog 21250 m5) = some m6 := by kernel_rfl
theorem p6 : heldM m6 = true := by kernel_rfl
end Go.Proofs.YtaeeepmjghgflaaGreatDoor.printKnown
