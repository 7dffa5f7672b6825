/- A part of the run of PrintKnown: what the evaluator comes to, and that it does. Written by a program of ours. -/
import Derived.Test.YtaeeepmjghgflaaGreatDoorPrintKnownM3
set_option maxRecDepth 100000
namespace Go.Proofs.YtaeeepmjghgflaaGreatDoor.printKnown
open Ev
theorem c13 : slimDO [0, 2401, 2402, 2403, 2456, 2483, 2506, 2531, 2556, 2567, 2607] [2, 3] [[1, 4, 10], [0, 1, 2, 31, 32, 33, 34, 35, 36, 37, 38, 39, 40, 41, 42, 43, 46]] (Ev.runN Tryz.prog 23300 m12) = some m13 := by kernel_rfl
theorem p13 : heldM m13 = true := by kernel_rfl
theorem c14 : slimDO [0, 2401] [0, 1, 2, 31, 32, 33, 34, 35, 36, 37, 38, 39, 40, 41, 42, 43, 46] [] (Ev.runN Tryz.prog 26450 m13) = some m14 := by kernel_rfl
theorem p14 : heldM m14 = true := by kernel_rfl
theorem c15 : slimDO [0, 2826, 2827, 2828, 2837, 2901] [0] [[2, 3, 15], [1, 4, 10], [0, 1, 2, 31, 32, 33, 34, 35, 36, 37, 38, 39, 40, 41, 42, 43, 46]] (Ev.runN Tryz.prog 22600 m14) = some m15 := by kernel_rfl
theorem p15 : heldM m15 = true := by kernel_rfl
theorem c16 : slimDO [0, 2826, 2905, 2928, 2931, 2954, 2979, 3002, 3013, 3073, 3099, 3110, 3129, 3136, 3137, 3138, 3154, 3201, 3202, 3203, 3204, 3205, 3206] [0, 1, 3, 5, 6, 7, 8, 9, 10, 11, 12] [[0, 2, 3, 6], [2, 3, 8], [0, 2, 3, 4, 29], [1, 4, 6, 15], [0, 1, 2, 31, 32, 33, 34, 35, 36, 37, 38, 39, 40, 41, 42, 43, 46]] (Ev.runN Tryz.prog 22150 m15) = some m16 := by kernel_rfl
theorem p16 : heldM m16 = true := by kernel_rfl
theorem c17 : slimDO [0, 3470] [0, 1] [[0, 1, 2, 31, 32, 33, 34, 35, 36, 37, 38, 39, 40, 41, 42, 43, 46]] (Ev.runN Tryz.prog 22200 m16) = some m17 := by kernel_rfl
theorem p17 : heldM m17 = true := by kernel_rfl
theorem c18 : slimDO [0, 3470, 3471, 3472, 3481, 3558, 3559] [2, 3, 5] [[1, 4, 10], [0, 1, 2, 31, 32, 33, 34, 35, 36, 37, 38, 39, 40, 41, 42, 43, 46]] (Ev.runN Tryz.prog 25400 m17) = some m18 := by kernel_rfl
theorem p18 : heldM m18 = true := by kernel_rfl
end Go.Proofs.YtaeeepmjghgflaaGreatDoor.printKnown
