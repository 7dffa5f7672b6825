/- A part of the run of PrintKnown: what the evaluator comes to, and that it does. Written by a program of ours. -/
import Derived.Test.YtaeeepmjghgflaaGreatDoorPrintKnownM3
set_option maxRecDepth 100000
namespace Go.Proofs.YtaeeepmjghgflaaGreatDoor.printKnown
open Ev
theorem c7 : slimDO [0, 759, 848, 883, 911, 912, 926, 950, 978, 989, 1018, 1063, 1081, 1095, 1104, 1115, 1149, 1151, 1152, 1153, 1155, 1252, 1253, 1254, 1255, 1256, 1257] [0, 1, 3, 5, 6, 7, 8, 9, 10, 11, 12, 13] [[0, 2, 3, 6], [2, 3, 8], [0, 2, 3, 4, 29], [1, 4, 6, 15], [0, 1, 2, 31, 32, 33, 34, 35, 36, 37, 38, 39, 40, 41, 42, 43, 46]] (Ev.runN Tryz.prog 22800 m6) = some m7 := by kernel_rfl
theorem p7 : heldM m7 = true := by kernel_rfl
theorem c8 : slimDO [0, 1603] [0, 1, 2, 31, 32, 33, 34, 35, 36, 37, 38, 39, 40, 41, 42, 43, 46] [] (Ev.runN Tryz.prog 27300 m7) = some m8 := by kernel_rfl
theorem p8 : heldM m8 = true := by kernel_rfl
theorem c9 : slimDO [0, 1603, 1656, 1687, 1715, 1743, 1752, 1754, 1757, 1765, 1768, 1770, 1772] [0, 2, 3, 9] [[1, 4, 6, 15], [0, 1, 2, 31, 32, 33, 34, 35, 36, 37, 38, 39, 40, 41, 42, 43, 46]] (Ev.runN Tryz.prog 21400 m8) = some m9 := by kernel_rfl
theorem p9 : heldM m9 = true := by kernel_rfl
theorem c10 : slimDO [0, 1603] [4, 25, 26, 27] [[0, 1, 2, 31, 32, 33, 34, 35, 36, 37, 38, 39, 40, 41, 42, 43, 46]] (Ev.runN Tryz.prog 26050 m9) = some m10 := by kernel_rfl
theorem p10 : heldM m10 = true := by kernel_rfl
theorem c11 : slimDO [0, 1976, 2037, 2061, 2077, 2093, 2098, 2108, 2141, 2153, 2157, 2160, 2180, 2183, 2185] [0] [[1, 4, 6, 15], [0, 1, 2, 31, 32, 33, 34, 35, 36, 37, 38, 39, 40, 41, 42, 43, 46]] (Ev.runN Tryz.prog 24100 m10) = some m11 := by kernel_rfl
theorem p11 : heldM m11 = true := by kernel_rfl
theorem c12 : slimDO [0, 1976, 2401] [0, 1, 2, 31, 32, 33, 34, 35, 36, 37, 38, 39, 40, 41, 42, 43, 46] [] (Ev.runN Tryz.prog 26400 m11) = some m12 := by kernel_rfl
theorem p12 : heldM m12 = true := by kernel_rfl
end Go.Proofs.YtaeeepmjghgflaaGreatDoor.printKnown
