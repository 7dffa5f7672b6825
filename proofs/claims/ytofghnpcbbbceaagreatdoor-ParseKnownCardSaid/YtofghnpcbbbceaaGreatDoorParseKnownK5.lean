/- A part of the run of ParseKnown: what the evaluator comes to, and that it does. Written by a program of ours. -/
import Derived.Test.YtofghnpcbbbceaaGreatDoorParseKnownM2
set_option maxRecDepth 100000
namespace Go.Proofs.YtofghnpcbbbceaaGreatDoor.parseKnown
open Ev
theorem c21 : slimKO [1561, 1562, 3260, 3267, 3268, 3269, 3270, 3271, 3272] [0, 1, 5, 6, 7] [[0, 2, 3, 6], [2, 3, 8], [0, 5, 6, 7, 8, 9, 63, 64, 65, 66, 67, 68, 69, 70, 71, 72, 73, 74, 75, 76, 77, 78, 79, 80, 81, 82, 83, 84, 85, 86, 87, 88, 89]] (Ev.runN Tryz.prog 25500 m20) = some m21 := by kernel_rfl
theorem p21 : plainM m21 = true := by kernel_rfl
theorem c22 : slimKO [1561, 1562, 3367, 3454] [0, 5, 6, 7, 8, 9, 63, 64, 65, 66, 67, 68, 69, 70, 71, 72, 73, 74, 75, 76, 77, 78, 79, 80, 81, 82, 83, 84, 85, 86, 87, 88, 89] [] (Ev.runN Tryz.prog 21950 m21) = some m22 := by kernel_rfl
theorem p22 : plainM m22 = true := by kernel_rfl
theorem c23 : slimKO [1561, 1562, 3522, 3529, 3530, 3539, 3552] [0, 2] [[2, 3, 15], [0, 5, 6, 7, 8, 9, 63, 64, 65, 66, 67, 68, 69, 70, 71, 72, 73, 74, 75, 76, 77, 78, 79, 80, 81, 82, 83, 84, 85, 86, 87, 88, 89]] (Ev.runN Tryz.prog 27000 m22) = some m23 := by kernel_rfl
theorem p23 : plainM m23 = true := by kernel_rfl
theorem c24 : slimKO [1561, 1562, 3641, 3648, 3649, 3650, 3651, 3652, 3653] [0, 1, 5, 6, 7, 8] [[0, 2, 3, 6], [2, 3, 8], [0, 5, 6, 7, 8, 9, 63, 64, 65, 66, 67, 68, 69, 70, 71, 72, 73, 74, 75, 76, 77, 78, 79, 80, 81, 82, 83, 84, 85, 86, 87, 88, 89]] (Ev.runN Tryz.prog 23450 m23) = some m24 := by kernel_rfl
theorem p24 : plainM m24 = true := by kernel_rfl
theorem c25 : slimKO [3755, 3756, 3757, 3758, 3759, 3761, 3765] [0, 2, 3, 4, 9, 10, 11, 12, 13] [[2, 3, 8], [0]] (Ev.runN Tryz.prog 20000 m24) = some m25 := by kernel_rfl
theorem p25 : plainM m25 = true := by kernel_rfl
end Go.Proofs.YtofghnpcbbbceaaGreatDoor.parseKnown
