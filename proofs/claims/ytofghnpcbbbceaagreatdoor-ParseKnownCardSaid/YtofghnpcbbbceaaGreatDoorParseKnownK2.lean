/- A part of the run of ParseKnown: what the evaluator comes to, and that it does. Written by a program of ours. -/
import Derived.Test.YtofghnpcbbbceaaGreatDoorParseKnownM2
set_option maxRecDepth 100000
namespace Go.Proofs.YtofghnpcbbbceaaGreatDoor.parseKnown
open Ev
theorem c6 : slimKO [0, 1049, 1085, 1086, 1087, 1088, 1089, 1090] [0, 1, 5, 6, 7, 8] [[0, 2, 3, 6], [2, 3, 8], [2, 3, 9], [0, 1, 2, 3, 4, 34, 35, 36, 37, 38, 39, 40, 41, 42, 43, 44, 45, 46, 47, 48, 49, 50, 51, 52, 53, 54, 55, 56, 57, 58, 59, 60]] (Ev.runN Tryz.prog 25500 m5) = some m6 := by kernel_rfl
theorem p6 : plainM m6 = true := by kernel_rfl
theorem c7 : slimKO [0, 1280, 1298, 1303] [0, 1, 2, 3, 4, 34, 35, 36, 37, 38, 39, 40, 41, 42, 43, 44, 45, 46, 47, 48, 49, 50, 51, 52, 53, 54, 55, 56, 57, 58, 59, 60] [] (Ev.runN Tryz.prog 25000 m6) = some m7 := by kernel_rfl
theorem p7 : plainM m7 = true := by kernel_rfl
theorem c8 : slimKO [1561] [0, 61] [] (Ev.runN Tryz.prog 25650 m7) = some m8 := by kernel_rfl
theorem p8 : plainM m8 = true := by kernel_rfl
theorem c9 : slimKO [1561, 1562, 1694, 1701, 1702] [0, 2, 3] [[0, 5, 6, 7, 8, 9, 63, 64, 65, 66, 67, 68, 69, 70, 71, 72, 73, 74, 75, 76, 77, 78, 79, 80, 81, 82, 83, 84, 85, 86, 87, 88, 89]] (Ev.runN Tryz.prog 27900 m8) = some m9 := by kernel_rfl
theorem p9 : plainM m9 = true := by kernel_rfl
theorem c10 : slimKO [1561, 1562, 1847] [0, 5, 6, 7, 8, 9, 63, 64, 65, 66, 67, 68, 69, 70, 71, 72, 73, 74, 75, 76, 77, 78, 79, 80, 81, 82, 83, 84, 85, 86, 87, 88, 89] [] (Ev.runN Tryz.prog 27950 m9) = some m10 := by kernel_rfl
theorem p10 : plainM m10 = true := by kernel_rfl
end Go.Proofs.YtofghnpcbbbceaaGreatDoor.parseKnown
