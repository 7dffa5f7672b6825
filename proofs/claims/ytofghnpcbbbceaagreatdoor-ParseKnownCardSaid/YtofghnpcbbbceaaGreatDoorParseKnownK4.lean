/- A part of the run of ParseKnown: what the evaluator comes to, and that it does. Written by a program of ours. -/
import Derived.Test.YtofghnpcbbbceaaGreatDoorParseKnownM2
set_option maxRecDepth 100000
namespace Go.Proofs.YtofghnpcbbbceaaGreatDoor.parseKnown
open Ev
theorem c16 : slimKO [1561, 1562, 2643] [0, 5, 6, 7, 8, 9, 63, 64, 65, 66, 67, 68, 69, 70, 71, 72, 73, 74, 75, 76, 77, 78, 79, 80, 81, 82, 83, 84, 85, 86, 87, 88, 89] [] (Ev.runN Tryz.prog 24200 m15) = some m16 := by kernel_rfl
theorem p16 : plainM m16 = true := by kernel_rfl
theorem c17 : slimKO [1561, 1562, 2692, 2699, 2700, 2709, 2730] [0, 1] [[2, 3, 15], [0, 5, 6, 7, 8, 9, 63, 64, 65, 66, 67, 68, 69, 70, 71, 72, 73, 74, 75, 76, 77, 78, 79, 80, 81, 82, 83, 84, 85, 86, 87, 88, 89]] (Ev.runN Tryz.prog 27500 m16) = some m17 := by kernel_rfl
theorem p17 : plainM m17 = true := by kernel_rfl
theorem c18 : slimKO [1561, 1562, 2884, 2891, 2892, 2893, 2894, 2895] [0, 2, 3, 5] [[0, 1], [0, 2, 3, 6], [2, 3, 8], [0, 5, 6, 7, 8, 9, 63, 64, 65, 66, 67, 68, 69, 70, 71, 72, 73, 74, 75, 76, 77, 78, 79, 80, 81, 82, 83, 84, 85, 86, 87, 88, 89]] (Ev.runN Tryz.prog 22750 m17) = some m18 := by kernel_rfl
theorem p18 : plainM m18 = true := by kernel_rfl
theorem c19 : slimKO [1561, 1562, 2963, 3030] [0, 5, 6, 7, 8, 9, 63, 64, 65, 66, 67, 68, 69, 70, 71, 72, 73, 74, 75, 76, 77, 78, 79, 80, 81, 82, 83, 84, 85, 86, 87, 88, 89] [] (Ev.runN Tryz.prog 23800 m18) = some m19 := by kernel_rfl
theorem p19 : plainM m19 = true := by kernel_rfl
theorem c20 : slimKO [1561, 1562, 3113, 3120, 3121, 3130] [2, 3, 4] [[0, 5, 6, 7, 8, 9, 63, 64, 65, 66, 67, 68, 69, 70, 71, 72, 73, 74, 75, 76, 77, 78, 79, 80, 81, 82, 83, 84, 85, 86, 87, 88, 89]] (Ev.runN Tryz.prog 27800 m19) = some m20 := by kernel_rfl
theorem p20 : plainM m20 = true := by kernel_rfl
end Go.Proofs.YtofghnpcbbbceaaGreatDoor.parseKnown
