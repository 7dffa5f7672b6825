/- A part of the run of ParseKnown: what the evaluator comes to, and that it does. Written by a program of ours. -/
import Derived.Test.YtofghnpcbbbceaaGreatDoorParseKnownM2
set_option maxRecDepth 100000
namespace Go.Proofs.YtofghnpcbbbceaaGreatDoor.parseKnown
open Ev
theorem c11 : slimKO [1561, 1562, 1939, 1946, 1947, 1956] [0] [[2, 3, 15], [0, 5, 6, 7, 8, 9, 63, 64, 65, 66, 67, 68, 69, 70, 71, 72, 73, 74, 75, 76, 77, 78, 79, 80, 81, 82, 83, 84, 85, 86, 87, 88, 89]] (Ev.runN Tryz.prog 27900 m10) = some m11 := by kernel_rfl
theorem p11 : plainM m11 = true := by kernel_rfl
theorem c12 : slimKO [1561, 1562, 2070] [0, 5, 6, 7, 8, 9, 63, 64, 65, 66, 67, 68, 69, 70, 71, 72, 73, 74, 75, 76, 77, 78, 79, 80, 81, 82, 83, 84, 85, 86, 87, 88, 89] [] (Ev.runN Tryz.prog 25750 m11) = some m12 := by kernel_rfl
theorem p12 : plainM m12 = true := by kernel_rfl
theorem c13 : slimKO [1561, 1562, 2170, 2177, 2178, 2179, 2180, 2181, 2183] [0, 2, 3, 4] [[2, 3, 8], [0, 5, 6, 7, 8, 9, 63, 64, 65, 66, 67, 68, 69, 70, 71, 72, 73, 74, 75, 76, 77, 78, 79, 80, 81, 82, 83, 84, 85, 86, 87, 88, 89]] (Ev.runN Tryz.prog 27850 m12) = some m13 := by kernel_rfl
theorem p13 : plainM m13 = true := by kernel_rfl
theorem c14 : slimKO [1561, 1562, 2257, 2339] [0, 5, 6, 7, 8, 9, 63, 64, 65, 66, 67, 68, 69, 70, 71, 72, 73, 74, 75, 76, 77, 78, 79, 80, 81, 82, 83, 84, 85, 86, 87, 88, 89] [] (Ev.runN Tryz.prog 22250 m13) = some m14 := by kernel_rfl
theorem p14 : plainM m14 = true := by kernel_rfl
theorem c15 : slimKO [1561, 1562, 2424, 2431, 2432, 2433, 2434, 2435, 2437] [0, 2, 3, 4] [[2, 3, 8], [0, 5, 6, 7, 8, 9, 63, 64, 65, 66, 67, 68, 69, 70, 71, 72, 73, 74, 75, 76, 77, 78, 79, 80, 81, 82, 83, 84, 85, 86, 87, 88, 89]] (Ev.runN Tryz.prog 25650 m14) = some m15 := by kernel_rfl
theorem p15 : plainM m15 = true := by kernel_rfl
end Go.Proofs.YtofghnpcbbbceaaGreatDoor.parseKnown
