/- A part of the run of InferKnown: what the evaluator comes to, and that it does. Written by a program of ours. -/
import Derived.Test.YtcghkghnjfhieaaGreatDoorInferKnownM3
set_option maxRecDepth 100000
namespace Go.Proofs.YtcghkghnjfhieaaGreatDoor.inferKnown
open Ev
theorem c6 : slimKO [0, 1269, 1270, 1271, 1280] [2, 3, 7] [[1, 2, 6, 14], [0, 1, 2, 56, 57, 58, 59, 60, 61, 62, 63, 64, 65, 66, 67, 68, 69, 70, 73]] (Ev.runN Tryz.prog 23550 m5) = some m6 := by kernel_rfl
theorem p6 : plainM m6 = true := by kernel_rfl
theorem c7 : slimKO [0, 1269] [6] [[0, 1, 2, 56, 57, 58, 59, 60, 61, 62, 63, 64, 65, 66, 67, 68, 69, 70, 73]] (Ev.runN Tryz.prog 20600 m6) = some m7 := by kernel_rfl
theorem p7 : plainM m7 = true := by kernel_rfl
theorem c8 : slimKO [0, 1773] [0, 1, 2, 56, 57, 58, 59, 60, 61, 62, 63, 64, 65, 66, 67, 68, 69, 70, 73] [] (Ev.runN Tryz.prog 20050 m7) = some m8 := by kernel_rfl
theorem p8 : plainM m8 = true := by kernel_rfl
theorem c9 : slimKO [0, 2084, 2085, 2086, 2087, 2088, 2089, 2090] [0, 2, 9, 10, 11] [[0, 1], [0, 2, 3, 6], [2, 3, 8], [1, 2, 6, 14], [0, 1, 2, 56, 57, 58, 59, 60, 61, 62, 63, 64, 65, 66, 67, 68, 69, 70, 73]] (Ev.runN Tryz.prog 25100 m8) = some m9 := by kernel_rfl
theorem p9 : plainM m9 = true := by kernel_rfl
theorem c10 : slimKO [0, 2317, 2318, 2319, 2328] [0] [[2, 3, 15], [1, 2, 6, 14], [0, 1, 2, 56, 57, 58, 59, 60, 61, 62, 63, 64, 65, 66, 67, 68, 69, 70, 73]] (Ev.runN Tryz.prog 27700 m9) = some m10 := by kernel_rfl
theorem p10 : plainM m10 = true := by kernel_rfl
end Go.Proofs.YtcghkghnjfhieaaGreatDoor.inferKnown
