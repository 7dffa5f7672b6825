/- A part of the run of InferKnown: what the evaluator comes to, and that it does. Written by a program of ours. -/
import Derived.Test.YtcghkghnjfhieaaGreatDoorInferKnownM3
set_option maxRecDepth 100000
namespace Go.Proofs.YtcghkghnjfhieaaGreatDoor.inferKnown
open Ev
theorem c11 : slimKO [0, 2498, 2499, 2500, 2509, 2542, 2543] [2, 3, 5] [[1, 2, 6, 14], [0, 1, 2, 56, 57, 58, 59, 60, 61, 62, 63, 64, 65, 66, 67, 68, 69, 70, 73]] (Ev.runN Tryz.prog 22750 m10) = some m11 := by kernel_rfl
theorem p11 : plainM m11 = true := by kernel_rfl
theorem c12 : slimKO [0, 2770, 2771, 2772, 2773, 2774, 2775, 2777, 2781] [] [[0, 2, 3, 4, 9, 10, 11, 12, 13], [2, 3, 8], [1, 2, 6, 14], [0, 1, 2, 56, 57, 58, 59, 60, 61, 62, 63, 64, 65, 66, 67, 68, 69, 70, 73]] (Ev.runN Tryz.prog 20100 m11) = some m12 := by kernel_rfl
theorem p12 : plainM m12 = true := by kernel_rfl
theorem c13 : slimKO [0, 2770, 2771, 2772, 2862, 2887, 2900, 2925, 2950, 2967, 2968, 2985, 3010, 3041, 3042, 3059, 3073, 3076, 3105, 3123, 3137, 3146] [2, 3] [[1, 2, 6, 14], [0, 1, 2, 56, 57, 58, 59, 60, 61, 62, 63, 64, 65, 66, 67, 68, 69, 70, 73]] (Ev.runN Tryz.prog 23000 m12) = some m13 := by kernel_rfl
theorem p13 : plainM m13 = true := by kernel_rfl
theorem c14 : slimKO [0, 2770, 2862, 2887, 2900, 2925, 2950, 2967, 2968, 2985, 3010, 3041, 3042, 3059, 3073, 3076, 3105, 3123, 3137, 3146, 3177, 3178, 3179, 3183, 3184, 3185, 3208, 3226, 3240, 3241, 3254, 3272, 3273, 3287, 3288, 3323, 3326, 3353, 3430, 3433, 3460] [0, 2] [[0, 2, 3, 4, 5, 7, 8, 9, 10, 11, 22, 23, 24, 25, 26, 27, 28, 29, 30, 31, 32, 33, 34, 35, 36, 37, 38, 39], [1, 2, 6, 8, 19], [0, 1, 2, 56, 57, 58, 59, 60, 61, 62, 63, 64, 65, 66, 67, 68, 69, 70, 73]] (Ev.runN Tryz.prog 26400 m13) = some m14 := by kernel_rfl
theorem p14 : plainM m14 = true := by kernel_rfl
theorem c15 : slimKO [0, 3499, 3500, 3501, 3502, 3503, 3504, 3506, 3510] [0, 2, 3, 4, 9, 10, 11, 12, 13] [[2, 3, 8], [1, 2, 6, 14], [0, 1, 2, 56, 57, 58, 59, 60, 61, 62, 63, 64, 65, 66, 67, 68, 69, 70, 73]] (Ev.runN Tryz.prog 20800 m14) = some m15 := by kernel_rfl
theorem p15 : plainM m15 = true := by kernel_rfl
end Go.Proofs.YtcghkghnjfhieaaGreatDoor.inferKnown
