/- A part of the run of InferKnown: what the evaluator comes to, and that it does. Written by a program of ours. -/
import Derived.Test.YtcghkghnjfhieaaGreatDoorInferKnownM3
set_option maxRecDepth 100000
namespace Go.Proofs.YtcghkghnjfhieaaGreatDoor.inferKnown
open Ev
theorem c21 : slimKO [0, 4867, 4941, 4966, 4979, 5004, 5035, 5036, 5053, 5082, 5096, 5099, 5128, 5146, 5160, 5169, 5200, 5201, 5202, 5206, 5207, 5208, 5231, 5249, 5250, 5264, 5265, 5274, 5303, 5306, 5333] [0, 2] [[0, 2, 3, 4, 5, 7, 8, 9, 10, 11, 22, 23, 24, 25, 28, 29, 30, 31, 32, 33, 34, 35, 36, 37], [1, 2, 6, 8, 19], [0, 1, 2, 56, 57, 58, 59, 60, 61, 62, 63, 64, 65, 66, 67, 68, 69, 70, 73]] (Ev.runN Tryz.prog 27550 m20) = some m21 := by kernel_rfl
theorem p21 : plainM m21 = true := by kernel_rfl
theorem c22 : slimKO [0, 5385, 5386, 5387, 5388, 5389, 5390, 5392, 5396] [0, 2, 3, 4, 9, 10, 11, 12, 13] [[2, 3, 8], [1, 2, 6, 14], [0, 1, 2, 56, 57, 58, 59, 60, 61, 62, 63, 64, 65, 66, 67, 68, 69, 70, 73]] (Ev.runN Tryz.prog 21000 m21) = some m22 := by kernel_rfl
theorem p22 : plainM m22 = true := by kernel_rfl
theorem c23 : slimKO [0, 5385, 5474, 5499, 5512, 5537, 5562, 5579, 5580, 5597, 5622, 5653, 5654, 5671, 5685, 5688, 5717, 5735, 5749, 5758, 5789, 5790, 5791, 5795, 5796, 5797, 5820, 5838, 5852, 5853, 5866, 5897, 5898, 5933, 5936] [2, 5, 7] [[0, 1, 2, 6], [4, 5, 54, 58, 59], [0, 2, 3, 4, 5, 7, 8, 9, 10, 22, 23, 24, 25, 28, 29, 30, 31, 32], [1, 2, 6, 8, 19], [0, 1, 2, 56, 57, 58, 59, 60, 61, 62, 63, 64, 65, 66, 67, 68, 69, 70, 73]] (Ev.runN Tryz.prog 30350 m22) = some m23 := by kernel_rfl
theorem p23 : plainM m23 = true := by kernel_rfl
theorem c24 : slimKO [0, 6050, 6051, 6052, 6053, 6054, 6055, 6056] [0, 1, 5, 6, 7] [[0, 2, 3, 6], [2, 3, 8], [1, 2, 6, 14], [0, 1, 2, 56, 57, 58, 59, 60, 61, 62, 63, 64, 65, 66, 67, 68, 69, 70, 73]] (Ev.runN Tryz.prog 21850 m23) = some m24 := by kernel_rfl
theorem p24 : plainM m24 = true := by kernel_rfl
theorem c25 : slimKO [0, 6321, 6322, 6323, 6324, 6325, 6326] [0, 2, 3, 36] [[0, 1], [0, 2, 3, 6], [2, 3, 8], [1, 2, 6, 14], [0, 1, 2, 56, 57, 58, 59, 60, 61, 62, 63, 64, 65, 66, 67, 68, 69, 70, 73]] (Ev.runN Tryz.prog 21950 m24) = some m25 := by kernel_rfl
theorem p25 : plainM m25 = true := by kernel_rfl
end Go.Proofs.YtcghkghnjfhieaaGreatDoor.inferKnown
