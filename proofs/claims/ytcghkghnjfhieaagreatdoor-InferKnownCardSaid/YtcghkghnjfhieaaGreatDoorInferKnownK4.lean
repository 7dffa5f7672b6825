/- A part of the run of InferKnown: what the evaluator comes to, and that it does. Written by a program of ours. -/
import Derived.Test.YtcghkghnjfhieaaGreatDoorInferKnownM3
set_option maxRecDepth 100000
namespace Go.Proofs.YtcghkghnjfhieaaGreatDoor.inferKnown
open Ev
theorem c16 : slimKO [0, 3499, 3500, 3501, 3595, 3620, 3633, 3658, 3683, 3700, 3701, 3718, 3743, 3768, 3785, 3786, 3803, 3817, 3820, 3849, 3867, 3881, 3890] [5] [[2, 3], [1, 2, 6, 14], [0, 1, 2, 56, 57, 58, 59, 60, 61, 62, 63, 64, 65, 66, 67, 68, 69, 70, 73]] (Ev.runN Tryz.prog 20050 m15) = some m16 := by kernel_rfl
theorem p16 : plainM m16 = true := by kernel_rfl
theorem c17 : slimKO [0, 3499, 4204] [0, 1, 2, 56, 57, 58, 59, 60, 61, 62, 63, 64, 65, 66, 67, 68, 69, 70, 73] [] (Ev.runN Tryz.prog 25850 m16) = some m17 := by kernel_rfl
theorem p17 : plainM m17 = true := by kernel_rfl
theorem c18 : slimKO [0, 4204, 4205, 4206, 4215, 4291] [2, 3, 15, 16] [[1, 2, 6, 14], [0, 1, 2, 56, 57, 58, 59, 60, 61, 62, 63, 64, 65, 66, 67, 68, 69, 70, 73]] (Ev.runN Tryz.prog 25300 m17) = some m18 := by kernel_rfl
theorem p18 : plainM m18 = true := by kernel_rfl
theorem c19 : slimKO [0, 4204, 4295, 4320, 4333, 4358, 4389, 4390, 4407, 4432, 4474, 4475, 4495, 4509, 4512, 4541, 4559, 4573, 4582, 4613, 4614, 4615, 4619, 4620, 4621, 4644, 4662, 4663, 4677, 4678, 4691, 4704, 4728, 4729, 4749, 4750, 4785, 4788, 4815] [0, 2, 3, 4, 5, 7, 8, 9, 10, 11, 22, 23, 24, 25, 28, 29, 30, 31, 32, 33, 34, 35, 36] [[1, 2, 6, 8, 19], [0, 1, 2, 56, 57, 58, 59, 60, 61, 62, 63, 64, 65, 66, 67, 68, 69, 70, 73]] (Ev.runN Tryz.prog 28000 m18) = some m19 := by kernel_rfl
theorem p19 : plainM m19 = true := by kernel_rfl
theorem c20 : slimKO [0, 4867, 4868, 4869, 4870, 4871, 4872, 4874, 4878] [] [[0, 2, 3, 4, 9, 10, 11, 12, 13], [2, 3, 8], [1, 2, 6, 14], [0, 1, 2, 56, 57, 58, 59, 60, 61, 62, 63, 64, 65, 66, 67, 68, 69, 70, 73]] (Ev.runN Tryz.prog 20000 m19) = some m20 := by kernel_rfl
theorem p20 : plainM m20 = true := by kernel_rfl
end Go.Proofs.YtcghkghnjfhieaaGreatDoor.inferKnown
