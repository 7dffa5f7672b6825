/- A part of the run of PrintKnown: what the evaluator comes to, and that it does. Written by a program of ours. -/
import Derived.Test.YtaeeepmjghgflaaGreatDoorPrintKnownM3
set_option maxRecDepth 100000
namespace Go.Proofs.YtaeeepmjghgflaaGreatDoor.printKnown
open Ev
theorem c19 : slimDO [0, 3470, 3562, 3594, 3619, 3661, 3694, 3695, 3712, 3715, 3760, 3771, 3809, 3823, 3832, 3850, 3864, 3877, 3899, 3910, 3925, 3926, 3927, 3929, 4031, 4032, 4033, 4034, 4035, 4036] [0, 1, 3, 5, 6, 7, 8, 9, 10, 11, 12] [[0, 2, 3, 6], [2, 3, 8], [0, 2, 3, 4, 29], [1, 4, 6, 15], [0, 1, 2, 31, 32, 33, 34, 35, 36, 37, 38, 39, 40, 41, 42, 43, 46]] (Ev.runN Tryz.prog 27500 m18) = some m19 := by kernel_rfl
theorem p19 : heldM m19 = true := by kernel_rfl
theorem c20 : slimDO [0, 3470, 3562, 3594, 3619, 3661, 3694, 3695, 3712, 3715, 3760, 3771, 3809, 3823, 3832, 3850, 3864, 3877, 3899, 3910, 3925, 3926, 3927, 3929, 4031, 4032, 4118, 4150, 4175, 4217, 4250, 4251, 4268, 4271, 4300, 4311, 4329, 4343, 4352, 4370, 4384, 4397, 4419, 4430] [2, 3] [[0, 2, 3, 4, 29], [1, 4, 6, 15], [0, 1, 2, 31, 32, 33, 34, 35, 36, 37, 38, 39, 40, 41, 42, 43, 46]] (Ev.runN Tryz.prog 26750 m19) = some m20 := by kernel_rfl
theorem p20 : heldM m20 = true := by kernel_rfl
theorem c21 : slimDO [0, 4445, 4446, 4447, 4456, 4510] [0, 1] [[2, 3, 15], [1, 4, 10], [0, 1, 2, 31, 32, 33, 34, 35, 36, 37, 38, 39, 40, 41, 42, 43, 46]] (Ev.runN Tryz.prog 25300 m20) = some m21 := by kernel_rfl
theorem p21 : heldM m21 = true := by kernel_rfl
theorem c22 : slimDO [0, 4445, 4514, 4555, 4579, 4608, 4658, 4669, 4698, 4727, 4752, 4762, 4764, 4765, 4766, 4768, 4823, 4824, 4825, 4826, 4827, 4828] [0, 1, 5, 6, 7, 8, 9] [[0, 2, 3, 6], [2, 3, 8], [0, 2, 3, 4, 29], [1, 4, 6, 15], [0, 1, 2, 31, 32, 33, 34, 35, 36, 37, 38, 39, 40, 41, 42, 43, 46]] (Ev.runN Tryz.prog 22350 m21) = some m22 := by kernel_rfl
theorem p22 : heldM m22 = true := by kernel_rfl
theorem c23 : slimDO [0, 4445, 5141] [0, 1, 2, 31, 32, 33, 34, 35, 36, 37, 38, 39, 40, 41, 42, 43, 46] [] (Ev.runN Tryz.prog 23850 m22) = some m23 := by kernel_rfl
theorem p23 : heldM m23 = true := by kernel_rfl
theorem c24 : slimDO [0, 5141, 5142, 5143, 5206, 5231, 5246, 5266, 5307, 5331, 5360, 5394] [2, 3] [[1, 4, 10], [0, 1, 2, 31, 32, 33, 34, 35, 36, 37, 38, 39, 40, 41, 42, 43, 46]] (Ev.runN Tryz.prog 26250 m23) = some m24 := by kernel_rfl
theorem p24 : heldM m24 = true := by kernel_rfl
end Go.Proofs.YtaeeepmjghgflaaGreatDoor.printKnown
