/- A part of the run of InferKnown: what the evaluator comes to, and that it does. Written by a program of ours. -/
import Derived.Test.YtcghkghnjfhieaaGreatDoorInferKnownM3
set_option maxRecDepth 100000
namespace Go.Proofs.YtcghkghnjfhieaaGreatDoor.inferKnown
open Ev
theorem c36 : slimKO [0, 8851, 8852, 8853, 8854, 8855, 8856, 8857] [0, 1, 5, 6, 7, 8] [[0, 2, 3, 6], [2, 3, 8], [1, 2, 6, 14], [0, 1, 2, 56, 57, 58, 59, 60, 61, 62, 63, 64, 65, 66, 67, 68, 69, 70, 73]] (Ev.runN Tryz.prog 25000 m35) = some m36 := by kernel_rfl
theorem p36 : plainM m36 = true := by kernel_rfl
theorem c37 : slimKO [0, 9030, 9031, 9032, 9041, 9068] [0, 1] [[2, 3, 15], [1, 2, 6, 14], [0, 1, 2, 56, 57, 58, 59, 60, 61, 62, 63, 64, 65, 66, 67, 68, 69, 70, 73]] (Ev.runN Tryz.prog 26850 m36) = some m37 := by kernel_rfl
theorem p37 : plainM m37 = true := by kernel_rfl
theorem c38 : slimKO [0, 9275, 9276, 9277, 9286, 9313] [0, 2] [[2, 3, 15], [1, 2, 6, 14], [0, 1, 2, 56, 57, 58, 59, 60, 61, 62, 63, 64, 65, 66, 67, 68, 69, 70, 73]] (Ev.runN Tryz.prog 25100 m37) = some m38 := by kernel_rfl
theorem p38 : plainM m38 = true := by kernel_rfl
theorem c39 : slimKO [0, 9552, 9553, 9554, 9563] [2, 3, 4] [[1, 2, 6, 14], [0, 1, 2, 56, 57, 58, 59, 60, 61, 62, 63, 64, 65, 66, 67, 68, 69, 70, 73]] (Ev.runN Tryz.prog 26500 m38) = some m39 := by kernel_rfl
theorem p39 : plainM m39 = true := by kernel_rfl
theorem c40 : slimKO [0, 9850, 9851, 9852, 9853, 9854, 9855, 9857, 9861] [0, 2, 3, 4, 9, 10, 11, 12, 13] [[2, 3, 8], [1, 2, 6, 14], [0, 1, 2, 56, 57, 58, 59, 60, 61, 62, 63, 64, 65, 66, 67, 68, 69, 70, 73]] (Ev.runN Tryz.prog 22850 m39) = some m40 := by kernel_rfl
theorem p40 : plainM m40 = true := by kernel_rfl
end Go.Proofs.YtcghkghnjfhieaaGreatDoor.inferKnown
