/- A part of the run of InferKnown: what the evaluator comes to, and that it does. Written by a program of ours. -/
import Derived.Test.YtcghkghnjfhieaaGreatDoorInferKnownM3
set_option maxRecDepth 100000
namespace Go.Proofs.YtcghkghnjfhieaaGreatDoor.inferKnown
open Ev
theorem c26 : slimKO [0, 6494, 6495, 6496, 6497, 6498, 6499, 6500] [0, 2, 9, 10, 11, 95] [[0, 1], [0, 2, 3, 6], [2, 3, 8], [1, 2, 6, 14], [0, 1, 2, 56, 57, 58, 59, 60, 61, 62, 63, 64, 65, 66, 67, 68, 69, 70, 73]] (Ev.runN Tryz.prog 23250 m25) = some m26 := by kernel_rfl
theorem p26 : plainM m26 = true := by kernel_rfl
theorem c27 : slimKO [0, 6666, 6667, 6668, 6677, 6699, 6700] [2, 3, 5] [[1, 2, 6, 14], [0, 1, 2, 56, 57, 58, 59, 60, 61, 62, 63, 64, 65, 66, 67, 68, 69, 70, 73]] (Ev.runN Tryz.prog 25100 m26) = some m27 := by kernel_rfl
theorem p27 : plainM m27 = true := by kernel_rfl
theorem c28 : slimKO [0, 6861] [0, 1, 2, 56, 57, 58, 59, 60, 61, 62, 63, 64, 65, 66, 67, 68, 69, 70, 73] [] (Ev.runN Tryz.prog 25550 m27) = some m28 := by kernel_rfl
theorem p28 : plainM m28 = true := by kernel_rfl
theorem c29 : slimKO [0, 7031, 7070, 7090, 7099, 7101, 7104, 7121, 7135, 7153, 7154, 7155, 7159, 7160, 7161, 7168, 7171, 7200, 7203, 7279] [4] [[0, 2, 3, 4, 5, 7, 8, 9, 10, 22, 23, 24, 25, 28, 29, 30, 31, 32], [1, 2, 6, 8, 19], [0, 1, 2, 56, 57, 58, 59, 60, 61, 62, 63, 64, 65, 66, 67, 68, 69, 70, 73]] (Ev.runN Tryz.prog 26800 m28) = some m29 := by kernel_rfl
theorem p29 : plainM m29 = true := by kernel_rfl
theorem c30 : slimKO [0, 7318] [0, 1, 2, 56, 57, 58, 59, 60, 61, 62, 63, 64, 65, 66, 67, 68, 69, 70, 73] [] (Ev.runN Tryz.prog 26150 m29) = some m30 := by kernel_rfl
theorem p30 : plainM m30 = true := by kernel_rfl
end Go.Proofs.YtcghkghnjfhieaaGreatDoor.inferKnown
