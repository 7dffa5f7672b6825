/- A part of the run of InferKnown: what the evaluator comes to, and that it does. Written by a program of ours. -/
import Derived.Test.YtcghkghnjfhieaaGreatDoorRows
import Derived.Test.YtcghkghnjfhieaaGreatDoorEvY
import Derived.Test.YtcghkghnjfhieaaGreatDoorInferKnownG
import Derived.Test.YtcghkghnjfhieaaGreatDoorInferKnownM3
set_option maxRecDepth 100000
namespace Go.Proofs.YtcghkghnjfhieaaGreatDoor.inferKnown
open Ev
theorem c1 : slimKO [0, 1, 2, 3, 63, 95, 120, 159, 184, 185, 199, 217, 222, 232] [2, 3] [[1, 2, 6, 14], [0, 1, 2, 56, 57, 58, 59, 60, 61, 62, 63, 64, 65, 66, 67, 68]] (startN Tryz.prog glob 3 23900) = some m1 := by kernel_rfl
theorem p1 : plainM m1 = true := by kernel_rfl
theorem c2 : slimKO [0, 366, 367, 368, 377, 407] [0] [[2, 3, 15], [1, 2, 6, 14], [0, 1, 2, 56, 57, 58, 59, 60, 61, 62, 63, 64, 65, 66, 67, 68, 69, 70, 73]] (Ev.runN Tryz.prog 23950 m1) = some m2 := by kernel_rfl
theorem p2 : plainM m2 = true := by kernel_rfl
theorem c3 : slimKO [0, 667, 668, 669, 670, 671, 672, 674] [0, 2, 3, 4] [[2, 3, 8], [1, 2, 6, 14], [0, 1, 2, 56, 57, 58, 59, 60, 61, 62, 63, 64, 65, 66, 67, 68, 69, 70, 73]] (Ev.runN Tryz.prog 24500 m2) = some m3 := by kernel_rfl
theorem p3 : plainM m3 = true := by kernel_rfl
theorem c4 : slimKO [0, 921, 922, 923, 924, 925, 926, 928] [0, 2, 3, 4, 9, 10, 11, 12, 13] [[2, 3, 8], [1, 2, 6, 14], [0, 1, 2, 56, 57, 58, 59, 60, 61, 62, 63, 64, 65, 66, 67, 68, 69, 70, 73]] (Ev.runN Tryz.prog 25300 m3) = some m4 := by kernel_rfl
theorem p4 : plainM m4 = true := by kernel_rfl
theorem c5 : slimKO [0, 1269] [0, 1, 2, 56, 57, 58, 59, 60, 61, 62, 63, 64, 65, 66, 67, 68, 69, 70, 73] [] (Ev.runN Tryz.prog 20250 m4) = some m5 := by kernel_rfl
theorem p5 : plainM m5 = true := by kernel_rfl
end Go.Proofs.YtcghkghnjfhieaaGreatDoor.inferKnown
