/- A part of the run of InferKnown: what the evaluator comes to, and that it does. Written by a program of ours. -/
import Derived.Test.YtcghkghnjfhieaaGreatDoorInferKnownM3
set_option maxRecDepth 100000
namespace Go.Proofs.YtcghkghnjfhieaaGreatDoor.inferKnown
open Ev
theorem c46 : slimKO [0, 11257, 11258, 11259, 11260, 11261, 11262, 11264] [0, 2, 3, 4] [[2, 3, 8], [1, 2, 6, 14], [0, 1, 2, 56, 57, 58, 59, 60, 61, 62, 63, 64, 65, 66, 67, 68, 69, 70, 73]] (Ev.runN Tryz.prog 24200 m45) = some m46 := by kernel_rfl
theorem p46 : plainM m46 = true := by kernel_rfl
theorem c47 : slimKO [0, 11475, 11476, 11477, 11486] [] [[2, 3, 15], [1, 2, 6, 14], [0, 1, 2, 56, 57, 58, 59, 60, 61, 62, 63, 64, 65, 66, 67, 68, 69, 70, 73]] (Ev.runN Tryz.prog 25450 m46) = some m47 := by kernel_rfl
theorem p47 : plainM m47 = true := by kernel_rfl
theorem c48 : slimKO [0, 11664, 11665, 11666, 11675] [2, 3, 7] [[1, 2, 6, 14], [0, 1, 2, 56, 57, 58, 59, 60, 61, 62, 63, 64, 65, 66, 67, 68, 69, 70, 73]] (Ev.runN Tryz.prog 23100 m47) = some m48 := by kernel_rfl
theorem p48 : plainM m48 = true := by kernel_rfl
theorem c49 : slimKO [0, 11937, 11938, 11939, 11948, 12000] [0, 1] [[2, 3, 15], [1, 2, 6, 14], [0, 1, 2, 56, 57, 58, 59, 60, 61, 62, 63, 64, 65, 66, 67, 68, 69, 70, 73]] (Ev.runN Tryz.prog 27600 m48) = some m49 := by kernel_rfl
theorem p49 : plainM m49 = true := by kernel_rfl
theorem c50 : slimKO [0, 12315, 12316, 12317, 12318, 12319, 12320, 12321] [0, 2, 9, 10, 11] [[0, 1], [0, 2, 3, 6], [2, 3, 8], [1, 2, 6, 14], [0, 1, 2, 56, 57, 58, 59, 60, 61, 62, 63, 64, 65, 66, 67, 68, 69, 70, 73]] (Ev.runN Tryz.prog 22950 m49) = some m50 := by kernel_rfl
theorem p50 : plainM m50 = true := by kernel_rfl
end Go.Proofs.YtcghkghnjfhieaaGreatDoor.inferKnown
