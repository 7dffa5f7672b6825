/- A part of the run of InferKnown: what the evaluator comes to, and that it does. Written by a program of ours. -/
import Derived.Test.YtcghkghnjfhieaaGreatDoorInferKnownM3
set_option maxRecDepth 100000
namespace Go.Proofs.YtcghkghnjfhieaaGreatDoor.inferKnown
open Ev
theorem c51 : slimKO [0, 12586, 12587, 12588, 12589, 12590, 12591, 12592] [0, 1, 5, 6, 7, 8] [[0, 2, 3, 6], [2, 3, 8], [1, 2, 6, 14], [0, 1, 2, 56, 57, 58, 59, 60, 61, 62, 63, 64, 65, 66, 67, 68, 69, 70, 73]] (Ev.runN Tryz.prog 24950 m50) = some m51 := by kernel_rfl
theorem p51 : plainM m51 = true := by kernel_rfl
theorem c52 : slimKO [0, 12586] [0, 1, 2, 56, 57, 58, 59, 60, 61, 62, 63, 64, 65, 66, 67, 68, 69, 70, 73] [] (Ev.runN Tryz.prog 21650 m51) = some m52 := by kernel_rfl
theorem p52 : plainM m52 = true := by kernel_rfl
theorem c53 : slimKO [0, 12905] [0, 1, 2, 56, 57, 58, 59, 60, 61, 62, 63, 64, 65, 66, 67, 68, 69, 70, 73] [] (Ev.runN Tryz.prog 25500 m52) = some m53 := by kernel_rfl
theorem p53 : plainM m53 = true := by kernel_rfl
theorem c54 : slimKO [0, 13166, 13167, 13168, 13177, 13245] [0] [[2, 3, 15], [1, 2, 6, 14], [0, 1, 2, 56, 57, 58, 59, 60, 61, 62, 63, 64, 65, 66, 67, 68, 69, 70, 73]] (Ev.runN Tryz.prog 23850 m53) = some m54 := by kernel_rfl
theorem p54 : plainM m54 = true := by kernel_rfl
theorem c55 : slimKO [0, 13166, 13249, 13290, 13303, 13335, 13360, 13399, 13424, 13425, 13460, 13485, 13511, 13512, 13543, 13557, 13575, 13576, 13577, 13581, 13582, 13583, 13602, 13640, 13740, 13743] [0, 1, 2, 8] [[4, 5, 54, 58, 59], [0, 2, 3, 4, 5, 7, 8, 9, 10, 22, 23, 24, 25, 28, 29, 30, 31, 32], [1, 2, 6, 8, 19], [0, 1, 2, 56, 57, 58, 59, 60, 61, 62, 63, 64, 65, 66, 67, 68, 69, 70, 73]] (Ev.runN Tryz.prog 24650 m54) = some m55 := by kernel_rfl
theorem p55 : plainM m55 = true := by kernel_rfl
end Go.Proofs.YtcghkghnjfhieaaGreatDoor.inferKnown
