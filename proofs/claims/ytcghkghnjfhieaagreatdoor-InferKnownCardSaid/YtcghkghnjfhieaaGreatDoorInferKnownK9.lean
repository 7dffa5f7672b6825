/- A part of the run of InferKnown: what the evaluator comes to, and that it does. Written by a program of ours. -/
import Derived.Test.YtcghkghnjfhieaaGreatDoorInferKnownM3
set_option maxRecDepth 100000
namespace Go.Proofs.YtcghkghnjfhieaaGreatDoor.inferKnown
open Ev
theorem c41 : slimKO [0, 10122, 10123, 10124, 10125, 10126, 10127, 10129, 10133] [0, 2, 3, 4, 9, 10, 11, 12, 13] [[2, 3, 8], [1, 2, 6, 14], [0, 1, 2, 56, 57, 58, 59, 60, 61, 62, 63, 64, 65, 66, 67, 68, 69, 70, 73]] (Ev.runN Tryz.prog 27350 m40) = some m41 := by kernel_rfl
theorem p41 : plainM m41 = true := by kernel_rfl
theorem c42 : slimKO [0, 10414, 10415, 10416, 10417, 10418, 10419] [0, 2, 3] [[0, 1], [0, 2, 3, 6], [2, 3, 8], [1, 2, 6, 14], [0, 1, 2, 56, 57, 58, 59, 60, 61, 62, 63, 64, 65, 66, 67, 68, 69, 70, 73]] (Ev.runN Tryz.prog 25200 m41) = some m42 := by kernel_rfl
theorem p42 : plainM m42 = true := by kernel_rfl
theorem c43 : slimKO [0, 10414, 10478, 10501, 10504, 10533, 10544, 10562, 10576, 10589, 10600, 10622, 10637, 10638, 10639, 10640, 10641, 10642, 10643, 10644, 10645, 10646, 10647, 10653, 10654, 10655, 10675, 10677, 10679, 10682, 10683, 10684] [0, 1, 2, 6] [[0, 1, 4, 27, 28, 29], [4, 28, 29], [4, 7, 8], [0, 1, 4, 5, 48, 52], [0, 2, 3, 4, 5, 7, 8, 9, 10, 11, 22, 23, 24, 25, 26, 27, 28, 29, 30, 31, 32, 33, 34, 35], [1, 2, 6, 8, 19], [0, 1, 2, 56, 57, 58, 59, 60, 61, 62, 63, 64, 65, 66, 67, 68, 69, 70, 73]] (Ev.runN Tryz.prog 23450 m42) = some m43 := by kernel_rfl
theorem p43 : plainM m43 = true := by kernel_rfl
theorem c44 : slimKO [0, 10788, 10789, 10790, 10791, 10792, 10793, 10795] [0, 2, 3, 4, 9, 10, 11, 12, 13] [[2, 3, 8], [1, 2, 6, 14], [0, 1, 2, 56, 57, 58, 59, 60, 61, 62, 63, 64, 65, 66, 67, 68, 69, 70, 73]] (Ev.runN Tryz.prog 20400 m43) = some m44 := by kernel_rfl
theorem p44 : plainM m44 = true := by kernel_rfl
theorem c45 : slimKO [0, 10788, 10864, 10887, 10890, 10921, 10938, 10949, 10967, 10981, 10994, 11005, 11027, 11056, 11071, 11072, 11073, 11074, 11075, 11076, 11077, 11078, 11079, 11080, 11081, 11087, 11088, 11089, 11109, 11111, 11113, 11116, 11117, 11118] [0, 1, 4, 11] [[4, 28, 29], [0, 1, 4, 8, 12], [4, 28, 29], [0, 1, 4, 69, 73], [4, 28, 29], [4, 7, 8], [0, 1, 4, 5, 48, 52], [0, 2, 3, 4, 5, 7, 8, 9, 10, 11, 22, 23, 24, 25, 26, 27, 28, 29, 30, 31, 32, 33, 34, 35], [1, 2, 6, 8, 19], [0, 1, 2, 56, 57, 58, 59, 60, 61, 62, 63, 64, 65, 66, 67, 68, 69, 70, 73]] (Ev.runN Tryz.prog 23400 m44) = some m45 := by kernel_rfl
theorem p45 : plainM m45 = true := by kernel_rfl
end Go.Proofs.YtcghkghnjfhieaaGreatDoor.inferKnown
