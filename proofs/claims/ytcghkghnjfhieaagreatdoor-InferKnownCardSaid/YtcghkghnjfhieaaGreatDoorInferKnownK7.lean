/- A part of the run of InferKnown: what the evaluator comes to, and that it does. Written by a program of ours. -/
import Derived.Test.YtcghkghnjfhieaaGreatDoorInferKnownM3
set_option maxRecDepth 100000
namespace Go.Proofs.YtcghkghnjfhieaaGreatDoor.inferKnown
open Ev
theorem c31 : slimKO [0, 7521] [0, 1, 2, 56, 57, 58, 59, 60, 61, 62, 63, 64, 65, 66, 67, 68, 69, 70, 73] [] (Ev.runN Tryz.prog 22000 m30) = some m31 := by kernel_rfl
theorem p31 : plainM m31 = true := by kernel_rfl
theorem c32 : slimKO [0, 7883, 7884, 7885, 7886, 7887, 7888, 7889] [2] [[0, 1], [0, 2, 3, 6], [2, 3, 8], [1, 2, 6, 14], [0, 1, 2, 56, 57, 58, 59, 60, 61, 62, 63, 64, 65, 66, 67, 68, 69, 70, 73]] (Ev.runN Tryz.prog 27450 m31) = some m32 := by kernel_rfl
theorem p32 : plainM m32 = true := by kernel_rfl
theorem c33 : slimKO [0, 8036, 8037, 8038, 8047] [2, 3, 4] [[1, 2, 6, 14], [0, 1, 2, 56, 57, 58, 59, 60, 61, 62, 63, 64, 65, 66, 67, 68, 69, 70, 73]] (Ev.runN Tryz.prog 24500 m32) = some m33 := by kernel_rfl
theorem p33 : plainM m33 = true := by kernel_rfl
theorem c34 : slimKO [0, 8295, 8296, 8297, 8298, 8299, 8300, 8302, 8306] [] [[0, 2, 3, 4, 9, 10, 11, 12, 13], [2, 3, 8], [1, 2, 6, 14], [0, 1, 2, 56, 57, 58, 59, 60, 61, 62, 63, 64, 65, 66, 67, 68, 69, 70, 73]] (Ev.runN Tryz.prog 20400 m33) = some m34 := by kernel_rfl
theorem p34 : plainM m34 = true := by kernel_rfl
theorem c35 : slimKO [0, 8598, 8599, 8600, 8601, 8602, 8603, 8604] [0, 2, 9, 10, 11] [[0, 1], [0, 2, 3, 6], [2, 3, 8], [1, 2, 6, 14], [0, 1, 2, 56, 57, 58, 59, 60, 61, 62, 63, 64, 65, 66, 67, 68, 69, 70, 73]] (Ev.runN Tryz.prog 27450 m34) = some m35 := by kernel_rfl
theorem p35 : plainM m35 = true := by kernel_rfl
end Go.Proofs.YtcghkghnjfhieaaGreatDoor.inferKnown
