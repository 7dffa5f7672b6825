/- A part of the run of InferKnown: what the evaluator comes to, and that it does. Written by a program of ours. -/
import Derived.Test.YtcghkghnjfhieaaGreatDoorInferKnownM3
set_option maxRecDepth 100000
namespace Go.Proofs.YtcghkghnjfhieaaGreatDoor.inferKnown
open Ev
theorem c56 : slimKO [0, 13809, 13810, 13811, 13820] [0] [[2, 3, 15], [1, 2, 6, 14], [0, 1, 2, 56, 57, 58, 59, 60, 61, 62, 63, 64, 65, 66, 67, 68, 69, 70, 73]] (Ev.runN Tryz.prog 26200 m55) = some m56 := by kernel_rfl
theorem p56 : plainM m56 = true := by kernel_rfl
theorem c57 : slimKO [0, 14249, 14250, 14251, 14252, 14253, 14254] [0, 1] [[0, 2, 3, 6], [2, 3, 8], [1, 2, 6, 14], [0, 1, 2, 56, 57, 58, 59, 60, 61, 62, 63, 64, 65, 66, 67, 68, 69, 70, 73]] (Ev.runN Tryz.prog 27150 m56) = some m57 := by kernel_rfl
theorem p57 : plainM m57 = true := by kernel_rfl
theorem c58 : slimKO [0, 14249] [0, 1, 2, 56, 57, 58, 59, 60, 61, 62, 63, 64, 65, 66, 67, 68, 69, 70, 73] [] (Ev.runN Tryz.prog 26100 m57) = some m58 := by kernel_rfl
theorem p58 : plainM m58 = true := by kernel_rfl
theorem c59 : slimKO [0, 14666, 14667, 14668, 14724, 14751, 14758, 14761, 14792, 14799, 14820, 14827, 14846] [2, 3] [[1, 2, 6, 14], [0, 1, 2, 56, 57, 58, 59, 60, 61, 62, 63, 64, 65, 66, 67, 68, 69, 70, 73]] (Ev.runN Tryz.prog 24550 m58) = some m59 := by kernel_rfl
theorem p59 : plainM m59 = true := by kernel_rfl
theorem c60 : slimKO [15107, 15108, 15109, 15110, 15111, 15113] [0, 2, 3, 4] [[2, 3, 8], [1, 2, 6, 14], [0], [0, 201]] (Ev.runN Tryz.prog 24550 m59) = some m60 := by kernel_rfl
theorem p60 : plainM m60 = true := by kernel_rfl
end Go.Proofs.YtcghkghnjfhieaaGreatDoor.inferKnown
