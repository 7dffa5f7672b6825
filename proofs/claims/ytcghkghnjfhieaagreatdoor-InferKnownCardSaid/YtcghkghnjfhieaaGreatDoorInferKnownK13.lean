/- A part of the run of InferKnown: what the evaluator comes to, and that it does. Written by a program of ours. -/
import Derived.Test.YtcghkghnjfhieaaGreatDoorInferKnownM3
set_option maxRecDepth 100000
namespace Go.Proofs.YtcghkghnjfhieaaGreatDoor.inferKnown
open Ev
theorem c61 : slimKO [15283, 15284, 15293] [2, 3, 4, 11] [[1, 2, 6, 14], [0, 2], [0, 201]] (Ev.runN Tryz.prog 23750 m60) = some m61 := by kernel_rfl
theorem p61 : plainM m61 = true := by kernel_rfl
theorem c62 : slimKO [15467, 15468, 15477] [] [[2, 3, 15], [1, 2, 6, 14], [0, 5], [0, 201]] (Ev.runN Tryz.prog 24100 m61) = some m62 := by kernel_rfl
theorem p62 : plainM m62 = true := by kernel_rfl
end Go.Proofs.YtcghkghnjfhieaaGreatDoor.inferKnown
