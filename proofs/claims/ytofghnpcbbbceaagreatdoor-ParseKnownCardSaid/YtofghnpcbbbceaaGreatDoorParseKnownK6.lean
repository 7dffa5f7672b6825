/- A part of the run of ParseKnown: what the evaluator comes to, and that it does. Written by a program of ours. -/
import Derived.Test.YtofghnpcbbbceaaGreatDoorParseKnownM2
set_option maxRecDepth 100000
namespace Go.Proofs.YtofghnpcbbbceaaGreatDoor.parseKnown
open Ev
theorem c26 : slimKO [3755, 3756, 3757, 3758, 3759, 3761, 3765] [0, 2, 3, 4, 9, 10, 11, 12, 13] [[2, 3, 8], [0]] (Ev.runN Tryz.prog 20250 m25) = some m26 := by kernel_rfl
theorem p26 : plainM m26 = true := by kernel_rfl
theorem c27 : slimKO [3755, 3756, 3948, 3971, 3974, 3999, 4021, 4030, 4032, 4035, 4062, 4085, 4086, 4096, 4119, 4143, 4150, 4190, 4212, 4216, 4256, 4291, 4326, 4335, 4337, 4340, 4355, 4357, 4360, 4376, 4404, 4423, 4424, 4437, 4452, 4472, 4501] [0, 1, 5] [[2, 3], [0]] (Ev.runN Tryz.prog 31350 m26) = some m27 := by kernel_rfl
theorem p27 : plainM m27 = true := by kernel_rfl
theorem c28 : slimKO [4530, 4531, 4532, 4533, 4534, 4535] [0, 1, 5, 6, 7] [[0, 2, 3, 6], [2, 3, 8], [0, 11, 12, 324]] (Ev.runN Tryz.prog 22050 m27) = some m28 := by kernel_rfl
theorem p28 : plainM m28 = true := by kernel_rfl
theorem c29 : slimKO [4530, 4531, 4532, 4533, 4534, 4536, 4540] [] [[0, 2, 3, 4, 9, 10, 11, 12, 13], [2, 3, 8], [0, 11, 12, 324]] (Ev.runN Tryz.prog 20050 m28) = some m29 := by kernel_rfl
theorem p29 : plainM m29 = true := by kernel_rfl
theorem c30 : slimKO [4530, 4531, 4540] [2, 3, 4] [[0, 11, 12, 324]] (Ev.runN Tryz.prog 23850 m29) = some m30 := by kernel_rfl
theorem p30 : plainM m30 = true := by kernel_rfl
end Go.Proofs.YtofghnpcbbbceaaGreatDoor.parseKnown
