/- A part of the run of ParseKnown: what the evaluator comes to, and that it does. Written by a program of ours. -/
import Derived.Test.YtofghnpcbbbceaaGreatDoorParseKnownM2
set_option maxRecDepth 100000
namespace Go.Proofs.YtofghnpcbbbceaaGreatDoor.parseKnown
open Ev
theorem c31 : slimKO [4530, 4531, 4712, 5365, 6159] [0, 1, 5] [[2, 3], [0, 11, 12, 324]] (Ev.runN Tryz.prog 56550 m30) = some m31 := by kernel_rfl
theorem p31 : plainM m31 = true := by kernel_rfl
theorem c32 : slimKO [6161, 6162, 6163, 6164, 6165, 6167, 6171] [0, 2, 3, 4, 9, 10, 11, 12, 13] [[2, 3, 8], [0, 11, 12, 14, 333]] (Ev.runN Tryz.prog 20300 m31) = some m32 := by kernel_rfl
theorem p32 : plainM m32 = true := by kernel_rfl
theorem c33 : slimKO [6161, 6162, 6163, 6164, 6165, 6167, 6171] [0, 2, 3, 4, 9, 10, 11, 12, 13] [[2, 3, 8], [0, 11, 12, 14, 333]] (Ev.runN Tryz.prog 20100 m32) = some m33 := by kernel_rfl
theorem p33 : plainM m33 = true := by kernel_rfl
theorem c34 : slimKO [7008] [0, 1, 4] [[0, 11, 12, 14, 16]] (Ev.runN Tryz.prog 43450 m33) = some m34 := by kernel_rfl
theorem p34 : plainM m34 = true := by kernel_rfl
theorem c35 : slimKO [7008, 7009, 7010, 7011, 7012, 7013, 7015, 7019] [0, 2, 3, 4, 9, 10, 11, 12, 13] [[2, 3, 8], [0, 11, 12, 14, 16, 342]] (Ev.runN Tryz.prog 20950 m34) = some m35 := by kernel_rfl
theorem p35 : plainM m35 = true := by kernel_rfl
end Go.Proofs.YtofghnpcbbbceaaGreatDoor.parseKnown
