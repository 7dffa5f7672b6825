/- A part of the run of ParseKnown: what the evaluator comes to, and that it does. Written by a program of ours. -/
import Derived.Test.YtofghnpcbbbceaaGreatDoorParseKnownM2
set_option maxRecDepth 100000
namespace Go.Proofs.YtofghnpcbbbceaaGreatDoor.parseKnown
open Ev
theorem c41 : slimKO [7008, 9015, 9016, 9017, 9018, 9019, 9021, 9025] [0, 2, 3, 4, 9, 10, 11, 12, 13] [[2, 3, 8], [0, 11, 12, 14, 16, 18, 351]] (Ev.runN Tryz.prog 20350 m40) = some m41 := by kernel_rfl
theorem p41 : plainM m41 = true := by kernel_rfl
theorem c42 : slimKO [7008, 9015, 9016, 9017, 9018, 9019, 9021, 9025] [0, 2, 3, 4, 9, 10, 11, 12, 13] [[2, 3, 8], [0, 11, 12, 14, 16, 18, 351]] (Ev.runN Tryz.prog 20800 m41) = some m42 := by kernel_rfl
theorem p42 : plainM m42 = true := by kernel_rfl
theorem c43 : slimKO [7008, 9015, 9016, 9017, 9018, 9019, 9021, 9025] [0, 51] [[0, 2, 3, 4, 9, 10, 11, 12, 13], [2, 3, 8], [0, 11, 12, 14, 16, 18, 351]] (Ev.runN Tryz.prog 20000 m42) = some m43 := by kernel_rfl
theorem p43 : plainM m43 = true := by kernel_rfl
theorem c44 : slimKO [7008, 10339, 10340, 10341, 10342, 10343] [0, 2, 3] [[2, 3, 8], [0, 11, 12, 14, 16, 18, 20]] (Ev.runN Tryz.prog 37900 m43) = some m44 := by kernel_rfl
theorem p44 : plainM m44 = true := by kernel_rfl
theorem c45 : slimKO [7008, 10339, 10351, 10352, 10353, 10354, 10355, 10356, 10357] [0, 1, 3, 5, 6, 7, 8, 9, 10, 11] [[0, 2, 3, 6], [2, 3, 8], [2, 3, 9], [0], [0, 11, 12, 14, 16, 18, 20, 22, 359]] (Ev.runN Tryz.prog 20250 m44) = some m45 := by kernel_rfl
theorem p45 : plainM m45 = true := by kernel_rfl
end Go.Proofs.YtofghnpcbbbceaaGreatDoor.parseKnown
