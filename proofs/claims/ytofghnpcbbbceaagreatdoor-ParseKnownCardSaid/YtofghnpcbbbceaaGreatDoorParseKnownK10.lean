/- A part of the run of ParseKnown: what the evaluator comes to, and that it does. Written by a program of ours. -/
import Derived.Test.YtofghnpcbbbceaaGreatDoorParseKnownM2
set_option maxRecDepth 100000
namespace Go.Proofs.YtofghnpcbbbceaaGreatDoor.parseKnown
open Ev
theorem c46 : slimKO [7008, 10339, 10351, 10538, 10539, 10540, 10541, 10542, 10543] [0, 1, 5] [[0, 2, 3, 6], [2, 3, 8], [0, 2], [0, 11, 12, 14, 16, 18, 20, 22, 359]] (Ev.runN Tryz.prog 22400 m45) = some m46 := by kernel_rfl
theorem p46 : plainM m46 = true := by kernel_rfl
end Go.Proofs.YtofghnpcbbbceaaGreatDoor.parseKnown
