/- A part of the run of ParseKnown: what the evaluator comes to, and that it does. Written by a program of ours. -/
import Derived.Test.YtofghnpcbbbceaaGreatDoorRows
import Derived.Test.YtofghnpcbbbceaaGreatDoorX
import Derived.Test.YtofghnpcbbbceaaGreatDoorEvY
import Derived.Test.YtofghnpcbbbceaaGreatDoorParseKnownG
import Derived.Test.YtofghnpcbbbceaaGreatDoorParseKnownM2
set_option maxRecDepth 100000
namespace Go.Proofs.YtofghnpcbbbceaaGreatDoor.parseKnown
open Ev
theorem c1 : slimKO [0, 61, 70, 90, 97, 107, 108, 109, 110, 111, 112] [0, 1, 5, 6, 7] [[0, 2, 3, 6], [2, 3, 8], [2, 3, 9], [0, 1, 2, 3, 4, 34, 35, 36, 37, 38, 39, 40, 41, 42, 43, 44, 45, 46, 47, 48, 49, 50, 51, 52, 53, 54, 55, 56, 57, 58, 59, 60]] (startN Tryz.prog glob 3 25750) = some m1 := by kernel_rfl
theorem p1 : plainM m1 = true := by kernel_rfl
theorem c2 : slimKO [0, 289, 313, 335, 344, 347] [0, 1, 2, 3, 4, 34, 35, 36, 37, 38, 39, 40, 41, 42, 43, 44, 45, 46, 47, 48, 49, 50, 51, 52, 53, 54, 55, 56, 57, 58, 59, 60] [] (Ev.runN Tryz.prog 26450 m1) = some m2 := by kernel_rfl
theorem p2 : plainM m2 = true := by kernel_rfl
theorem c3 : slimKO [0, 430, 444, 462, 476, 489, 511, 522] [0] [[0, 1, 2, 3, 4, 34, 35, 36, 37, 38, 39, 40, 41, 42, 43, 44, 45, 46, 47, 48, 49, 50, 51, 52, 53, 54, 55, 56, 57, 58, 59, 60]] (Ev.runN Tryz.prog 22400 m2) = some m3 := by kernel_rfl
theorem p3 : plainM m3 = true := by kernel_rfl
theorem c4 : slimKO [0, 618, 643, 685, 718, 719] [0, 1, 2, 3, 4, 34, 35, 36, 37, 38, 39, 40, 41, 42, 43, 44, 45, 46, 47, 48, 49, 50, 51, 52, 53, 54, 55, 56, 57, 58, 59, 60] [] (Ev.runN Tryz.prog 22650 m3) = some m4 := by kernel_rfl
theorem p4 : plainM m4 = true := by kernel_rfl
theorem c5 : slimKO [0, 822, 833, 862, 887, 898, 927, 956] [0, 1, 2, 3, 4, 34, 35, 36, 37, 38, 39, 40, 41, 42, 43, 44, 45, 46, 47, 48, 49, 50, 51, 52, 53, 54, 55, 56, 57, 58, 59, 60] [] (Ev.runN Tryz.prog 25650 m4) = some m5 := by kernel_rfl
theorem p5 : plainM m5 = true := by kernel_rfl
end Go.Proofs.YtofghnpcbbbceaaGreatDoor.parseKnown
