/- A part of the run of NamesKnown: what the evaluator comes to, and that it does. Written by a program of ours. -/
import Derived.Test.YtfimobbjldemeaaGreatDoorNamesKnownM3
set_option maxRecDepth 100000
namespace Go.Proofs.YtfimobbjldemeaaGreatDoor.namesKnown
open Ev
theorem c22 : slimDO [409, 410, 412, 416, 417, 418, 441, 443, 445, 465, 489, 507, 510, 511, 526, 529, 535, 538, 568, 571, 612, 613, 4163, 4164, 4173, 4174, 4180, 4189, 4190, 4192, 4195, 4196, 4197, 4488, 4489, 4491, 4495, 4496, 4497, 4517, 4519, 4521, 4531, 4540, 4560, 4563, 4564, 4833, 4834, 4835, 4836, 4837, 4838] [0, 1, 5, 6, 7, 8] [[0, 2, 3, 6], [2, 3, 8], [2, 7], [2, 3, 8, 12, 13], [0, 11, 12, 13, 15, 16, 18, 19, 130, 131], [0, 1, 2, 8, 9, 11, 12, 13, 14, 15, 16, 17, 18, 20, 22, 24, 25, 26, 27, 147]] (Ev.runN Tryz.prog 24400 m21) = some m22 := by kernel_rfl
theorem p22 : okD m22 = true := by kernel_rfl
theorem c23 : slimDO [409, 410, 412, 416, 417, 418, 441, 443, 445, 465, 489, 507, 510, 511, 526, 529, 535, 538, 568, 571, 612, 613, 5084, 5085, 5086, 5087, 5088, 5090] [0, 2, 3, 4] [[2, 3, 8], [2, 7], [2, 3, 8, 12, 13], [0, 2, 252, 253]] (Ev.runN Tryz.prog 26750 m22) = some m23 := by kernel_rfl
theorem p23 : okD m23 = true := by kernel_rfl
theorem c24 : slimDO [409, 410, 412, 416, 417, 418, 441, 443, 445, 465, 489, 507, 510, 511, 526, 529, 535, 538, 568, 571, 612, 613] [0, 1, 2, 3, 8] [[0, 2, 256, 257]] (Ev.runN Tryz.prog 21300 m23) = some m24 := by kernel_rfl
theorem p24 : okD m24 = true := by kernel_rfl
end Go.Proofs.YtfimobbjldemeaaGreatDoor.namesKnown
