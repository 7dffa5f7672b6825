/- A part of the run of NamesKnown: what the evaluator comes to, and that it does. Written by a program of ours. -/
import Derived.Test.YtfimobbjldemeaaGreatDoorNamesKnownM3
set_option maxRecDepth 100000
namespace Go.Proofs.YtfimobbjldemeaaGreatDoor.namesKnown
open Ev
theorem c19 : slimDO [409, 410, 412, 416, 417, 418, 441, 443, 445, 465, 489, 507, 510, 511, 526, 529, 535, 538, 568, 571, 612, 613, 4163, 4164, 4173, 4174, 4180, 4189, 4190, 4192, 4195, 4196, 4197, 4201, 4202, 4203, 4204, 4205] [0, 2, 40] [[0, 1], [0, 2, 3, 6], [2, 3, 8], [2, 3, 4, 10], [0], [0, 1, 2, 8, 9, 11, 12, 13, 14, 15, 16, 17, 18, 20, 22, 24, 25, 26, 27, 147]] (Ev.runN Tryz.prog 23350 m18) = some m19 := by kernel_rfl
theorem p19 : okD m19 = true := by kernel_rfl
theorem c20 : slimDO [409, 410, 412, 416, 417, 418, 441, 443, 445, 465, 489, 507, 510, 511, 526, 529, 535, 538, 568, 571, 612, 613, 4163, 4164, 4173, 4174, 4180, 4189, 4190, 4192, 4195, 4196, 4197, 4291, 4314, 4317, 4342, 4367, 4399, 4422, 4423, 4433, 4457, 4464] [2, 3, 4, 9] [[0], [0, 1, 2, 8, 9, 11, 12, 13, 14, 15, 16, 17, 18, 20, 22, 24, 25, 26, 27, 147]] (Ev.runN Tryz.prog 23600 m19) = some m20 := by kernel_rfl
theorem p20 : okD m20 = true := by kernel_rfl
theorem c21 : slimDO [409, 410, 412, 416, 417, 418, 441, 443, 445, 465, 489, 507, 510, 511, 526, 529, 535, 538, 568, 571, 612, 613, 4163, 4164, 4173, 4174, 4180, 4189, 4190, 4192, 4195, 4196, 4197, 4488, 4489, 4491, 4495, 4496, 4497, 4517, 4519, 4521, 4531, 4540, 4560, 4563, 4564, 4728] [3, 8, 10, 33, 34] [[0, 1, 11, 12, 13, 15, 16, 18, 19, 124], [0, 1, 2, 8, 9, 11, 12, 13, 14, 15, 16, 17, 18, 20, 22, 24, 25, 26, 27, 147]] (Ev.runN Tryz.prog 26250 m20) = some m21 := by kernel_rfl
theorem p21 : okD m21 = true := by kernel_rfl
end Go.Proofs.YtfimobbjldemeaaGreatDoor.namesKnown
