/- A part of the run of NamesKnown: what the evaluator comes to, and that it does. Written by a program of ours. -/
import Derived.Test.YtfimobbjldemeaaGreatDoorNamesKnownM3
set_option maxRecDepth 100000
namespace Go.Proofs.YtfimobbjldemeaaGreatDoor.namesKnown
open Ev
theorem c4 : slimDO [409, 410, 412, 416, 417, 418, 441, 443, 445, 465, 489, 507, 510, 511, 526, 529, 535, 538, 568, 571, 612, 613, 660, 661, 662, 663, 664, 666, 670] [0, 2, 17, 19] [[0, 2, 3, 4, 9, 10, 11, 12, 13], [2, 3, 8], [2, 7], [0, 1, 2, 93, 94]] (Ev.runN Tryz.prog 20400 m3) = some m4 := by kernel_rfl
theorem p4 : okD m4 = true := by kernel_rfl
theorem c5 : slimDO [409, 410, 412, 416, 417, 418, 441, 443, 445, 465, 489, 507, 510, 511, 526, 529, 535, 538, 568, 571, 612, 613, 660, 661, 662, 663, 664, 666, 670] [0, 2, 3, 4, 9, 10, 11, 12, 13] [[2, 3, 8], [2, 7], [0, 1, 2, 93, 94]] (Ev.runN Tryz.prog 20450 m4) = some m5 := by kernel_rfl
theorem p5 : okD m5 = true := by kernel_rfl
theorem c6 : slimDO [409, 410, 412, 416, 417, 418, 441, 443, 445, 465, 489, 507, 510, 511, 526, 529, 535, 538, 568, 571, 612, 613, 660, 661, 662, 663, 664, 666, 670] [0, 2, 3, 4, 9, 10, 11, 12, 13] [[2, 3, 8], [2, 7], [0, 1, 2, 93, 94]] (Ev.runN Tryz.prog 20950 m5) = some m6 := by kernel_rfl
theorem p6 : okD m6 = true := by kernel_rfl
end Go.Proofs.YtfimobbjldemeaaGreatDoor.namesKnown
