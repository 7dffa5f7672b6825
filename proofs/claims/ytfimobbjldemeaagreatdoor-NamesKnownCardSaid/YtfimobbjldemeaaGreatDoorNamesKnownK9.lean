/- A part of the run of NamesKnown: what the evaluator comes to, and that it does. Written by a program of ours. -/
import Derived.Test.YtfimobbjldemeaaGreatDoorNamesKnownM3
set_option maxRecDepth 100000
namespace Go.Proofs.YtfimobbjldemeaaGreatDoor.namesKnown
open Ev
theorem c25 : slimDO [409, 410, 412, 416, 417, 418, 441, 443, 445, 465, 489, 507, 510, 511, 526, 529, 535, 538, 568, 571, 612, 613, 5465, 5466, 5467, 5468, 5469, 5470] [0, 1, 3, 5, 6, 7, 8, 9, 10, 11, 12, 13] [[0, 2, 3, 6], [2, 3, 8], [2, 7], [2, 3, 8, 12, 13], [0, 2, 260, 261]] (Ev.runN Tryz.prog 24700 m24) = some m25 := by kernel_rfl
theorem p25 : okD m25 = true := by kernel_rfl
end Go.Proofs.YtfimobbjldemeaaGreatDoor.namesKnown
