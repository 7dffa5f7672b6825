/- A part of the run of NamesKnown: what the evaluator comes to, and that it does. Written by a program of ours. -/
import Derived.Test.YtfimobbjldemeaaGreatDoorRows
import Derived.Test.YtfimobbjldemeaaGreatDoorX
import Derived.Test.YtfimobbjldemeaaGreatDoorEvY
import Derived.Test.YtfimobbjldemeaaGreatDoorNamesKnownG
import Derived.Test.YtfimobbjldemeaaGreatDoorNamesKnownM3
set_option maxRecDepth 100000
namespace Go.Proofs.YtfimobbjldemeaaGreatDoor.namesKnown
open Ev
theorem c1 : slimDO [0, 1, 2, 3, 4, 6, 10] [0, 2, 3, 4, 9, 10, 11, 12, 13] [[2, 3, 8], [2, 3, 4, 10], [0, 1]] (startN Tryz.prog glob 3 20600) = some m1 := by kernel_rfl
theorem p1 : okD m1 = true := by kernel_rfl
theorem c2 : slimDO [120, 145, 167, 197, 211, 215, 218, 231, 232, 240, 243, 268, 292, 311, 323, 333, 362, 373, 375, 378, 385, 409, 410, 411, 412, 413, 414, 415, 416, 417, 418, 419, 422, 441, 443, 445, 446, 461, 463, 464, 465, 489, 507, 510, 511] [6, 7, 8, 9, 14, 16, 86, 87, 88, 89, 90, 91, 92, 93, 94, 95, 96, 97, 98, 99, 100, 101, 102, 103, 104, 105] [[2, 3, 4, 17, 18], [0, 1]] (Ev.runN Tryz.prog 23500 m1) = some m2 := by kernel_rfl
theorem p2 : okD m2 = true := by kernel_rfl
theorem c3 : slimDO [409, 410, 412, 416, 417, 418, 441, 443, 445, 465, 489, 507, 510, 511, 526, 529, 535, 538, 568, 571, 612, 613, 660, 661, 662, 663, 664, 665] [0, 1, 3, 5, 6, 7, 8, 9, 10, 11, 12, 13] [[0, 2, 3, 6], [2, 3, 8], [2, 7], [0, 1, 2, 93, 94]] (Ev.runN Tryz.prog 24100 m2) = some m3 := by kernel_rfl
theorem p3 : okD m3 = true := by kernel_rfl
end Go.Proofs.YtfimobbjldemeaaGreatDoor.namesKnown
