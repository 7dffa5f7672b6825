/- A part of the run of NamesKnown: what the evaluator comes to, and that it does. Written by a program of ours. -/
import Derived.Test.YtfimobbjldemeaaGreatDoorNamesKnownM3
set_option maxRecDepth 100000
namespace Go.Proofs.YtfimobbjldemeaaGreatDoor.namesKnown
open Ev
theorem c7 : slimDO [409, 410, 412, 416, 417, 418, 441, 443, 445, 465, 489, 507, 510, 511, 526, 529, 535, 538, 568, 571, 612, 613, 660, 661, 662, 663, 664, 666, 670] [0, 2, 3, 4, 9, 10, 11, 12, 13] [[2, 3, 8], [2, 7], [0, 1, 2, 93, 94]] (Ev.runN Tryz.prog 21500 m6) = some m7 := by kernel_rfl
theorem p7 : okD m7 = true := by kernel_rfl
theorem c8 : slimDO [409, 410, 412, 416, 417, 418, 441, 443, 445, 465, 489, 507, 510, 511, 526, 529, 535, 538, 568, 571, 612, 613, 660, 661, 662, 663, 664, 666, 670] [12] [[0, 2, 3, 4, 9, 10, 11, 12, 13], [2, 3, 8], [2, 7], [0, 1, 2, 93, 94]] (Ev.runN Tryz.prog 20450 m7) = some m8 := by kernel_rfl
theorem p8 : okD m8 = true := by kernel_rfl
theorem c9 : slimDO [409, 410, 412, 416, 417, 418, 441, 443, 445, 465, 489, 507, 510, 511, 526, 529, 535, 538, 568, 571, 612, 613, 660, 661, 670, 1208, 1209, 1212, 1229, 1236, 1245, 1252, 1268, 1284, 1300, 1316, 1321, 1331, 1357, 1365, 1375, 1391, 1396, 1406, 1432, 1461, 1469, 1479, 1495, 1511, 1516, 1526, 1552, 1560, 1570, 1586, 1591, 1601, 1627, 1656, 1685, 1693] [0, 1, 4] [[0, 1, 2, 6, 7, 17], [0, 2, 3, 11, 12, 14], [0, 2, 41], [0, 2, 3, 10], [0, 1, 2, 6, 7, 12, 13], [0, 2, 3, 11, 12, 14], [0, 2, 41], [0, 2, 3, 10], [2, 3, 47, 48], [], [2, 7], [0, 1, 2, 93, 94]] (Ev.runN Tryz.prog 25500 m8) = some m9 := by kernel_rfl
theorem p9 : okD m9 = true := by kernel_rfl
end Go.Proofs.YtfimobbjldemeaaGreatDoor.namesKnown
