/- A part of the run of PrintKnown: what the evaluator comes to, and that it does. Written by a program of ours. -/
import Derived.Test.YtaeeepmjghgflaaGreatDoorPrintKnownM3
set_option maxRecDepth 100000
namespace Go.Proofs.YtaeeepmjghgflaaGreatDoor.printKnown
open Ev
theorem c25 : slimDO [0, 5141, 5206, 5231, 5246, 5266, 5307, 5331, 5360, 5394, 5396, 5397, 5398, 5400, 5440, 5441, 5450] [2, 3, 4] [[0, 2, 3, 4, 29], [1, 4, 6, 15], [0, 1, 2, 31, 32, 33, 34, 35, 36, 37, 38, 39, 40, 41, 42, 43, 46]] (Ev.runN Tryz.prog 22050 m24) = some m25 := by kernel_rfl
theorem p25 : heldM m25 = true := by kernel_rfl
theorem c26 : slimDO [0, 5654, 5655, 5656, 5665, 5708, 5709] [2, 3, 5] [[1, 4, 10], [0, 1, 2, 31, 32, 33, 34, 35, 36, 37, 38, 39, 40, 41, 42, 43, 46]] (Ev.runN Tryz.prog 26450 m25) = some m26 := by kernel_rfl
theorem p26 : heldM m26 = true := by kernel_rfl
theorem c27 : slimDO [0, 5654, 5712, 5743, 5750, 5771, 5778, 5804, 5821, 5889, 5891, 5892, 5893, 5895, 5939, 5940, 5941, 5942, 5943, 5945, 5949] [0, 2, 3, 4, 9, 10, 11, 12, 13] [[2, 3, 8], [0, 2, 3, 4, 29], [1, 4, 6, 15], [0, 1, 2, 31, 32, 33, 34, 35, 36, 37, 38, 39, 40, 41, 42, 43, 46]] (Ev.runN Tryz.prog 20250 m26) = some m27 := by kernel_rfl
theorem p27 : heldM m27 = true := by kernel_rfl
theorem c28 : slimDO [0, 6175, 6176, 6177, 6178, 6179, 6180, 6181] [0, 1, 5, 6, 7, 8] [[0, 2, 3, 6], [2, 3, 8], [1, 4, 10], [0, 1, 2, 31, 32, 33, 34, 35, 36, 37, 38, 39, 40, 41, 42, 43, 46]] (Ev.runN Tryz.prog 25850 m27) = some m28 := by kernel_rfl
theorem p28 : heldM m28 = true := by kernel_rfl
theorem c29 : slimDO [0, 6175, 6240, 6281, 6321, 6339, 6340, 6360, 6398, 6412, 6421, 6432, 6446, 6448, 6449, 6450, 6452, 6514] [0, 5, 6, 7, 8, 9, 10, 11, 12, 13, 14, 15, 17] [[92, 93], [0, 2, 3, 4, 6, 15, 16, 17, 18, 19, 20, 21, 22], [1, 4, 6, 15], [0, 1, 2, 31, 32, 33, 34, 35, 36, 37, 38, 39, 40, 41, 42, 43, 46]] (Ev.runN Tryz.prog 20750 m28) = some m29 := by kernel_rfl
theorem p29 : heldM m29 = true := by kernel_rfl
theorem c30 : slimDO [0, 6175, 6240, 6281, 6321, 6339, 6340, 6360, 6398, 6412, 6421, 6432, 6446, 6448, 6449, 6450, 6452, 6579, 6620, 6660, 6678, 6679, 6699, 6737, 6751, 6760, 6771, 6785] [0, 2, 3, 4, 7, 8] [[1, 4, 6, 15], [0, 1, 2, 31, 32, 33, 34, 35, 36, 37, 38, 39, 40, 41, 42, 43, 46]] (Ev.runN Tryz.prog 26750 m29) = some m30 := by kernel_rfl
theorem p30 : heldM m30 = true := by kernel_rfl
end Go.Proofs.YtaeeepmjghgflaaGreatDoor.printKnown
