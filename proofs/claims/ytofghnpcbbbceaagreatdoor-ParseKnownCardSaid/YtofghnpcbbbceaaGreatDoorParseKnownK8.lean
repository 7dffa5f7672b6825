/- A part of the run of ParseKnown: what the evaluator comes to, and that it does. Written by a program of ours. -/
import Derived.Test.YtofghnpcbbbceaaGreatDoorParseKnownM2
set_option maxRecDepth 100000
namespace Go.Proofs.YtofghnpcbbbceaaGreatDoor.parseKnown
open Ev
theorem c36 : slimKO [7008, 7009, 7010, 7011, 7012, 7013, 7015, 7019] [0, 2, 3, 4, 9, 10, 11, 12, 13] [[2, 3, 8], [0, 11, 12, 14, 16, 342]] (Ev.runN Tryz.prog 21400 m35) = some m36 := by kernel_rfl
theorem p36 : plainM m36 = true := by kernel_rfl
theorem c37 : slimKO [7008, 7009, 7010, 7011, 7012, 7013, 7015, 7019] [0, 2, 3, 4, 9, 10, 11, 12, 13] [[2, 3, 8], [0, 11, 12, 14, 16, 342]] (Ev.runN Tryz.prog 20350 m36) = some m37 := by kernel_rfl
theorem p37 : plainM m37 = true := by kernel_rfl
theorem c38 : slimKO [7008, 7009, 7010, 7011, 7012, 7013, 7015, 7019] [0, 2, 3, 4, 9, 10, 11, 12, 13] [[2, 3, 8], [0, 11, 12, 14, 16, 342]] (Ev.runN Tryz.prog 20500 m37) = some m38 := by kernel_rfl
theorem p38 : plainM m38 = true := by kernel_rfl
theorem c39 : slimKO [7008, 7009, 7010, 7019, 7381, 7382, 7385, 7410, 7433, 7456, 7479, 7502, 7525, 7548, 7571, 7594, 7617, 7640, 7663, 7686, 7709, 7732, 7755, 7778, 7801, 7824, 7847, 7870, 7893, 7916, 7939, 7962, 7985, 8008, 8031, 8054, 8077, 8100, 8123, 8146, 8169, 8192, 8215, 8238, 8261, 8284, 8306, 8323, 8324, 8341, 8342, 8359, 8360, 8377, 8378, 8395, 8396, 8413, 8414, 8431, 8432, 8449, 8450, 8467, 8468, 8485, 8486, 8503, 8504, 8521, 8522, 8539, 8540, 8557, 8558, 8575, 8576, 8593, 8594, 8611, 8612, 8629, 8630, 8647, 8648, 8665, 8666, 8683, 8684, 8701, 8702, 8719, 8720, 8737, 8738, 8755, 8756, 8773, 8774, 8791, 8792, 8809, 8810, 8827, 8828, 8845, 8846, 8863, 8864, 8881, 8882, 8899, 8900, 8917, 8918, 8935, 8936, 8953, 8954, 8971, 8972, 8989, 8990, 9007, 9008, 9012, 9013, 9014] [0, 2] [[2, 3, 5, 18, 19, 20, 21, 22, 23, 24], [0, 11, 12, 14, 16, 342]] (Ev.runN Tryz.prog 50050 m38) = some m39 := by kernel_rfl
theorem p39 : plainM m39 = true := by kernel_rfl
theorem c40 : slimKO [7008, 9015, 9016, 9017, 9018, 9019, 9021, 9025] [0, 2, 3, 4, 9, 10, 11, 12, 13] [[2, 3, 8], [0, 11, 12, 14, 16, 18, 351]] (Ev.runN Tryz.prog 20100 m39) = some m40 := by kernel_rfl
theorem p40 : plainM m40 = true := by kernel_rfl
end Go.Proofs.YtofghnpcbbbceaaGreatDoor.parseKnown
