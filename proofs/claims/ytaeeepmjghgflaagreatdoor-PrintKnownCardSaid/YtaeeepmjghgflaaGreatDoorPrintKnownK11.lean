/- A part of the run of PrintKnown: what the evaluator comes to, and that it does. Written by a program of ours. -/
import Derived.Test.YtaeeepmjghgflaaGreatDoorPrintKnownM3
set_option maxRecDepth 100000
namespace Go.Proofs.YtaeeepmjghgflaaGreatDoor.printKnown
open Ev
theorem c31 : slimDO [0, 6787, 6788, 6789, 6798, 6848] [0, 1] [[2, 3, 15], [1, 4, 10], [0, 1, 2, 31, 32, 33, 34, 35, 36, 37, 38, 39, 40, 41, 42, 43, 46]] (Ev.runN Tryz.prog 21700 m30) = some m31 := by kernel_rfl
theorem p31 : heldM m31 = true := by kernel_rfl
theorem c32 : slimDO [0, 6787, 6852, 6897, 6917, 6924, 6958, 6965, 6973, 6976, 7005, 7041, 7061, 7068, 7089, 7098, 7099, 7100, 7102, 7160, 7161, 7162, 7163, 7164, 7165] [0, 1, 3, 5, 6, 7, 8, 9, 10] [[0, 2, 3, 6], [2, 3, 8], [0, 2, 3, 4, 29], [1, 4, 6, 15], [0, 1, 2, 31, 32, 33, 34, 35, 36, 37, 38, 39, 40, 41, 42, 43, 46]] (Ev.runN Tryz.prog 22650 m31) = some m32 := by kernel_rfl
theorem p32 : heldM m32 = true := by kernel_rfl
theorem c33 : slimDO [0, 6787] [4] [[0, 1, 2, 31, 32, 33, 34, 35, 36, 37, 38, 39, 40, 41, 42, 43, 46]] (Ev.runN Tryz.prog 20900 m32) = some m33 := by kernel_rfl
theorem p33 : heldM m33 = true := by kernel_rfl
theorem c34 : slimDO [0, 7430, 7431, 7432, 7490, 7533, 7542, 7576, 7601, 7617, 7620, 7641, 7655, 7664, 7675, 7680, 7690] [] [[2, 3], [1, 4, 10], [0, 1, 2, 31, 32, 33, 34, 35, 36, 37, 38, 39, 40, 41, 42, 43, 46]] (Ev.runN Tryz.prog 25900 m33) = some m34 := by kernel_rfl
theorem p34 : heldM m34 = true := by kernel_rfl
theorem c35 : slimDO [0, 7430, 7490, 7533, 7542, 7576, 7601, 7617, 7620, 7641, 7655, 7664, 7675, 7680, 7690, 7692, 7693, 7694, 7696, 7758, 7759, 7768] [0] [[2, 3, 15], [0, 2, 3, 4, 29], [1, 4, 6, 15], [0, 1, 2, 31, 32, 33, 34, 35, 36, 37, 38, 39, 40, 41, 42, 43, 46]] (Ev.runN Tryz.prog 23150 m34) = some m35 := by kernel_rfl
theorem p35 : heldM m35 = true := by kernel_rfl
theorem c36 : slimDO [0, 7979, 7980, 7981, 8017, 8060, 8069, 8100, 8114] [2, 3] [[1, 4, 10], [0, 1, 2, 31, 32, 33, 34, 35, 36, 37, 38, 39, 40, 41, 42, 43, 46]] (Ev.runN Tryz.prog 27350 m35) = some m36 := by kernel_rfl
theorem p36 : heldM m36 = true := by kernel_rfl
end Go.Proofs.YtaeeepmjghgflaaGreatDoor.printKnown
