/- What the program's sum of some bytes is: a part of the statement MacSame. The kernel reckons the run. -/
import Derived.Test.YtnaaamookaghpaaDoorMacBK1
set_option maxRecDepth 100000
namespace Go.Proofs.YtnaaamookaghpaaDoor.macB
open Ev
theorem mix : Tryd.prog.follows .mixedOrders = true := Checked.mixed Tryd.checked
theorem c2 : Ev.runA Tryd.prog 17 39800 m1 = some (.agg [.int .u8 91, .int .u8 220, .int .u8 193, .int .u8 70, .int .u8 191, .int .u8 96, .int .u8 117, .int .u8 78, .int .u8 106, .int .u8 4, .int .u8 36, .int .u8 38, .int .u8 8, .int .u8 149, .int .u8 117, .int .u8 199, .int .u8 90, .int .u8 0, .int .u8 63, .int .u8 8, .int .u8 157, .int .u8 39, .int .u8 57, .int .u8 131, .int .u8 157, .int .u8 236, .int .u8 88, .int .u8 185, .int .u8 100, .int .u8 236, .int .u8 56, .int .u8 67]) := by kernel_rfl
theorem sum : Goal Tryd.prog 0 17 (fun v _ => v = (.agg [.int .u8 91, .int .u8 220, .int .u8 193, .int .u8 70, .int .u8 191, .int .u8 96, .int .u8 117, .int .u8 78, .int .u8 106, .int .u8 4, .int .u8 36, .int .u8 38, .int .u8 8, .int .u8 149, .int .u8 117, .int .u8 199, .int .u8 90, .int .u8 0, .int .u8 63, .int .u8 8, .int .u8 157, .int .u8 39, .int .u8 57, .int .u8 131, .int .u8 157, .int .u8 236, .int .u8 88, .int .u8 185, .int .u8 100, .int .u8 236, .int .u8 56, .int .u8 67])) (startM Tryd.prog 17 [.str [22, 57, 58, 57, 92, 92, 92, 92, 92, 92, 92, 92, 92, 92, 92, 92, 92, 92, 92, 92, 92, 92, 92, 92, 92, 92, 92, 92, 92, 92, 92, 92, 92, 92, 92, 92, 92, 92, 92, 92, 92, 92, 92, 92, 92, 92, 92, 92, 92, 92, 92, 92, 92, 92, 92, 92, 92, 92, 92, 92, 92, 92, 92, 92, 162, 228, 133, 134, 61, 39, 249, 216, 100, 172, 141, 128, 36, 50, 161, 237, 71, 125, 140, 76, 111, 52, 157, 22, 212, 231, 233, 23, 198, 41, 202, 215]] macSame.glob) :=
  Goal.runN mix c1 (Goal.ofRun mix c2 fun _ => rfl)
end Go.Proofs.YtnaaamookaghpaaDoor.macB
