/- What the program's sum of some bytes is: a part of the statement MacSame. The kernel reckons the run. -/
import Derived.Test.YtnaaamookaghpaaDoorMacAK1
set_option maxRecDepth 100000
namespace Go.Proofs.YtnaaamookaghpaaDoor.macA
open Ev
theorem mix : Tryd.prog.follows .mixedOrders = true := Checked.mixed Tryd.checked
theorem c2 : Ev.runA Tryd.prog 17 39800 m1 = some (.agg [.int .u8 162, .int .u8 228, .int .u8 133, .int .u8 134, .int .u8 61, .int .u8 39, .int .u8 249, .int .u8 216, .int .u8 100, .int .u8 172, .int .u8 141, .int .u8 128, .int .u8 36, .int .u8 50, .int .u8 161, .int .u8 237, .int .u8 71, .int .u8 125, .int .u8 140, .int .u8 76, .int .u8 111, .int .u8 52, .int .u8 157, .int .u8 22, .int .u8 212, .int .u8 231, .int .u8 233, .int .u8 23, .int .u8 198, .int .u8 41, .int .u8 202, .int .u8 215]) := by kernel_rfl
theorem sum : Goal Tryd.prog 0 17 (fun v _ => v = (.agg [.int .u8 162, .int .u8 228, .int .u8 133, .int .u8 134, .int .u8 61, .int .u8 39, .int .u8 249, .int .u8 216, .int .u8 100, .int .u8 172, .int .u8 141, .int .u8 128, .int .u8 36, .int .u8 50, .int .u8 161, .int .u8 237, .int .u8 71, .int .u8 125, .int .u8 140, .int .u8 76, .int .u8 111, .int .u8 52, .int .u8 157, .int .u8 22, .int .u8 212, .int .u8 231, .int .u8 233, .int .u8 23, .int .u8 198, .int .u8 41, .int .u8 202, .int .u8 215])) (startM Tryd.prog 17 [.str [124, 83, 80, 83, 54, 54, 54, 54, 54, 54, 54, 54, 54, 54, 54, 54, 54, 54, 54, 54, 54, 54, 54, 54, 54, 54, 54, 54, 54, 54, 54, 54, 54, 54, 54, 54, 54, 54, 54, 54, 54, 54, 54, 54, 54, 54, 54, 54, 54, 54, 54, 54, 54, 54, 54, 54, 54, 54, 54, 54, 54, 54, 54, 54, 119, 104, 97, 116, 32, 100, 111, 32, 121, 97, 32, 119, 97, 110, 116, 32, 102, 111, 114, 32, 110, 111, 116, 104, 105, 110, 103, 63]] macSame.glob) :=
  Goal.runN mix c1 (Goal.ofRun mix c2 fun _ => rfl)
end Go.Proofs.YtnaaamookaghpaaDoor.macA
