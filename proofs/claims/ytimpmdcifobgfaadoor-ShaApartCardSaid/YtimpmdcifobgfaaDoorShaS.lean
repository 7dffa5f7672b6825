/- What the program's sum of three letters is: a part of the statements ShaHexes and ShaApart. The kernel reckons the run. -/
import Derived.Test.YtimpmdcifobgfaaDoorEvSc
import Derived.Test.YtimpmdcifobgfaaDoorShaG
set_option maxRecDepth 100000
namespace Go.Proofs.YtimpmdcifobgfaaDoor.shaCommon
open Ev
theorem mix : Tryd.prog.follows .mixedOrders = true := Checked.mixed Tryd.checked
theorem ran : Ev.runA Tryd.prog 9 43000 (startM Tryd.prog 9 [.str [97, 98, 99]] glob) = some (.agg [.int .u8 186, .int .u8 120, .int .u8 22, .int .u8 191, .int .u8 143, .int .u8 1, .int .u8 207, .int .u8 234, .int .u8 65, .int .u8 65, .int .u8 64, .int .u8 222, .int .u8 93, .int .u8 174, .int .u8 34, .int .u8 35, .int .u8 176, .int .u8 3, .int .u8 97, .int .u8 163, .int .u8 150, .int .u8 23, .int .u8 122, .int .u8 156, .int .u8 180, .int .u8 16, .int .u8 255, .int .u8 97, .int .u8 242, .int .u8 0, .int .u8 21, .int .u8 173]) := by kernel_rfl
theorem sum : Goal Tryd.prog 0 9 (fun v _ => v = (.agg [.int .u8 186, .int .u8 120, .int .u8 22, .int .u8 191, .int .u8 143, .int .u8 1, .int .u8 207, .int .u8 234, .int .u8 65, .int .u8 65, .int .u8 64, .int .u8 222, .int .u8 93, .int .u8 174, .int .u8 34, .int .u8 35, .int .u8 176, .int .u8 3, .int .u8 97, .int .u8 163, .int .u8 150, .int .u8 23, .int .u8 122, .int .u8 156, .int .u8 180, .int .u8 16, .int .u8 255, .int .u8 97, .int .u8 242, .int .u8 0, .int .u8 21, .int .u8 173])) (startM Tryd.prog 9 [.str [97, 98, 99]] glob) := Goal.ofRun mix ran fun _ => rfl
end Go.Proofs.YtimpmdcifobgfaaDoor.shaCommon
