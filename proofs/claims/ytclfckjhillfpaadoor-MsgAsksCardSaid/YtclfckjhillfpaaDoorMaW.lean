/- The chapter's rows of requests and answers hold: a closed run. -/
import Derived.Test.YtclfckjhillfpaaDoorMaE
set_option maxRecDepth 100000
set_option linter.unusedVariables false
namespace Go.Proofs.YtclfckjhillfpaaDoor.mq
open Go Ev

theorem wk (R : AV → Prop) (_K : AM → Prop) : Obl P 9 (fun v _ => R v) 0 _K [.run 9164, .done] ((startM P 9 [] GW)) = ((R (.bool true))) := by kernel_rfl

end Go.Proofs.YtclfckjhillfpaaDoor.mq
