/- slices.Insert of texts: a call of which all is known, by the guide's contracts at this program's numbers. -/
import Derived.Test.YthengnnefeiimaaEvXd
import Derived.Test.YthengnnefeiimaaLayI
namespace Go.Proofs.Ythengnnefeiimaa.insKnown
open Go Go.Proofs.Ythengnnefeiimaa.Ev

theorem known : XOk Try.prog 27 (insertF 9) := insert_ok Try.insL

end Go.Proofs.Ythengnnefeiimaa.insKnown
