/- What the row of SessKnown lists, for the evaluator. -/
import Derived.Test.YtaingdfjcabchaaDoorRows
import Derived.Test.YtaingdfjcabchaaDoorEvX
import Derived.MakeChecks
import Derived.ProofKit
import Derived.LaidMore
import Derived.Lay
import Derived.Stop.Joined
set_option maxRecDepth 100000
namespace Go.Proofs.YtaingdfjcabchaaDoor.sessKnown
open Ev

noncomputable def glob : T (T AV) := .leaf

theorem globs {W : World} (_h : laidMetH Tryd.prog [("lodger/sha.roundWords", Rows.laid_lodger_sha_roundWords)] W) : Globs glob W := by
  intro g c e; cases e

/-- A world that holds what is listed. -/
noncomputable def doorW (os : Os) : World := World.laidAll Tryd.prog os [("lodger/sha.roundWords", Rows.laid_lodger_sha_roundWords)]
theorem doorW_os (os : Os) : (doorW os).os = os := World.laidAll_os _ _ _

/-- The door's own heap meets the condition. -/
theorem door_met (os : Os) (args : Array Value) : laidMetH Tryd.prog [("lodger/sha.roundWords", Rows.laid_lodger_sha_roundWords)] ((doorW os).forCall (fun _ _ => 0) ⟨#[], args, []⟩).memory :=
  by rw [MakeChecks.laidMetH_plain _ _ _ (by kernel_rfl)]; exact laidMet_laidAll _ (by kernel_rfl) (by kernel_rfl)
end Go.Proofs.YtaingdfjcabchaaDoor.sessKnown
