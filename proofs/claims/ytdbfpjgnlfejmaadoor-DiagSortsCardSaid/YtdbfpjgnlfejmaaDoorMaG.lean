/- What the rows list, for the evaluator: one package variable, a row of 14 values. -/
import Derived.Test.YtdbfpjgnlfejmaaDoorRows
import Derived.Test.YtdbfpjgnlfejmaaDoorEvX
import Derived.MakeChecks
import Derived.ProofKit
import Derived.LaidMore
import Derived.Stop.Joined
set_option maxRecDepth 100000
namespace Go.Proofs.YtdbfpjgnlfejmaaDoor.mq
open Ev

def lits : List Lit := [.string [], .string [115, 121, 110, 116, 97, 120], .string [99, 121, 99, 108, 101], .string [105, 109, 112, 111, 114, 116], .string [116, 119, 105, 99, 101], .string [116, 121, 112, 101], .string [110, 97, 109, 101], .string [102, 105, 101, 108, 100], .string [97, 114, 105, 116, 121], .string [99, 97, 108, 108], .string [119, 114, 111, 110, 103], .string [114, 111, 108, 108], .string [115, 105, 122, 101], .string [101, 113, 117, 97, 108]]
noncomputable def GW : T (T AV) := globOf 0 lits

theorem gNum : Tryd.prog.globalNamed "lodger/diag.words" = some 0 := by kernel_rfl
theorem gType : (Tryd.prog.globals[0]?).map (·.type) = some 77 := by kernel_rfl

theorem globs {W : World} (h : laidMetH Tryd.prog [("lodger/diag.words", Rows.laid_lodger_diag_words)] W) : Globs GW W := by
  rw [MakeChecks.laidMetH_plain _ _ _ (by kernel_rfl)] at h
  obtain ⟨ps, ⟨g0, t0, cs0, f0, p0, q0, hg0, ht0, hv0, hd0, _⟩, _, _⟩ := h
  obtain rfl := Option.some.inj (gNum.symm.trans hg0)
  obtain rfl := Option.some.inj (gType.symm.trans ht0)
  exact globs_one hg0 hv0 (array_cells (lits := lits) (n := 14) (e := 9) (by kernel_rfl) (.inl (by kernel_rfl)) (by kernel_rfl) (by kernel_rfl) hd0)

/-- The door's own heap meets the condition. -/
theorem door_met (os : Os) (args : Array Value) : laidMetH Tryd.prog [("lodger/diag.words", Rows.laid_lodger_diag_words)] ((World.doorLaid Tryd.prog 400 os).forCall (fun _ _ => 0) ⟨#[], args, []⟩).memory :=
  laidMetH_of_parts3 (fuel := 8) (laidMet_of_run' 8 (by kernel_rfl) (by kernel_rfl)) (by kernel_rfl) (by kernel_rfl)
end Go.Proofs.YtdbfpjgnlfejmaaDoor.mq
