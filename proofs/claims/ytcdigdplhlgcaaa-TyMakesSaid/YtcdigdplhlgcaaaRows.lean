/-
  No cell of these rows narrows 'for every input' (looked for: loops, veiled, ifaces, maps, wideKeys, modest, calm, conditions, laid).
  DERIVED. THE GIVEN ROWS OF THIS SEAT. 8 by the template 'for every input the law returns true; each argument reads behind the call as it read before'; 0 by the template 'total and deterministic' (their statements: YtcdigdplhlgcaaaTotals.lean).
  GIVEN WITH THE SEED: the statements are not yours to turn. If you find one false, say at which input.
  Laid BY PROGRAM, IN A SANDBOX (cutbox-rows.mjs): the forced cells as the released guide's own fill.sh prints them over the translation c27ec3cc9a9ca21c… (all of the seat's roots in one cut). By AI agents, Wed Nov 11 2026. No macro, syntax, notation, axiom, sorry.
-/
import Derived.Test.YtcdigdplhlgcaaaChecked
import GoSem.Claim
import GoSem.ClaimJoined
import GoSem.ClaimMapViews
import Derived.JoinedTies
import Derived.KernelRfl
namespace Go.Proofs.Ytcdigdplhlgcaaa
/- THE CELL 'sum', in the pinned program and in every row, IS THE sha256 OF THE DUMP (.gsa) THAT YtcdigdplhlgcaaaProg.lean LOADS. Nothing in Lean hashes anything: it is a label: what it is worth is what the hold of that sum in a sandbox is worth. -/
noncomputable def Try.pinned : Pinned := { name := "ytcdigdplhlgcaaa", sum := "c27ec3cc9a9ca21c3378dfd0d3b3e160914c8da2d7afe426eb3c6694feeb6465", checked := Try.checked }
namespace Rows
def none {H : Type} : Left H := { results := [], args := [] }

/-- 'lodgerlaw12.TyLooks': WHATEVER THE INPUT: true; the input reads as it did. -/
def tyLooksSpec : ChangeSpec := { name := "tyLooks", fn := fun _ => fun
  | [d1, d2] => { results := [.lit (.bool true)], args := [d1, d2] }
  | _ => none }
def tyLooksRow : OpenClaim := { program := "ytcdigdplhlgcaaa", sum := "c27ec3cc9a9ca21c3378dfd0d3b3e160914c8da2d7afe426eb3c6694feeb6465", func := "lodger/lodgerlaw12.TyLooks", spec := "tyLooks", inPlace := ["internal/abi.NoEscape"], unfollowed := true, recurses := true, apart := false }
def TyLooksSaid : Prop := tyLooksRow.holds Try.pinned (OpenSpec.ofChange tyLooksSpec)

/-- ITS FALSE NEIGHBOUR: 'it returns false'. Refute it at one input. -/
def tyLooksWrong : ChangeSpec := { name := "tyLooks", fn := fun _ => fun
  | [d1, d2] => { results := [.lit (.bool false)], args := [d1, d2] }
  | _ => none }
def TyLooksWrongFalsely : Prop := tyLooksRow.holds Try.pinned (OpenSpec.ofChange tyLooksWrong)

/-- 'lodgerlaw12.TyMakes': WHATEVER THE INPUT: true; the input reads as it did. -/
def tyMakesSpec : ChangeSpec := { name := "tyMakes", fn := fun _ => fun
  | [d1, d2] => { results := [.lit (.bool true)], args := [d1, d2] }
  | _ => none }
def tyMakesRow : OpenClaim := { program := "ytcdigdplhlgcaaa", sum := "c27ec3cc9a9ca21c3378dfd0d3b3e160914c8da2d7afe426eb3c6694feeb6465", func := "lodger/lodgerlaw12.TyMakes", spec := "tyMakes", inPlace := ["internal/abi.NoEscape"], unfollowed := true, recurses := true, apart := false }
def TyMakesSaid : Prop := tyMakesRow.holds Try.pinned (OpenSpec.ofChange tyMakesSpec)

/-- ITS FALSE NEIGHBOUR: 'it returns false'. Refute it at one input. -/
def tyMakesWrong : ChangeSpec := { name := "tyMakes", fn := fun _ => fun
  | [d1, d2] => { results := [.lit (.bool false)], args := [d1, d2] }
  | _ => none }
def TyMakesWrongFalsely : Prop := tyMakesRow.holds Try.pinned (OpenSpec.ofChange tyMakesWrong)

/-- 'lodgerlaw12.TyTexts': WHATEVER THE INPUT: true; the input reads as it did. -/
def tyTextsSpec : ChangeSpec := { name := "tyTexts", fn := fun _ => fun
  | [d] => { results := [.lit (.bool true)], args := [d] }
  | _ => none }
def tyTextsRow : OpenClaim := { program := "ytcdigdplhlgcaaa", sum := "c27ec3cc9a9ca21c3378dfd0d3b3e160914c8da2d7afe426eb3c6694feeb6465", func := "lodger/lodgerlaw12.TyTexts", spec := "tyTexts", inPlace := ["internal/abi.NoEscape"], unfollowed := true, recurses := true, apart := false }
def TyTextsSaid : Prop := tyTextsRow.holds Try.pinned (OpenSpec.ofChange tyTextsSpec)

/-- ITS FALSE NEIGHBOUR: 'it returns false'. Refute it at one input. -/
def tyTextsWrong : ChangeSpec := { name := "tyTexts", fn := fun _ => fun
  | [d] => { results := [.lit (.bool false)], args := [d] }
  | _ => none }
def TyTextsWrongFalsely : Prop := tyTextsRow.holds Try.pinned (OpenSpec.ofChange tyTextsWrong)

/-- 'lodgerlaw12.TyUnions': WHATEVER THE INPUT: true; the input reads as it did. -/
def tyUnionsSpec : ChangeSpec := { name := "tyUnions", fn := fun _ => fun
  | [d1, d2] => { results := [.lit (.bool true)], args := [d1, d2] }
  | _ => none }
def tyUnionsRow : OpenClaim := { program := "ytcdigdplhlgcaaa", sum := "c27ec3cc9a9ca21c3378dfd0d3b3e160914c8da2d7afe426eb3c6694feeb6465", func := "lodger/lodgerlaw12.TyUnions", spec := "tyUnions", inPlace := ["internal/abi.NoEscape"], unfollowed := true, recurses := true, apart := false }
def TyUnionsSaid : Prop := tyUnionsRow.holds Try.pinned (OpenSpec.ofChange tyUnionsSpec)

/-- ITS FALSE NEIGHBOUR: 'it returns false'. Refute it at one input. -/
def tyUnionsWrong : ChangeSpec := { name := "tyUnions", fn := fun _ => fun
  | [d1, d2] => { results := [.lit (.bool false)], args := [d1, d2] }
  | _ => none }
def TyUnionsWrongFalsely : Prop := tyUnionsRow.holds Try.pinned (OpenSpec.ofChange tyUnionsWrong)

/-- 'lodgerlaw12.TyRecords': WHATEVER THE INPUT: true; the input reads as it did. -/
def tyRecordsSpec : ChangeSpec := { name := "tyRecords", fn := fun _ => fun
  | [d1, d2] => { results := [.lit (.bool true)], args := [d1, d2] }
  | _ => none }
def tyRecordsRow : OpenClaim := { program := "ytcdigdplhlgcaaa", sum := "c27ec3cc9a9ca21c3378dfd0d3b3e160914c8da2d7afe426eb3c6694feeb6465", func := "lodger/lodgerlaw12.TyRecords", spec := "tyRecords", inPlace := ["internal/abi.NoEscape"], unfollowed := true, recurses := true, apart := false }
def TyRecordsSaid : Prop := tyRecordsRow.holds Try.pinned (OpenSpec.ofChange tyRecordsSpec)

/-- ITS FALSE NEIGHBOUR: 'it returns false'. Refute it at one input. -/
def tyRecordsWrong : ChangeSpec := { name := "tyRecords", fn := fun _ => fun
  | [d1, d2] => { results := [.lit (.bool false)], args := [d1, d2] }
  | _ => none }
def TyRecordsWrongFalsely : Prop := tyRecordsRow.holds Try.pinned (OpenSpec.ofChange tyRecordsWrong)

/-- 'lodgerlaw13.SubTells': WHATEVER THE INPUT: true; the input reads as it did. -/
def subTellsSpec : ChangeSpec := { name := "subTells", fn := fun _ => fun
  | [d1, d2] => { results := [.lit (.bool true)], args := [d1, d2] }
  | _ => none }
def subTellsRow : OpenClaim := { program := "ytcdigdplhlgcaaa", sum := "c27ec3cc9a9ca21c3378dfd0d3b3e160914c8da2d7afe426eb3c6694feeb6465", func := "lodger/lodgerlaw13.SubTells", spec := "subTells", inPlace := ["internal/abi.NoEscape"], unfollowed := true, recurses := true, apart := false }
def SubTellsSaid : Prop := subTellsRow.holds Try.pinned (OpenSpec.ofChange subTellsSpec)

/-- ITS FALSE NEIGHBOUR: 'it returns false'. Refute it at one input. -/
def subTellsWrong : ChangeSpec := { name := "subTells", fn := fun _ => fun
  | [d1, d2] => { results := [.lit (.bool false)], args := [d1, d2] }
  | _ => none }
def SubTellsWrongFalsely : Prop := subTellsRow.holds Try.pinned (OpenSpec.ofChange subTellsWrong)

/-- 'lodgerlaw13.SubSelf': WHATEVER THE INPUT: true; the input reads as it did. -/
def subSelfSpec : ChangeSpec := { name := "subSelf", fn := fun _ => fun
  | [d1, d2] => { results := [.lit (.bool true)], args := [d1, d2] }
  | _ => none }
def subSelfRow : OpenClaim := { program := "ytcdigdplhlgcaaa", sum := "c27ec3cc9a9ca21c3378dfd0d3b3e160914c8da2d7afe426eb3c6694feeb6465", func := "lodger/lodgerlaw13.SubSelf", spec := "subSelf", inPlace := ["internal/abi.NoEscape"], unfollowed := true, recurses := true, apart := false }
def SubSelfSaid : Prop := subSelfRow.holds Try.pinned (OpenSpec.ofChange subSelfSpec)

/-- ITS FALSE NEIGHBOUR: 'it returns false'. Refute it at one input. -/
def subSelfWrong : ChangeSpec := { name := "subSelf", fn := fun _ => fun
  | [d1, d2] => { results := [.lit (.bool false)], args := [d1, d2] }
  | _ => none }
def SubSelfWrongFalsely : Prop := subSelfRow.holds Try.pinned (OpenSpec.ofChange subSelfWrong)

/-- 'lodgerlaw13.SubThrough': WHATEVER THE INPUT: true; the input reads as it did. -/
def subThroughSpec : ChangeSpec := { name := "subThrough", fn := fun _ => fun
  | [d1, d2, d3] => { results := [.lit (.bool true)], args := [d1, d2, d3] }
  | _ => none }
def subThroughRow : OpenClaim := { program := "ytcdigdplhlgcaaa", sum := "c27ec3cc9a9ca21c3378dfd0d3b3e160914c8da2d7afe426eb3c6694feeb6465", func := "lodger/lodgerlaw13.SubThrough", spec := "subThrough", inPlace := ["internal/abi.NoEscape"], unfollowed := true, recurses := true, apart := false }
def SubThroughSaid : Prop := subThroughRow.holds Try.pinned (OpenSpec.ofChange subThroughSpec)

/-- ITS FALSE NEIGHBOUR: 'it returns false'. Refute it at one input. -/
def subThroughWrong : ChangeSpec := { name := "subThrough", fn := fun _ => fun
  | [d1, d2, d3] => { results := [.lit (.bool false)], args := [d1, d2, d3] }
  | _ => none }
def SubThroughWrongFalsely : Prop := subThroughRow.holds Try.pinned (OpenSpec.ofChange subThroughWrong)

/- THE SECOND FORM. 'bulk': how many values and letters a reading holds, each counted each time it is reached (what is shared counts as often as it is met; a slice's spare places count too). A statement '..UptoSaid' is the law's where the arguments, and the package variables that the reading takes, are together of bulk at most 1048576: NARROWER than '..Said'. Prove '..Said' where nothing that the law and all that it calls make is longer than what came in: it says more and counts as full. Else prove '..UptoSaid'. A law counts once. -/
mutual
def uptoBulk {H : Type} : DataW H → Nat
  | .lit (.string bytes) => bytes.length + 1
  | .lit _ => 1
  | .nil => 1
  | .ptr d => uptoBulk d + 1
  | .slice elems spare => uptoBulkAll elems + uptoBulkAll spare + 1
  | .agg parts => uptoBulkAll parts + 1
  | .iface _ d => uptoBulk d + 1
  | .map entries => uptoBulkEntries entries + 1
  | .held _ => 1
def uptoBulkAll {H : Type} : List (DataW H) → Nat
  | [] => 0
  | d :: r => uptoBulk d + uptoBulkAll r
def uptoBulkEntries {H : Type} : List (Lit × DataW H) → Nat
  | [] => 0
  | x :: r => uptoBulkEntry x + uptoBulkEntries r
def uptoBulkEntry {H : Type} : Lit × DataW H → Nat
  | (.string bytes, d) => bytes.length + uptoBulk d + 1
  | (_, d) => uptoBulk d + 1
 end
def uptoSmall : (H : Type) → List (DataW H) → Bool := fun _ ds => decide (uptoBulkAll ds ≤ 1048576)
def OpenSpec.upto (s : _root_.Go.ChangeSpec) : _root_.Go.OpenSpec := { _root_.Go.OpenSpec.ofChange s with cond := some uptoSmall }

/-- 'lodgerlaw12.TyLooks', WHERE WHAT IT READS IS OF BULK AT MOST 1048576: true; the input reads as it did. -/
def tyLooksUptoRow : OpenClaim := { program := "ytcdigdplhlgcaaa", sum := "c27ec3cc9a9ca21c3378dfd0d3b3e160914c8da2d7afe426eb3c6694feeb6465", func := "lodger/lodgerlaw12.TyLooks", spec := "tyLooks", inPlace := ["internal/abi.NoEscape"], unfollowed := true, recurses := true, apart := false, narrowed := true }
def TyLooksUptoSaid : Prop := tyLooksUptoRow.holds Try.pinned (OpenSpec.upto tyLooksSpec)

/-- 'lodgerlaw12.TyMakes', WHERE WHAT IT READS IS OF BULK AT MOST 1048576: true; the input reads as it did. -/
def tyMakesUptoRow : OpenClaim := { program := "ytcdigdplhlgcaaa", sum := "c27ec3cc9a9ca21c3378dfd0d3b3e160914c8da2d7afe426eb3c6694feeb6465", func := "lodger/lodgerlaw12.TyMakes", spec := "tyMakes", inPlace := ["internal/abi.NoEscape"], unfollowed := true, recurses := true, apart := false, narrowed := true }
def TyMakesUptoSaid : Prop := tyMakesUptoRow.holds Try.pinned (OpenSpec.upto tyMakesSpec)

/-- 'lodgerlaw12.TyTexts', WHERE WHAT IT READS IS OF BULK AT MOST 1048576: true; the input reads as it did. -/
def tyTextsUptoRow : OpenClaim := { program := "ytcdigdplhlgcaaa", sum := "c27ec3cc9a9ca21c3378dfd0d3b3e160914c8da2d7afe426eb3c6694feeb6465", func := "lodger/lodgerlaw12.TyTexts", spec := "tyTexts", inPlace := ["internal/abi.NoEscape"], unfollowed := true, recurses := true, apart := false, narrowed := true }
def TyTextsUptoSaid : Prop := tyTextsUptoRow.holds Try.pinned (OpenSpec.upto tyTextsSpec)

/-- 'lodgerlaw12.TyUnions', WHERE WHAT IT READS IS OF BULK AT MOST 1048576: true; the input reads as it did. -/
def tyUnionsUptoRow : OpenClaim := { program := "ytcdigdplhlgcaaa", sum := "c27ec3cc9a9ca21c3378dfd0d3b3e160914c8da2d7afe426eb3c6694feeb6465", func := "lodger/lodgerlaw12.TyUnions", spec := "tyUnions", inPlace := ["internal/abi.NoEscape"], unfollowed := true, recurses := true, apart := false, narrowed := true }
def TyUnionsUptoSaid : Prop := tyUnionsUptoRow.holds Try.pinned (OpenSpec.upto tyUnionsSpec)

/-- 'lodgerlaw12.TyRecords', WHERE WHAT IT READS IS OF BULK AT MOST 1048576: true; the input reads as it did. -/
def tyRecordsUptoRow : OpenClaim := { program := "ytcdigdplhlgcaaa", sum := "c27ec3cc9a9ca21c3378dfd0d3b3e160914c8da2d7afe426eb3c6694feeb6465", func := "lodger/lodgerlaw12.TyRecords", spec := "tyRecords", inPlace := ["internal/abi.NoEscape"], unfollowed := true, recurses := true, apart := false, narrowed := true }
def TyRecordsUptoSaid : Prop := tyRecordsUptoRow.holds Try.pinned (OpenSpec.upto tyRecordsSpec)

/-- 'lodgerlaw13.SubTells', WHERE WHAT IT READS IS OF BULK AT MOST 1048576: true; the input reads as it did. -/
def subTellsUptoRow : OpenClaim := { program := "ytcdigdplhlgcaaa", sum := "c27ec3cc9a9ca21c3378dfd0d3b3e160914c8da2d7afe426eb3c6694feeb6465", func := "lodger/lodgerlaw13.SubTells", spec := "subTells", inPlace := ["internal/abi.NoEscape"], unfollowed := true, recurses := true, apart := false, narrowed := true }
def SubTellsUptoSaid : Prop := subTellsUptoRow.holds Try.pinned (OpenSpec.upto subTellsSpec)

/-- 'lodgerlaw13.SubSelf', WHERE WHAT IT READS IS OF BULK AT MOST 1048576: true; the input reads as it did. -/
def subSelfUptoRow : OpenClaim := { program := "ytcdigdplhlgcaaa", sum := "c27ec3cc9a9ca21c3378dfd0d3b3e160914c8da2d7afe426eb3c6694feeb6465", func := "lodger/lodgerlaw13.SubSelf", spec := "subSelf", inPlace := ["internal/abi.NoEscape"], unfollowed := true, recurses := true, apart := false, narrowed := true }
def SubSelfUptoSaid : Prop := subSelfUptoRow.holds Try.pinned (OpenSpec.upto subSelfSpec)

/-- 'lodgerlaw13.SubThrough', WHERE WHAT IT READS IS OF BULK AT MOST 1048576: true; the input reads as it did. -/
def subThroughUptoRow : OpenClaim := { program := "ytcdigdplhlgcaaa", sum := "c27ec3cc9a9ca21c3378dfd0d3b3e160914c8da2d7afe426eb3c6694feeb6465", func := "lodger/lodgerlaw13.SubThrough", spec := "subThrough", inPlace := ["internal/abi.NoEscape"], unfollowed := true, recurses := true, apart := false, narrowed := true }
def SubThroughUptoSaid : Prop := subThroughUptoRow.holds Try.pinned (OpenSpec.upto subThroughSpec)

end Rows
end Go.Proofs.Ytcdigdplhlgcaaa
