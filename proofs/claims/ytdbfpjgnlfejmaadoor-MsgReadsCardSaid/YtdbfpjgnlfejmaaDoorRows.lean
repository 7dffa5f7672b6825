/-
  NARROWER THAN 'FOR EVERY INPUT', by the rows' own cells (each row's printed sentence says how): DiagSorts: laid · DiagReads: laid · DiagBack: laid · DiagOrder: laid · MsgReads: laid · MsgAnswers: laid · MsgBack: laid · MsgOnce: laid.
  DERIVED. THE GIVEN ROWS OF THIS SEAT. 8 by the template 'for every input the law returns true; each argument reads behind the call as it read before'; 0 by the template 'total and deterministic' (their statements: YtdbfpjgnlfejmaaDoorTotals.lean).
  GIVEN WITH THE SEED: the statements are not yours to turn. If you find one false, say at which input.
  Laid BY PROGRAM, IN A SANDBOX (cutbox-rows.mjs): the forced cells as the released guide's own fill.sh prints them over the translation 1146d4afc53bdc8e… (all of the seat's roots in one cut). By AI agents, Wed Nov 11 2026. No macro, syntax, notation, axiom, sorry.
-/
import Derived.Test.YtdbfpjgnlfejmaaDoorChecked
import GoSem.Claim
import GoSem.ClaimJoined
import GoSem.ClaimMapViews
import Derived.JoinedTies
import Derived.KernelRfl
namespace Go.Proofs.YtdbfpjgnlfejmaaDoor
/- THE CELL 'sum', in the pinned program and in every row, IS THE sha256 OF THE DUMP (.gsa) THAT YtdbfpjgnlfejmaaDoorProg.lean LOADS. Nothing in Lean hashes anything: it is a label: what it is worth is what the hold of that sum in a sandbox is worth. -/
noncomputable def Tryd.pinned : Pinned := { name := "ytdbfpjgnlfejmaadoor", sum := "1146d4afc53bdc8e1a34a553659167b6ba11b57a613f2a1fc0b2146686779ae0", checked := Tryd.checked }
namespace Rows
def none {H : Type} : Left H := { results := [], args := [] }

/- WHAT THE LISTED PACKAGE-LEVEL VARIABLES READ AS WHEN THE CALL BEGINS. Each datum BY PROGRAM (the guide's laid-datum.mjs) off the statement by which the dump's own 'gosem.cut.vars' lays the variable. In a bare row this is a premise. The card (YtdbfpjgnlfejmaaDoorCards.lean) ties it to the program's text. -/
def laid_lodger_diag_words {H : Type} : DataW H := .agg [.lit (.string []), .lit (.string [115, 121, 110, 116, 97, 120]), .lit (.string [99, 121, 99, 108, 101]), .lit (.string [105, 109, 112, 111, 114, 116]), .lit (.string [116, 119, 105, 99, 101]), .lit (.string [116, 121, 112, 101]), .lit (.string [110, 97, 109, 101]), .lit (.string [102, 105, 101, 108, 100]), .lit (.string [97, 114, 105, 116, 121]), .lit (.string [99, 97, 108, 108]), .lit (.string [119, 114, 111, 110, 103]), .lit (.string [114, 111, 108, 108]), .lit (.string [115, 105, 122, 101]), .lit (.string [101, 113, 117, 97, 108])]

/-- 'lodgerlaw26.DiagSorts': WHATEVER THE INPUT: true; the input reads as it did. -/
def diagSortsSpec : ChangeSpec := { name := "diagSorts", fn := fun _ => fun
  | [d1, d2] => { results := [.lit (.bool true)], args := [d1, d2] }
  | _ => none }
def diagSortsRow : OpenClaim := { program := "ytdbfpjgnlfejmaadoor", sum := "1146d4afc53bdc8e1a34a553659167b6ba11b57a613f2a1fc0b2146686779ae0", func := "lodger/lodgerlaw26.DiagSorts", spec := "diagSorts", inPlace := ["internal/bytealg.abigen_runtime_cmpstring", "internal/abi.NoEscape"], unfollowed := true, recurses := true, named := ["lodger/diag.words"], apart := false, laid := [("lodger/diag.words", laid_lodger_diag_words)] }
def DiagSortsSaid : Prop := diagSortsRow.holds Tryd.pinned (OpenSpec.ofChange diagSortsSpec)

/-- ITS FALSE NEIGHBOUR: 'it returns false'. Refute it at one input. -/
def diagSortsWrong : ChangeSpec := { name := "diagSorts", fn := fun _ => fun
  | [d1, d2] => { results := [.lit (.bool false)], args := [d1, d2] }
  | _ => none }
def DiagSortsWrongFalsely : Prop := diagSortsRow.holds Tryd.pinned (OpenSpec.ofChange diagSortsWrong)

/-- 'lodgerlaw26.DiagReads': WHATEVER THE INPUT: true; the input reads as it did. -/
def diagReadsSpec : ChangeSpec := { name := "diagReads", fn := fun _ => fun
  | [d] => { results := [.lit (.bool true)], args := [d] }
  | _ => none }
def diagReadsRow : OpenClaim := { program := "ytdbfpjgnlfejmaadoor", sum := "1146d4afc53bdc8e1a34a553659167b6ba11b57a613f2a1fc0b2146686779ae0", func := "lodger/lodgerlaw26.DiagReads", spec := "diagReads", inPlace := ["internal/bytealg.abigen_runtime_cmpstring", "internal/abi.NoEscape"], unfollowed := true, recurses := true, named := ["lodger/diag.words"], apart := false, laid := [("lodger/diag.words", laid_lodger_diag_words)] }
def DiagReadsSaid : Prop := diagReadsRow.holds Tryd.pinned (OpenSpec.ofChange diagReadsSpec)

/-- ITS FALSE NEIGHBOUR: 'it returns false'. Refute it at one input. -/
def diagReadsWrong : ChangeSpec := { name := "diagReads", fn := fun _ => fun
  | [d] => { results := [.lit (.bool false)], args := [d] }
  | _ => none }
def DiagReadsWrongFalsely : Prop := diagReadsRow.holds Tryd.pinned (OpenSpec.ofChange diagReadsWrong)

/-- 'lodgerlaw26.DiagBack': WHATEVER THE INPUT: true; the input reads as it did. -/
def diagBackSpec : ChangeSpec := { name := "diagBack", fn := fun _ => fun
  | [d1, d2] => { results := [.lit (.bool true)], args := [d1, d2] }
  | _ => none }
def diagBackRow : OpenClaim := { program := "ytdbfpjgnlfejmaadoor", sum := "1146d4afc53bdc8e1a34a553659167b6ba11b57a613f2a1fc0b2146686779ae0", func := "lodger/lodgerlaw26.DiagBack", spec := "diagBack", inPlace := ["internal/bytealg.abigen_runtime_cmpstring", "internal/abi.NoEscape"], unfollowed := true, recurses := true, named := ["lodger/diag.words"], apart := false, laid := [("lodger/diag.words", laid_lodger_diag_words)] }
def DiagBackSaid : Prop := diagBackRow.holds Tryd.pinned (OpenSpec.ofChange diagBackSpec)

/-- ITS FALSE NEIGHBOUR: 'it returns false'. Refute it at one input. -/
def diagBackWrong : ChangeSpec := { name := "diagBack", fn := fun _ => fun
  | [d1, d2] => { results := [.lit (.bool false)], args := [d1, d2] }
  | _ => none }
def DiagBackWrongFalsely : Prop := diagBackRow.holds Tryd.pinned (OpenSpec.ofChange diagBackWrong)

/-- 'lodgerlaw26.DiagOrder': WHATEVER THE INPUT: true; the input reads as it did. -/
def diagOrderSpec : ChangeSpec := { name := "diagOrder", fn := fun _ => fun
  | [d1, d2] => { results := [.lit (.bool true)], args := [d1, d2] }
  | _ => none }
def diagOrderRow : OpenClaim := { program := "ytdbfpjgnlfejmaadoor", sum := "1146d4afc53bdc8e1a34a553659167b6ba11b57a613f2a1fc0b2146686779ae0", func := "lodger/lodgerlaw26.DiagOrder", spec := "diagOrder", inPlace := ["internal/bytealg.abigen_runtime_cmpstring", "internal/abi.NoEscape"], unfollowed := true, recurses := true, named := ["lodger/diag.words"], apart := false, laid := [("lodger/diag.words", laid_lodger_diag_words)] }
def DiagOrderSaid : Prop := diagOrderRow.holds Tryd.pinned (OpenSpec.ofChange diagOrderSpec)

/-- ITS FALSE NEIGHBOUR: 'it returns false'. Refute it at one input. -/
def diagOrderWrong : ChangeSpec := { name := "diagOrder", fn := fun _ => fun
  | [d1, d2] => { results := [.lit (.bool false)], args := [d1, d2] }
  | _ => none }
def DiagOrderWrongFalsely : Prop := diagOrderRow.holds Tryd.pinned (OpenSpec.ofChange diagOrderWrong)

/-- 'lodgerlaw27.MsgReads': WHATEVER THE INPUT: true; the input reads as it did. -/
def msgReadsSpec : ChangeSpec := { name := "msgReads", fn := fun _ => fun
  | [d] => { results := [.lit (.bool true)], args := [d] }
  | _ => none }
def msgReadsRow : OpenClaim := { program := "ytdbfpjgnlfejmaadoor", sum := "1146d4afc53bdc8e1a34a553659167b6ba11b57a613f2a1fc0b2146686779ae0", func := "lodger/lodgerlaw27.MsgReads", spec := "msgReads", inPlace := ["internal/bytealg.abigen_runtime_cmpstring", "internal/abi.NoEscape"], unfollowed := true, recurses := true, named := ["lodger/diag.words"], apart := false, laid := [("lodger/diag.words", laid_lodger_diag_words)] }
def MsgReadsSaid : Prop := msgReadsRow.holds Tryd.pinned (OpenSpec.ofChange msgReadsSpec)

/-- ITS FALSE NEIGHBOUR: 'it returns false'. Refute it at one input. -/
def msgReadsWrong : ChangeSpec := { name := "msgReads", fn := fun _ => fun
  | [d] => { results := [.lit (.bool false)], args := [d] }
  | _ => none }
def MsgReadsWrongFalsely : Prop := msgReadsRow.holds Tryd.pinned (OpenSpec.ofChange msgReadsWrong)

/-- 'lodgerlaw27.MsgAnswers': WHATEVER THE INPUT: true; the input reads as it did. -/
def msgAnswersSpec : ChangeSpec := { name := "msgAnswers", fn := fun _ => fun
  | [d] => { results := [.lit (.bool true)], args := [d] }
  | _ => none }
def msgAnswersRow : OpenClaim := { program := "ytdbfpjgnlfejmaadoor", sum := "1146d4afc53bdc8e1a34a553659167b6ba11b57a613f2a1fc0b2146686779ae0", func := "lodger/lodgerlaw27.MsgAnswers", spec := "msgAnswers", inPlace := ["internal/abi.NoEscape", "internal/bytealg.abigen_runtime_cmpstring"], unfollowed := true, recurses := true, named := ["lodger/diag.words"], apart := false, laid := [("lodger/diag.words", laid_lodger_diag_words)] }
def MsgAnswersSaid : Prop := msgAnswersRow.holds Tryd.pinned (OpenSpec.ofChange msgAnswersSpec)

/-- ITS FALSE NEIGHBOUR: 'it returns false'. Refute it at one input. -/
def msgAnswersWrong : ChangeSpec := { name := "msgAnswers", fn := fun _ => fun
  | [d] => { results := [.lit (.bool false)], args := [d] }
  | _ => none }
def MsgAnswersWrongFalsely : Prop := msgAnswersRow.holds Tryd.pinned (OpenSpec.ofChange msgAnswersWrong)

/-- 'lodgerlaw27.MsgBack': WHATEVER THE INPUT: true; the input reads as it did. -/
def msgBackSpec : ChangeSpec := { name := "msgBack", fn := fun _ => fun
  | [d1, d2, d3] => { results := [.lit (.bool true)], args := [d1, d2, d3] }
  | _ => none }
def msgBackRow : OpenClaim := { program := "ytdbfpjgnlfejmaadoor", sum := "1146d4afc53bdc8e1a34a553659167b6ba11b57a613f2a1fc0b2146686779ae0", func := "lodger/lodgerlaw27.MsgBack", spec := "msgBack", inPlace := ["internal/abi.NoEscape", "internal/bytealg.abigen_runtime_cmpstring"], unfollowed := true, recurses := true, named := ["lodger/diag.words"], apart := false, laid := [("lodger/diag.words", laid_lodger_diag_words)] }
def MsgBackSaid : Prop := msgBackRow.holds Tryd.pinned (OpenSpec.ofChange msgBackSpec)

/-- ITS FALSE NEIGHBOUR: 'it returns false'. Refute it at one input. -/
def msgBackWrong : ChangeSpec := { name := "msgBack", fn := fun _ => fun
  | [d1, d2, d3] => { results := [.lit (.bool false)], args := [d1, d2, d3] }
  | _ => none }
def MsgBackWrongFalsely : Prop := msgBackRow.holds Tryd.pinned (OpenSpec.ofChange msgBackWrong)

/-- 'lodgerlaw27.MsgOnce': WHATEVER THE INPUT: true; the input reads as it did. -/
def msgOnceSpec : ChangeSpec := { name := "msgOnce", fn := fun _ => fun
  | [d] => { results := [.lit (.bool true)], args := [d] }
  | _ => none }
def msgOnceRow : OpenClaim := { program := "ytdbfpjgnlfejmaadoor", sum := "1146d4afc53bdc8e1a34a553659167b6ba11b57a613f2a1fc0b2146686779ae0", func := "lodger/lodgerlaw27.MsgOnce", spec := "msgOnce", inPlace := ["internal/abi.NoEscape", "internal/bytealg.abigen_runtime_cmpstring"], unfollowed := true, recurses := true, named := ["lodger/diag.words"], apart := false, laid := [("lodger/diag.words", laid_lodger_diag_words)] }
def MsgOnceSaid : Prop := msgOnceRow.holds Tryd.pinned (OpenSpec.ofChange msgOnceSpec)

/-- ITS FALSE NEIGHBOUR: 'it returns false'. Refute it at one input. -/
def msgOnceWrong : ChangeSpec := { name := "msgOnce", fn := fun _ => fun
  | [d] => { results := [.lit (.bool false)], args := [d] }
  | _ => none }
def MsgOnceWrongFalsely : Prop := msgOnceRow.holds Tryd.pinned (OpenSpec.ofChange msgOnceWrong)

/- THE SECOND FORM. 'bulk': how many values and letters a reading holds, each counted each time it is reached (what is shared counts as often as it is met; a slice's spare places count too). A statement '..UptoSaid' is the law's where the arguments, and the package variables that the reading takes, are together of bulk at most 1048576: NARROWER than '..Said'. Prove '..Said' where nothing that the law and all that it calls make is longer than what came in: it says more and counts as full. Else prove '..UptoSaid'. A law counts once. -/
mutual
def uptoBulk {H : Type} : DataW H → Nat
  | .lit (.string bytes) => bytes.length + 1
  | .lit _ => 1
  | .nil => 1
  | .ptr d => uptoBulk d + 1
  | .slice elems spare => uptoBulkAll elems + uptoBulkAll spare + 1
  | .agg parts => uptoBulkAll parts + 1
  | .iface _ d => uptoBulk d + 1
  | .map entries => uptoBulkEntries entries + 1
  | .held _ => 1
def uptoBulkAll {H : Type} : List (DataW H) → Nat
  | [] => 0
  | d :: r => uptoBulk d + uptoBulkAll r
def uptoBulkEntries {H : Type} : List (Lit × DataW H) → Nat
  | [] => 0
  | x :: r => uptoBulkEntry x + uptoBulkEntries r
def uptoBulkEntry {H : Type} : Lit × DataW H → Nat
  | (.string bytes, d) => bytes.length + uptoBulk d + 1
  | (_, d) => uptoBulk d + 1
 end
def uptoSmall : (H : Type) → List (DataW H) → Bool := fun _ ds => decide (uptoBulkAll ds ≤ 1048576)
def OpenSpec.upto (s : _root_.Go.ChangeSpec) : _root_.Go.OpenSpec := { _root_.Go.OpenSpec.ofChange s with cond := some uptoSmall }

/-- 'lodgerlaw26.DiagSorts', WHERE WHAT IT READS IS OF BULK AT MOST 1048576: true; the input reads as it did. -/
def diagSortsUptoRow : OpenClaim := { program := "ytdbfpjgnlfejmaadoor", sum := "1146d4afc53bdc8e1a34a553659167b6ba11b57a613f2a1fc0b2146686779ae0", func := "lodger/lodgerlaw26.DiagSorts", spec := "diagSorts", inPlace := ["internal/bytealg.abigen_runtime_cmpstring", "internal/abi.NoEscape"], unfollowed := true, recurses := true, named := ["lodger/diag.words"], apart := false, laid := [("lodger/diag.words", laid_lodger_diag_words)], narrowed := true }
def DiagSortsUptoSaid : Prop := diagSortsUptoRow.holds Tryd.pinned (OpenSpec.upto diagSortsSpec)

/-- 'lodgerlaw26.DiagReads', WHERE WHAT IT READS IS OF BULK AT MOST 1048576: true; the input reads as it did. -/
def diagReadsUptoRow : OpenClaim := { program := "ytdbfpjgnlfejmaadoor", sum := "1146d4afc53bdc8e1a34a553659167b6ba11b57a613f2a1fc0b2146686779ae0", func := "lodger/lodgerlaw26.DiagReads", spec := "diagReads", inPlace := ["internal/bytealg.abigen_runtime_cmpstring", "internal/abi.NoEscape"], unfollowed := true, recurses := true, named := ["lodger/diag.words"], apart := false, laid := [("lodger/diag.words", laid_lodger_diag_words)], narrowed := true }
def DiagReadsUptoSaid : Prop := diagReadsUptoRow.holds Tryd.pinned (OpenSpec.upto diagReadsSpec)

/-- 'lodgerlaw26.DiagBack', WHERE WHAT IT READS IS OF BULK AT MOST 1048576: true; the input reads as it did. -/
def diagBackUptoRow : OpenClaim := { program := "ytdbfpjgnlfejmaadoor", sum := "1146d4afc53bdc8e1a34a553659167b6ba11b57a613f2a1fc0b2146686779ae0", func := "lodger/lodgerlaw26.DiagBack", spec := "diagBack", inPlace := ["internal/bytealg.abigen_runtime_cmpstring", "internal/abi.NoEscape"], unfollowed := true, recurses := true, named := ["lodger/diag.words"], apart := false, laid := [("lodger/diag.words", laid_lodger_diag_words)], narrowed := true }
def DiagBackUptoSaid : Prop := diagBackUptoRow.holds Tryd.pinned (OpenSpec.upto diagBackSpec)

/-- 'lodgerlaw26.DiagOrder', WHERE WHAT IT READS IS OF BULK AT MOST 1048576: true; the input reads as it did. -/
def diagOrderUptoRow : OpenClaim := { program := "ytdbfpjgnlfejmaadoor", sum := "1146d4afc53bdc8e1a34a553659167b6ba11b57a613f2a1fc0b2146686779ae0", func := "lodger/lodgerlaw26.DiagOrder", spec := "diagOrder", inPlace := ["internal/bytealg.abigen_runtime_cmpstring", "internal/abi.NoEscape"], unfollowed := true, recurses := true, named := ["lodger/diag.words"], apart := false, laid := [("lodger/diag.words", laid_lodger_diag_words)], narrowed := true }
def DiagOrderUptoSaid : Prop := diagOrderUptoRow.holds Tryd.pinned (OpenSpec.upto diagOrderSpec)

/-- 'lodgerlaw27.MsgReads', WHERE WHAT IT READS IS OF BULK AT MOST 1048576: true; the input reads as it did. -/
def msgReadsUptoRow : OpenClaim := { program := "ytdbfpjgnlfejmaadoor", sum := "1146d4afc53bdc8e1a34a553659167b6ba11b57a613f2a1fc0b2146686779ae0", func := "lodger/lodgerlaw27.MsgReads", spec := "msgReads", inPlace := ["internal/bytealg.abigen_runtime_cmpstring", "internal/abi.NoEscape"], unfollowed := true, recurses := true, named := ["lodger/diag.words"], apart := false, laid := [("lodger/diag.words", laid_lodger_diag_words)], narrowed := true }
def MsgReadsUptoSaid : Prop := msgReadsUptoRow.holds Tryd.pinned (OpenSpec.upto msgReadsSpec)

/-- 'lodgerlaw27.MsgAnswers', WHERE WHAT IT READS IS OF BULK AT MOST 1048576: true; the input reads as it did. -/
def msgAnswersUptoRow : OpenClaim := { program := "ytdbfpjgnlfejmaadoor", sum := "1146d4afc53bdc8e1a34a553659167b6ba11b57a613f2a1fc0b2146686779ae0", func := "lodger/lodgerlaw27.MsgAnswers", spec := "msgAnswers", inPlace := ["internal/abi.NoEscape", "internal/bytealg.abigen_runtime_cmpstring"], unfollowed := true, recurses := true, named := ["lodger/diag.words"], apart := false, laid := [("lodger/diag.words", laid_lodger_diag_words)], narrowed := true }
def MsgAnswersUptoSaid : Prop := msgAnswersUptoRow.holds Tryd.pinned (OpenSpec.upto msgAnswersSpec)

/-- 'lodgerlaw27.MsgBack', WHERE WHAT IT READS IS OF BULK AT MOST 1048576: true; the input reads as it did. -/
def msgBackUptoRow : OpenClaim := { program := "ytdbfpjgnlfejmaadoor", sum := "1146d4afc53bdc8e1a34a553659167b6ba11b57a613f2a1fc0b2146686779ae0", func := "lodger/lodgerlaw27.MsgBack", spec := "msgBack", inPlace := ["internal/abi.NoEscape", "internal/bytealg.abigen_runtime_cmpstring"], unfollowed := true, recurses := true, named := ["lodger/diag.words"], apart := false, laid := [("lodger/diag.words", laid_lodger_diag_words)], narrowed := true }
def MsgBackUptoSaid : Prop := msgBackUptoRow.holds Tryd.pinned (OpenSpec.upto msgBackSpec)

/-- 'lodgerlaw27.MsgOnce', WHERE WHAT IT READS IS OF BULK AT MOST 1048576: true; the input reads as it did. -/
def msgOnceUptoRow : OpenClaim := { program := "ytdbfpjgnlfejmaadoor", sum := "1146d4afc53bdc8e1a34a553659167b6ba11b57a613f2a1fc0b2146686779ae0", func := "lodger/lodgerlaw27.MsgOnce", spec := "msgOnce", inPlace := ["internal/abi.NoEscape", "internal/bytealg.abigen_runtime_cmpstring"], unfollowed := true, recurses := true, named := ["lodger/diag.words"], apart := false, laid := [("lodger/diag.words", laid_lodger_diag_words)], narrowed := true }
def MsgOnceUptoSaid : Prop := msgOnceUptoRow.holds Tryd.pinned (OpenSpec.upto msgOnceSpec)

end Rows
end Go.Proofs.YtdbfpjgnlfejmaaDoor
