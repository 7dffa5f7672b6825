/-
  NARROWER THAN 'FOR EVERY INPUT', by the rows' own cells (each row's printed sentence says how): MsgAsks: laid · MsgReads: laid · MsgAnswers: laid · MsgBack: laid · MsgOnce: laid · MsgKnown: laid.
  DERIVED. THE GIVEN ROWS OF THIS SEAT. 6 by the template 'for every input the law returns true; each argument reads behind the call as it read before'; 0 by the template 'total and deterministic' (their statements: YtajlcmgdomimeaaDoorTotals.lean).
  GIVEN WITH THE SEED: the statements are not yours to turn. If you find one false, say at which input.
  Laid BY PROGRAM, IN A SANDBOX (cutbox-rows.mjs): the forced cells as the released guide's own fill.sh prints them over the translation b80d4e8ac4c68e7e… (all of the seat's roots in one cut). By AI agents, Wed Nov 11 2026. No macro, syntax, notation, axiom, sorry.
-/
import Derived.Test.YtajlcmgdomimeaaDoorChecked
import GoSem.Claim
import GoSem.ClaimJoined
import GoSem.ClaimMapViews
import Derived.JoinedTies
import Derived.KernelRfl
namespace Go.Proofs.YtajlcmgdomimeaaDoor
/- THE CELL 'sum', in the pinned program and in every row, IS THE sha256 OF THE DUMP (.gsa) THAT YtajlcmgdomimeaaDoorProg.lean LOADS. Nothing in Lean hashes anything: it is a label: what it is worth is what the hold of that sum in a sandbox is worth. -/
noncomputable def Tryd.pinned : Pinned := { name := "ytajlcmgdomimeaadoor", sum := "b80d4e8ac4c68e7e8e1b9618ab0a65c0ff0e0f42ece37a3b5b94241f6c05b0ec", checked := Tryd.checked }
namespace Rows
def none {H : Type} : Left H := { results := [], args := [] }

/- WHAT THE LISTED PACKAGE-LEVEL VARIABLES READ AS WHEN THE CALL BEGINS. Each datum BY PROGRAM (the guide's laid-datum.mjs) off the statement by which the dump's own 'gosem.cut.vars' lays the variable. In a bare row this is a premise. The card (YtajlcmgdomimeaaDoorCards.lean) ties it to the program's text. -/
def laid_lodger_diag_words {H : Type} : DataW H := .agg [.lit (.string []), .lit (.string [115, 121, 110, 116, 97, 120]), .lit (.string [99, 121, 99, 108, 101]), .lit (.string [105, 109, 112, 111, 114, 116]), .lit (.string [116, 119, 105, 99, 101]), .lit (.string [116, 121, 112, 101]), .lit (.string [110, 97, 109, 101]), .lit (.string [102, 105, 101, 108, 100]), .lit (.string [97, 114, 105, 116, 121]), .lit (.string [99, 97, 108, 108]), .lit (.string [119, 114, 111, 110, 103]), .lit (.string [114, 111, 108, 108]), .lit (.string [115, 105, 122, 101]), .lit (.string [101, 113, 117, 97, 108])]

/-- 'lodgerlaw27.MsgAsks': WHATEVER THE INPUT: true; the input reads as it did. -/
def msgAsksSpec : ChangeSpec := { name := "msgAsks", fn := fun _ => fun
  | [d1, d2] => { results := [.lit (.bool true)], args := [d1, d2] }
  | _ => none }
def msgAsksRow : OpenClaim := { program := "ytajlcmgdomimeaadoor", sum := "b80d4e8ac4c68e7e8e1b9618ab0a65c0ff0e0f42ece37a3b5b94241f6c05b0ec", func := "lodger/lodgerlaw27.MsgAsks", spec := "msgAsks", inPlace := ["internal/abi.NoEscape", "internal/bytealg.abigen_runtime_cmpstring"], unfollowed := true, recurses := true, named := ["lodger/diag.words"], apart := false, laid := [("lodger/diag.words", laid_lodger_diag_words)] }
def MsgAsksSaid : Prop := msgAsksRow.holds Tryd.pinned (OpenSpec.ofChange msgAsksSpec)

/-- ITS FALSE NEIGHBOUR: 'it returns false'. Refute it at one input. -/
def msgAsksWrong : ChangeSpec := { name := "msgAsks", fn := fun _ => fun
  | [d1, d2] => { results := [.lit (.bool false)], args := [d1, d2] }
  | _ => none }
def MsgAsksWrongFalsely : Prop := msgAsksRow.holds Tryd.pinned (OpenSpec.ofChange msgAsksWrong)

/-- 'lodgerlaw27.MsgReads': WHATEVER THE INPUT: true; the input reads as it did. -/
def msgReadsSpec : ChangeSpec := { name := "msgReads", fn := fun _ => fun
  | [d] => { results := [.lit (.bool true)], args := [d] }
  | _ => none }
def msgReadsRow : OpenClaim := { program := "ytajlcmgdomimeaadoor", sum := "b80d4e8ac4c68e7e8e1b9618ab0a65c0ff0e0f42ece37a3b5b94241f6c05b0ec", func := "lodger/lodgerlaw27.MsgReads", spec := "msgReads", inPlace := ["internal/bytealg.abigen_runtime_cmpstring", "internal/abi.NoEscape"], unfollowed := true, recurses := true, named := ["lodger/diag.words"], apart := false, laid := [("lodger/diag.words", laid_lodger_diag_words)] }
def MsgReadsSaid : Prop := msgReadsRow.holds Tryd.pinned (OpenSpec.ofChange msgReadsSpec)

/-- ITS FALSE NEIGHBOUR: 'it returns false'. Refute it at one input. -/
def msgReadsWrong : ChangeSpec := { name := "msgReads", fn := fun _ => fun
  | [d] => { results := [.lit (.bool false)], args := [d] }
  | _ => none }
def MsgReadsWrongFalsely : Prop := msgReadsRow.holds Tryd.pinned (OpenSpec.ofChange msgReadsWrong)

/-- 'lodgerlaw27.MsgAnswers': WHATEVER THE INPUT: true; the input reads as it did. -/
def msgAnswersSpec : ChangeSpec := { name := "msgAnswers", fn := fun _ => fun
  | [d] => { results := [.lit (.bool true)], args := [d] }
  | _ => none }
def msgAnswersRow : OpenClaim := { program := "ytajlcmgdomimeaadoor", sum := "b80d4e8ac4c68e7e8e1b9618ab0a65c0ff0e0f42ece37a3b5b94241f6c05b0ec", func := "lodger/lodgerlaw27.MsgAnswers", spec := "msgAnswers", inPlace := ["internal/abi.NoEscape", "internal/bytealg.abigen_runtime_cmpstring"], unfollowed := true, recurses := true, named := ["lodger/diag.words"], apart := false, laid := [("lodger/diag.words", laid_lodger_diag_words)] }
def MsgAnswersSaid : Prop := msgAnswersRow.holds Tryd.pinned (OpenSpec.ofChange msgAnswersSpec)

/-- ITS FALSE NEIGHBOUR: 'it returns false'. Refute it at one input. -/
def msgAnswersWrong : ChangeSpec := { name := "msgAnswers", fn := fun _ => fun
  | [d] => { results := [.lit (.bool false)], args := [d] }
  | _ => none }
def MsgAnswersWrongFalsely : Prop := msgAnswersRow.holds Tryd.pinned (OpenSpec.ofChange msgAnswersWrong)

/-- 'lodgerlaw27.MsgBack': WHATEVER THE INPUT: true; the input reads as it did. -/
def msgBackSpec : ChangeSpec := { name := "msgBack", fn := fun _ => fun
  | [d1, d2, d3] => { results := [.lit (.bool true)], args := [d1, d2, d3] }
  | _ => none }
def msgBackRow : OpenClaim := { program := "ytajlcmgdomimeaadoor", sum := "b80d4e8ac4c68e7e8e1b9618ab0a65c0ff0e0f42ece37a3b5b94241f6c05b0ec", func := "lodger/lodgerlaw27.MsgBack", spec := "msgBack", inPlace := ["internal/abi.NoEscape", "internal/bytealg.abigen_runtime_cmpstring"], unfollowed := true, recurses := true, named := ["lodger/diag.words"], apart := false, laid := [("lodger/diag.words", laid_lodger_diag_words)] }
def MsgBackSaid : Prop := msgBackRow.holds Tryd.pinned (OpenSpec.ofChange msgBackSpec)

/-- ITS FALSE NEIGHBOUR: 'it returns false'. Refute it at one input. -/
def msgBackWrong : ChangeSpec := { name := "msgBack", fn := fun _ => fun
  | [d1, d2, d3] => { results := [.lit (.bool false)], args := [d1, d2, d3] }
  | _ => none }
def MsgBackWrongFalsely : Prop := msgBackRow.holds Tryd.pinned (OpenSpec.ofChange msgBackWrong)

/-- 'lodgerlaw27.MsgOnce': WHATEVER THE INPUT: true; the input reads as it did. -/
def msgOnceSpec : ChangeSpec := { name := "msgOnce", fn := fun _ => fun
  | [d] => { results := [.lit (.bool true)], args := [d] }
  | _ => none }
def msgOnceRow : OpenClaim := { program := "ytajlcmgdomimeaadoor", sum := "b80d4e8ac4c68e7e8e1b9618ab0a65c0ff0e0f42ece37a3b5b94241f6c05b0ec", func := "lodger/lodgerlaw27.MsgOnce", spec := "msgOnce", inPlace := ["internal/abi.NoEscape", "internal/bytealg.abigen_runtime_cmpstring"], unfollowed := true, recurses := true, named := ["lodger/diag.words"], apart := false, laid := [("lodger/diag.words", laid_lodger_diag_words)] }
def MsgOnceSaid : Prop := msgOnceRow.holds Tryd.pinned (OpenSpec.ofChange msgOnceSpec)

/-- ITS FALSE NEIGHBOUR: 'it returns false'. Refute it at one input. -/
def msgOnceWrong : ChangeSpec := { name := "msgOnce", fn := fun _ => fun
  | [d] => { results := [.lit (.bool false)], args := [d] }
  | _ => none }
def MsgOnceWrongFalsely : Prop := msgOnceRow.holds Tryd.pinned (OpenSpec.ofChange msgOnceWrong)

/-- 'lodgerlaw27.MsgKnown': WHATEVER THE INPUT: true; the input reads as it did. -/
def msgKnownSpec : ChangeSpec := { name := "msgKnown", fn := fun _ => fun
  | [] => { results := [.lit (.bool true)], args := [] }
  | _ => none }
def msgKnownRow : OpenClaim := { program := "ytajlcmgdomimeaadoor", sum := "b80d4e8ac4c68e7e8e1b9618ab0a65c0ff0e0f42ece37a3b5b94241f6c05b0ec", func := "lodger/lodgerlaw27.MsgKnown", spec := "msgKnown", inPlace := ["internal/abi.NoEscape", "internal/bytealg.abigen_runtime_cmpstring"], unfollowed := true, recurses := true, named := ["lodger/diag.words"], apart := false, laid := [("lodger/diag.words", laid_lodger_diag_words)] }
def MsgKnownSaid : Prop := msgKnownRow.holds Tryd.pinned (OpenSpec.ofChange msgKnownSpec)

/-- ITS FALSE NEIGHBOUR: 'it returns false'. Refute it at one input. -/
def msgKnownWrong : ChangeSpec := { name := "msgKnown", fn := fun _ => fun
  | [] => { results := [.lit (.bool false)], args := [] }
  | _ => none }
def MsgKnownWrongFalsely : Prop := msgKnownRow.holds Tryd.pinned (OpenSpec.ofChange msgKnownWrong)

/- THE SECOND FORM. 'bulk': how many values and letters a reading holds, each counted each time it is reached (what is shared counts as often as it is met; a slice's spare places count too). A statement '..UptoSaid' is the law's where the arguments, and the package variables that the reading takes, are together of bulk at most 1048576: NARROWER than '..Said'. Prove '..Said' where nothing that the law and all that it calls make is longer than what came in: it says more and counts as full. Else prove '..UptoSaid'. A law counts once. -/
mutual
def uptoBulk {H : Type} : DataW H → Nat
  | .lit (.string bytes) => bytes.length + 1
  | .lit _ => 1
  | .nil => 1
  | .ptr d => uptoBulk d + 1
  | .slice elems spare => uptoBulkAll elems + uptoBulkAll spare + 1
  | .agg parts => uptoBulkAll parts + 1
  | .iface _ d => uptoBulk d + 1
  | .map entries => uptoBulkEntries entries + 1
  | .held _ => 1
def uptoBulkAll {H : Type} : List (DataW H) → Nat
  | [] => 0
  | d :: r => uptoBulk d + uptoBulkAll r
def uptoBulkEntries {H : Type} : List (Lit × DataW H) → Nat
  | [] => 0
  | x :: r => uptoBulkEntry x + uptoBulkEntries r
def uptoBulkEntry {H : Type} : Lit × DataW H → Nat
  | (.string bytes, d) => bytes.length + uptoBulk d + 1
  | (_, d) => uptoBulk d + 1
 end
def uptoSmall : (H : Type) → List (DataW H) → Bool := fun _ ds => decide (uptoBulkAll ds ≤ 1048576)
def OpenSpec.upto (s : _root_.Go.ChangeSpec) : _root_.Go.OpenSpec := { _root_.Go.OpenSpec.ofChange s with cond := some uptoSmall }

/-- 'lodgerlaw27.MsgAsks', WHERE WHAT IT READS IS OF BULK AT MOST 1048576: true; the input reads as it did. -/
def msgAsksUptoRow : OpenClaim := { program := "ytajlcmgdomimeaadoor", sum := "b80d4e8ac4c68e7e8e1b9618ab0a65c0ff0e0f42ece37a3b5b94241f6c05b0ec", func := "lodger/lodgerlaw27.MsgAsks", spec := "msgAsks", inPlace := ["internal/abi.NoEscape", "internal/bytealg.abigen_runtime_cmpstring"], unfollowed := true, recurses := true, named := ["lodger/diag.words"], apart := false, laid := [("lodger/diag.words", laid_lodger_diag_words)], narrowed := true }
def MsgAsksUptoSaid : Prop := msgAsksUptoRow.holds Tryd.pinned (OpenSpec.upto msgAsksSpec)

/-- 'lodgerlaw27.MsgReads', WHERE WHAT IT READS IS OF BULK AT MOST 1048576: true; the input reads as it did. -/
def msgReadsUptoRow : OpenClaim := { program := "ytajlcmgdomimeaadoor", sum := "b80d4e8ac4c68e7e8e1b9618ab0a65c0ff0e0f42ece37a3b5b94241f6c05b0ec", func := "lodger/lodgerlaw27.MsgReads", spec := "msgReads", inPlace := ["internal/bytealg.abigen_runtime_cmpstring", "internal/abi.NoEscape"], unfollowed := true, recurses := true, named := ["lodger/diag.words"], apart := false, laid := [("lodger/diag.words", laid_lodger_diag_words)], narrowed := true }
def MsgReadsUptoSaid : Prop := msgReadsUptoRow.holds Tryd.pinned (OpenSpec.upto msgReadsSpec)

/-- 'lodgerlaw27.MsgAnswers', WHERE WHAT IT READS IS OF BULK AT MOST 1048576: true; the input reads as it did. -/
def msgAnswersUptoRow : OpenClaim := { program := "ytajlcmgdomimeaadoor", sum := "b80d4e8ac4c68e7e8e1b9618ab0a65c0ff0e0f42ece37a3b5b94241f6c05b0ec", func := "lodger/lodgerlaw27.MsgAnswers", spec := "msgAnswers", inPlace := ["internal/abi.NoEscape", "internal/bytealg.abigen_runtime_cmpstring"], unfollowed := true, recurses := true, named := ["lodger/diag.words"], apart := false, laid := [("lodger/diag.words", laid_lodger_diag_words)], narrowed := true }
def MsgAnswersUptoSaid : Prop := msgAnswersUptoRow.holds Tryd.pinned (OpenSpec.upto msgAnswersSpec)

/-- 'lodgerlaw27.MsgBack', WHERE WHAT IT READS IS OF BULK AT MOST 1048576: true; the input reads as it did. -/
def msgBackUptoRow : OpenClaim := { program := "ytajlcmgdomimeaadoor", sum := "b80d4e8ac4c68e7e8e1b9618ab0a65c0ff0e0f42ece37a3b5b94241f6c05b0ec", func := "lodger/lodgerlaw27.MsgBack", spec := "msgBack", inPlace := ["internal/abi.NoEscape", "internal/bytealg.abigen_runtime_cmpstring"], unfollowed := true, recurses := true, named := ["lodger/diag.words"], apart := false, laid := [("lodger/diag.words", laid_lodger_diag_words)], narrowed := true }
def MsgBackUptoSaid : Prop := msgBackUptoRow.holds Tryd.pinned (OpenSpec.upto msgBackSpec)

/-- 'lodgerlaw27.MsgOnce', WHERE WHAT IT READS IS OF BULK AT MOST 1048576: true; the input reads as it did. -/
def msgOnceUptoRow : OpenClaim := { program := "ytajlcmgdomimeaadoor", sum := "b80d4e8ac4c68e7e8e1b9618ab0a65c0ff0e0f42ece37a3b5b94241f6c05b0ec", func := "lodger/lodgerlaw27.MsgOnce", spec := "msgOnce", inPlace := ["internal/abi.NoEscape", "internal/bytealg.abigen_runtime_cmpstring"], unfollowed := true, recurses := true, named := ["lodger/diag.words"], apart := false, laid := [("lodger/diag.words", laid_lodger_diag_words)], narrowed := true }
def MsgOnceUptoSaid : Prop := msgOnceUptoRow.holds Tryd.pinned (OpenSpec.upto msgOnceSpec)

/-- 'lodgerlaw27.MsgKnown', WHERE WHAT IT READS IS OF BULK AT MOST 1048576: true; the input reads as it did. -/
def msgKnownUptoRow : OpenClaim := { program := "ytajlcmgdomimeaadoor", sum := "b80d4e8ac4c68e7e8e1b9618ab0a65c0ff0e0f42ece37a3b5b94241f6c05b0ec", func := "lodger/lodgerlaw27.MsgKnown", spec := "msgKnown", inPlace := ["internal/abi.NoEscape", "internal/bytealg.abigen_runtime_cmpstring"], unfollowed := true, recurses := true, named := ["lodger/diag.words"], apart := false, laid := [("lodger/diag.words", laid_lodger_diag_words)], narrowed := true }
def MsgKnownUptoSaid : Prop := msgKnownUptoRow.holds Tryd.pinned (OpenSpec.upto msgKnownSpec)

end Rows
end Go.Proofs.YtajlcmgdomimeaaDoor
