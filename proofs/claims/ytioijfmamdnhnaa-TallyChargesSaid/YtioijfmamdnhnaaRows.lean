/-
  No cell of these rows narrows 'for every input' (looked for: loops, veiled, ifaces, maps, wideKeys, modest, calm, conditions, laid).
  DERIVED. THE GIVEN ROWS OF THIS SEAT. 7 by the template 'for every input the law returns true; each argument reads behind the call as it read before'; 0 by the template 'total and deterministic' (their statements: YtioijfmamdnhnaaTotals.lean).
  GIVEN WITH THE SEED: the statements are not yours to turn. If you find one false, say at which input.
  Laid BY PROGRAM, IN A SANDBOX (cutbox-rows.mjs): the forced cells as the released guide's own fill.sh prints them over the translation 1225b73f6b1b96d9… (all of the seat's roots in one cut). By AI agents, Wed Nov 11 2026. No macro, syntax, notation, axiom, sorry.
-/
import Derived.Test.YtioijfmamdnhnaaChecked
import GoSem.Claim
import GoSem.ClaimJoined
import GoSem.ClaimMapViews
import Derived.JoinedTies
import Derived.KernelRfl
namespace Go.Proofs.Ytioijfmamdnhnaa
/- THE CELL 'sum', in the pinned program and in every row, IS THE sha256 OF THE DUMP (.gsa) THAT YtioijfmamdnhnaaProg.lean LOADS. Nothing in Lean hashes anything: it is a label: what it is worth is what the hold of that sum in a sandbox is worth. -/
noncomputable def Try.pinned : Pinned := { name := "ytioijfmamdnhnaa", sum := "1225b73f6b1b96d9fc9f18ff7cc10e77f4a899771689a61331b01ce3e9e935c4", checked := Try.checked }
namespace Rows
def none {H : Type} : Left H := { results := [], args := [] }

/-- 'lodgerlaw06.TallyReckons': WHATEVER THE INPUT: true; the input reads as it did. -/
def tallyReckonsSpec : ChangeSpec := { name := "tallyReckons", fn := fun _ => fun
  | [d1, d2, d3] => { results := [.lit (.bool true)], args := [d1, d2, d3] }
  | _ => none }
def tallyReckonsRow : OpenClaim := { program := "ytioijfmamdnhnaa", sum := "1225b73f6b1b96d9fc9f18ff7cc10e77f4a899771689a61331b01ce3e9e935c4", func := "lodger/lodgerlaw06.TallyReckons", spec := "tallyReckons", unfollowed := true, recurses := true, apart := false }
def TallyReckonsSaid : Prop := tallyReckonsRow.holds Try.pinned (OpenSpec.ofChange tallyReckonsSpec)

/-- ITS FALSE NEIGHBOUR: 'it returns false'. Refute it at one input. -/
def tallyReckonsWrong : ChangeSpec := { name := "tallyReckons", fn := fun _ => fun
  | [d1, d2, d3] => { results := [.lit (.bool false)], args := [d1, d2, d3] }
  | _ => none }
def TallyReckonsWrongFalsely : Prop := tallyReckonsRow.holds Try.pinned (OpenSpec.ofChange tallyReckonsWrong)

/-- 'lodgerlaw06.TallyMay': WHATEVER THE INPUT: true; the input reads as it did. -/
def tallyMaySpec : ChangeSpec := { name := "tallyMay", fn := fun _ => fun
  | [d] => { results := [.lit (.bool true)], args := [d] }
  | _ => none }
def tallyMayRow : OpenClaim := { program := "ytioijfmamdnhnaa", sum := "1225b73f6b1b96d9fc9f18ff7cc10e77f4a899771689a61331b01ce3e9e935c4", func := "lodger/lodgerlaw06.TallyMay", spec := "tallyMay", unfollowed := true, recurses := true, apart := false }
def TallyMaySaid : Prop := tallyMayRow.holds Try.pinned (OpenSpec.ofChange tallyMaySpec)

/-- ITS FALSE NEIGHBOUR: 'it returns false'. Refute it at one input. -/
def tallyMayWrong : ChangeSpec := { name := "tallyMay", fn := fun _ => fun
  | [d] => { results := [.lit (.bool false)], args := [d] }
  | _ => none }
def TallyMayWrongFalsely : Prop := tallyMayRow.holds Try.pinned (OpenSpec.ofChange tallyMayWrong)

/-- 'lodgerlaw06.TallyCharges': WHATEVER THE INPUT: true; the input reads as it did. -/
def tallyChargesSpec : ChangeSpec := { name := "tallyCharges", fn := fun _ => fun
  | [d1, d2] => { results := [.lit (.bool true)], args := [d1, d2] }
  | _ => none }
def tallyChargesRow : OpenClaim := { program := "ytioijfmamdnhnaa", sum := "1225b73f6b1b96d9fc9f18ff7cc10e77f4a899771689a61331b01ce3e9e935c4", func := "lodger/lodgerlaw06.TallyCharges", spec := "tallyCharges", unfollowed := true, recurses := true, apart := false }
def TallyChargesSaid : Prop := tallyChargesRow.holds Try.pinned (OpenSpec.ofChange tallyChargesSpec)

/-- ITS FALSE NEIGHBOUR: 'it returns false'. Refute it at one input. -/
def tallyChargesWrong : ChangeSpec := { name := "tallyCharges", fn := fun _ => fun
  | [d1, d2] => { results := [.lit (.bool false)], args := [d1, d2] }
  | _ => none }
def TallyChargesWrongFalsely : Prop := tallyChargesRow.holds Try.pinned (OpenSpec.ofChange tallyChargesWrong)

/-- 'lodgerlaw06.TallyWide': WHATEVER THE INPUT: true; the input reads as it did. -/
def tallyWideSpec : ChangeSpec := { name := "tallyWide", fn := fun _ => fun
  | [d1, d2] => { results := [.lit (.bool true)], args := [d1, d2] }
  | _ => none }
def tallyWideRow : OpenClaim := { program := "ytioijfmamdnhnaa", sum := "1225b73f6b1b96d9fc9f18ff7cc10e77f4a899771689a61331b01ce3e9e935c4", func := "lodger/lodgerlaw06.TallyWide", spec := "tallyWide", inPlace := ["math/bits.Add64"], unfollowed := true, recurses := true, apart := false }
def TallyWideSaid : Prop := tallyWideRow.holds Try.pinned (OpenSpec.ofChange tallyWideSpec)

/-- ITS FALSE NEIGHBOUR: 'it returns false'. Refute it at one input. -/
def tallyWideWrong : ChangeSpec := { name := "tallyWide", fn := fun _ => fun
  | [d1, d2] => { results := [.lit (.bool false)], args := [d1, d2] }
  | _ => none }
def TallyWideWrongFalsely : Prop := tallyWideRow.holds Try.pinned (OpenSpec.ofChange tallyWideWrong)

/-- 'lodgerlaw06.TallyRises': WHATEVER THE INPUT: true; the input reads as it did. -/
def tallyRisesSpec : ChangeSpec := { name := "tallyRises", fn := fun _ => fun
  | [d1, d2] => { results := [.lit (.bool true)], args := [d1, d2] }
  | _ => none }
def tallyRisesRow : OpenClaim := { program := "ytioijfmamdnhnaa", sum := "1225b73f6b1b96d9fc9f18ff7cc10e77f4a899771689a61331b01ce3e9e935c4", func := "lodger/lodgerlaw06.TallyRises", spec := "tallyRises", unfollowed := true, recurses := true, apart := false }
def TallyRisesSaid : Prop := tallyRisesRow.holds Try.pinned (OpenSpec.ofChange tallyRisesSpec)

/-- ITS FALSE NEIGHBOUR: 'it returns false'. Refute it at one input. -/
def tallyRisesWrong : ChangeSpec := { name := "tallyRises", fn := fun _ => fun
  | [d1, d2] => { results := [.lit (.bool false)], args := [d1, d2] }
  | _ => none }
def TallyRisesWrongFalsely : Prop := tallyRisesRow.holds Try.pinned (OpenSpec.ofChange tallyRisesWrong)

/-- 'lodgerlaw06.TallyNever': WHATEVER THE INPUT: true; the input reads as it did. -/
def tallyNeverSpec : ChangeSpec := { name := "tallyNever", fn := fun _ => fun
  | [d1, d2] => { results := [.lit (.bool true)], args := [d1, d2] }
  | _ => none }
def tallyNeverRow : OpenClaim := { program := "ytioijfmamdnhnaa", sum := "1225b73f6b1b96d9fc9f18ff7cc10e77f4a899771689a61331b01ce3e9e935c4", func := "lodger/lodgerlaw06.TallyNever", spec := "tallyNever", unfollowed := true, recurses := true, apart := false }
def TallyNeverSaid : Prop := tallyNeverRow.holds Try.pinned (OpenSpec.ofChange tallyNeverSpec)

/-- ITS FALSE NEIGHBOUR: 'it returns false'. Refute it at one input. -/
def tallyNeverWrong : ChangeSpec := { name := "tallyNever", fn := fun _ => fun
  | [d1, d2] => { results := [.lit (.bool false)], args := [d1, d2] }
  | _ => none }
def TallyNeverWrongFalsely : Prop := tallyNeverRow.holds Try.pinned (OpenSpec.ofChange tallyNeverWrong)

/-- 'lodgerlaw06.TallyKnown': WHATEVER THE INPUT: true; the input reads as it did. -/
def tallyKnownSpec : ChangeSpec := { name := "tallyKnown", fn := fun _ => fun
  | [] => { results := [.lit (.bool true)], args := [] }
  | _ => none }
def tallyKnownRow : OpenClaim := { program := "ytioijfmamdnhnaa", sum := "1225b73f6b1b96d9fc9f18ff7cc10e77f4a899771689a61331b01ce3e9e935c4", func := "lodger/lodgerlaw06.TallyKnown", spec := "tallyKnown", unfollowed := true, recurses := true, apart := false }
def TallyKnownSaid : Prop := tallyKnownRow.holds Try.pinned (OpenSpec.ofChange tallyKnownSpec)

/-- ITS FALSE NEIGHBOUR: 'it returns false'. Refute it at one input. -/
def tallyKnownWrong : ChangeSpec := { name := "tallyKnown", fn := fun _ => fun
  | [] => { results := [.lit (.bool false)], args := [] }
  | _ => none }
def TallyKnownWrongFalsely : Prop := tallyKnownRow.holds Try.pinned (OpenSpec.ofChange tallyKnownWrong)

/- THE SECOND FORM. 'bulk': how many values and letters a reading holds, each counted each time it is reached (what is shared counts as often as it is met; a slice's spare places count too). A statement '..UptoSaid' is the law's where the arguments, and the package variables that the reading takes, are together of bulk at most 1048576: NARROWER than '..Said'. Prove '..Said' where nothing that the law and all that it calls make is longer than what came in: it says more and counts as full. Else prove '..UptoSaid'. A law counts once. -/
mutual
def uptoBulk {H : Type} : DataW H → Nat
  | .lit (.string bytes) => bytes.length + 1
  | .lit _ => 1
  | .nil => 1
  | .ptr d => uptoBulk d + 1
  | .slice elems spare => uptoBulkAll elems + uptoBulkAll spare + 1
  | .agg parts => uptoBulkAll parts + 1
  | .iface _ d => uptoBulk d + 1
  | .map entries => uptoBulkEntries entries + 1
  | .held _ => 1
def uptoBulkAll {H : Type} : List (DataW H) → Nat
  | [] => 0
  | d :: r => uptoBulk d + uptoBulkAll r
def uptoBulkEntries {H : Type} : List (Lit × DataW H) → Nat
  | [] => 0
  | x :: r => uptoBulkEntry x + uptoBulkEntries r
def uptoBulkEntry {H : Type} : Lit × DataW H → Nat
  | (.string bytes, d) => bytes.length + uptoBulk d + 1
  | (_, d) => uptoBulk d + 1
 end
def uptoSmall : (H : Type) → List (DataW H) → Bool := fun _ ds => decide (uptoBulkAll ds ≤ 1048576)
def OpenSpec.upto (s : _root_.Go.ChangeSpec) : _root_.Go.OpenSpec := { _root_.Go.OpenSpec.ofChange s with cond := some uptoSmall }

/-- 'lodgerlaw06.TallyReckons', WHERE WHAT IT READS IS OF BULK AT MOST 1048576: true; the input reads as it did. -/
def tallyReckonsUptoRow : OpenClaim := { program := "ytioijfmamdnhnaa", sum := "1225b73f6b1b96d9fc9f18ff7cc10e77f4a899771689a61331b01ce3e9e935c4", func := "lodger/lodgerlaw06.TallyReckons", spec := "tallyReckons", unfollowed := true, recurses := true, apart := false, narrowed := true }
def TallyReckonsUptoSaid : Prop := tallyReckonsUptoRow.holds Try.pinned (OpenSpec.upto tallyReckonsSpec)

/-- 'lodgerlaw06.TallyMay', WHERE WHAT IT READS IS OF BULK AT MOST 1048576: true; the input reads as it did. -/
def tallyMayUptoRow : OpenClaim := { program := "ytioijfmamdnhnaa", sum := "1225b73f6b1b96d9fc9f18ff7cc10e77f4a899771689a61331b01ce3e9e935c4", func := "lodger/lodgerlaw06.TallyMay", spec := "tallyMay", unfollowed := true, recurses := true, apart := false, narrowed := true }
def TallyMayUptoSaid : Prop := tallyMayUptoRow.holds Try.pinned (OpenSpec.upto tallyMaySpec)

/-- 'lodgerlaw06.TallyCharges', WHERE WHAT IT READS IS OF BULK AT MOST 1048576: true; the input reads as it did. -/
def tallyChargesUptoRow : OpenClaim := { program := "ytioijfmamdnhnaa", sum := "1225b73f6b1b96d9fc9f18ff7cc10e77f4a899771689a61331b01ce3e9e935c4", func := "lodger/lodgerlaw06.TallyCharges", spec := "tallyCharges", unfollowed := true, recurses := true, apart := false, narrowed := true }
def TallyChargesUptoSaid : Prop := tallyChargesUptoRow.holds Try.pinned (OpenSpec.upto tallyChargesSpec)

/-- 'lodgerlaw06.TallyWide', WHERE WHAT IT READS IS OF BULK AT MOST 1048576: true; the input reads as it did. -/
def tallyWideUptoRow : OpenClaim := { program := "ytioijfmamdnhnaa", sum := "1225b73f6b1b96d9fc9f18ff7cc10e77f4a899771689a61331b01ce3e9e935c4", func := "lodger/lodgerlaw06.TallyWide", spec := "tallyWide", inPlace := ["math/bits.Add64"], unfollowed := true, recurses := true, apart := false, narrowed := true }
def TallyWideUptoSaid : Prop := tallyWideUptoRow.holds Try.pinned (OpenSpec.upto tallyWideSpec)

/-- 'lodgerlaw06.TallyRises', WHERE WHAT IT READS IS OF BULK AT MOST 1048576: true; the input reads as it did. -/
def tallyRisesUptoRow : OpenClaim := { program := "ytioijfmamdnhnaa", sum := "1225b73f6b1b96d9fc9f18ff7cc10e77f4a899771689a61331b01ce3e9e935c4", func := "lodger/lodgerlaw06.TallyRises", spec := "tallyRises", unfollowed := true, recurses := true, apart := false, narrowed := true }
def TallyRisesUptoSaid : Prop := tallyRisesUptoRow.holds Try.pinned (OpenSpec.upto tallyRisesSpec)

/-- 'lodgerlaw06.TallyNever', WHERE WHAT IT READS IS OF BULK AT MOST 1048576: true; the input reads as it did. -/
def tallyNeverUptoRow : OpenClaim := { program := "ytioijfmamdnhnaa", sum := "1225b73f6b1b96d9fc9f18ff7cc10e77f4a899771689a61331b01ce3e9e935c4", func := "lodger/lodgerlaw06.TallyNever", spec := "tallyNever", unfollowed := true, recurses := true, apart := false, narrowed := true }
def TallyNeverUptoSaid : Prop := tallyNeverUptoRow.holds Try.pinned (OpenSpec.upto tallyNeverSpec)

/-- 'lodgerlaw06.TallyKnown', WHERE WHAT IT READS IS OF BULK AT MOST 1048576: true; the input reads as it did. -/
def tallyKnownUptoRow : OpenClaim := { program := "ytioijfmamdnhnaa", sum := "1225b73f6b1b96d9fc9f18ff7cc10e77f4a899771689a61331b01ce3e9e935c4", func := "lodger/lodgerlaw06.TallyKnown", spec := "tallyKnown", unfollowed := true, recurses := true, apart := false, narrowed := true }
def TallyKnownUptoSaid : Prop := tallyKnownUptoRow.holds Try.pinned (OpenSpec.upto tallyKnownSpec)

end Rows
end Go.Proofs.Ytioijfmamdnhnaa
