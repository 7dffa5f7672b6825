/- ParseBinds: the chapter's rows, run. -/
import Derived.Test.YtnocdpnbafhmfaaGreatDoorX
import Derived.Test.YtnocdpnbafhmfaaGreatDoorParseBindsG
import Derived.Test.YtnocdpnbafhmfaaGreatDoorEvSc
set_option maxRecDepth 100000
namespace Go.Proofs.YtnocdpnbafhmfaaGreatDoor.parseBinds
open Go Ev

noncomputable abbrev P : Program := Tryz.prog
theorem mix : Tryz.prog.follows .mixedOrders = true := Checked.mixed Tryz.checked
theorem ran : runA P 5 57100 (startM P 5 [] glob) = some (.bool true) := by kernel_rfl
theorem works_ok : Goal P 0 5 (fun v _ => v = .bool true) (startM P 5 [] glob) := Goal.ofRun mix ran fun _ => rfl
/-- What the two numbers come to. -/
noncomputable def no (a : Int) : Int := IntKind.i64.wrap (a.tmod 9)

/-- Behind the choice of the two signs. -/
noncomputable def M (i k : Int) : AM := ⟨⟨3, 70, .node (.node (.node (.node .leaf (some (.int .i64 i)) .leaf) none .leaf) none (.node .leaf (some (.ptr 0 0 0)) .leaf)) none (.node (.node (.node .leaf (some (.int .i64 k)) .leaf) none .leaf) none (.node .leaf (some (.ptr 1 0 0)) .leaf)),
   [.code (cd P (3 : Nat) [(1 : Nat), (1 : Nat), (1 : Nat), (1 : Nat), (1 : Nat)])], [], .run, CallKind.normal, none⟩, [],
  ⟨.node (.node .leaf (some (.cells (storeList .leaf 0 [.int .i64 0, .int .i64 1, .int .i64 2, .int .i64 2, .int .i64 3, .int .i64 3, .int .i64 3, .int .i64 4, .int .i64 4]) 9 24 0 0 1 0 false .leaf)) .leaf) (some (.cells (storeList .leaf 0 [.str [111, 114], .str [97, 110, 100], .str [61, 61], .str [60], .str [43], .str [45], .str [46, 46], .str [42], .str [42]]) 9 23 0 0 1 0 false .leaf)) .leaf, 2, glob⟩⟩

theorem pre (a b i k : Int) (K : AM → Prop) : optK (startL P 3 [.int .u8 a, .int .u8 b] [] glob) (Obl P 3 (fun v _ => v = .bool true) 0 K [.run 8, .callv [] (.bool true), .run 27, .slot 7 (.int .i64 i), .slot 8 (.int .i64 k), .can 0 [0, 1] [5, 6, 7, 8] []]) =
  ((Goal P 0 5 (fun x _ => x = AV.bool true) (startM P 5 [] glob)) ∧ (AV.int .i64 (no a) = .int .i64 i) ∧ (AV.int .i64 (no b) = .int .i64 k) ∧ K (M i k)) := by kernel_rfl
end Go.Proofs.YtnocdpnbafhmfaaGreatDoor.parseBinds
