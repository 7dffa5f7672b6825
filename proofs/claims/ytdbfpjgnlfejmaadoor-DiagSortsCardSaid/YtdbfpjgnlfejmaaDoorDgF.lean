/- DiagOrder: its loops, whatever comes in. -/
import Derived.Test.YtdbfpjgnlfejmaaDoorDgE
set_option maxRecDepth 100000
set_option linter.unusedVariables false
namespace Go.Proofs.YtdbfpjgnlfejmaaDoor.dg
open Go Ev mq

def liftV (r : Option (AV × AHeap)) : Option AR := match r with
  | none => none
  | some (v, h) => some (.val v h)

noncomputable def OA (cell cell' : Nat → AV) (i tn : Int) (m cp z y lo off k : Nat) (G : T (T AV)) : AM := ⟨⟨6, 191, (.node (.node .leaf (some (.int .u8 tn)) (.node .leaf (some (.slg 1 0 0 k 0)) .leaf)) (some (.slc 0 0 off m cp)) (.node .leaf none (.node .leaf (some (.int .i64 i)) .leaf))),
   [.code (cd P (6 : Nat) [(1 : Nat), (1 : Nat), (1 : Nat), (1 : Nat), (0 : Nat), (1 : Nat), (0 : Nat), (0 : Nat)]), .inLoop (cd P (6 : Nat) [(1 : Nat), (1 : Nat), (1 : Nat), (1 : Nat), (0 : Nat), (1 : Nat), (0 : Nat), (0 : Nat)]), .inBlock 0, .code (cd P (6 : Nat) [(1 : Nat), (1 : Nat), (1 : Nat), (1 : Nat), (1 : Nat)])], [], .run, CallKind.normal, none⟩,
  [],
  ⟨(.node (.node .leaf (some (.cells (.fn fun c => some (cell' c)) y 35 0 0 1 0 false .leaf)) .leaf) (some (.ro (.fn fun c => some (cell c)) lo z)) .leaf), 2, G⟩⟩
noncomputable def OZ (cell : Nat → AV) (tn : Int) (m cp z lo off : Nat) (G : T (T AV)) : AM := ⟨⟨6, 191, (.node (.node .leaf (some (.int .u8 tn)) (.node .leaf (some (.nils 0 0)) .leaf)) (some (.slc 0 0 off m cp)) (.node .leaf none (.node .leaf (some (.int .i64 0)) .leaf))),
   [.code (cd P (6 : Nat) [(1 : Nat), (1 : Nat), (1 : Nat), (1 : Nat), (0 : Nat), (1 : Nat), (0 : Nat), (0 : Nat)]), .inLoop (cd P (6 : Nat) [(1 : Nat), (1 : Nat), (1 : Nat), (1 : Nat), (0 : Nat), (1 : Nat), (0 : Nat), (0 : Nat)]), .inBlock 0, .code (cd P (6 : Nat) [(1 : Nat), (1 : Nat), (1 : Nat), (1 : Nat), (1 : Nat)])], [], .run, CallKind.normal, none⟩,
  [],
  ⟨(.node .leaf (some (.ro (.fn fun c => some (cell c)) lo z)) .leaf), 1, G⟩⟩
noncomputable def OB (cell cell' : Nat → AV) (i tn : Int) (m cp z y lo off k : Nat) (G : T (T AV)) : AM := ⟨⟨6, 191, (.node (.node .leaf (some (.int .u8 tn)) (.node (.node .leaf (some (.int .i64 i)) .leaf) (some (.slg 1 0 0 k 0)) .leaf)) (some (.slc 0 0 off m cp)) .leaf),
   [.code (cd P (6 : Nat) [(1 : Nat), (1 : Nat), (1 : Nat), (1 : Nat), (1 : Nat), (0 : Nat), (1 : Nat), (0 : Nat), (0 : Nat)]), .inLoop (cd P (6 : Nat) [(1 : Nat), (1 : Nat), (1 : Nat), (1 : Nat), (1 : Nat), (0 : Nat), (1 : Nat), (0 : Nat), (0 : Nat)]), .inBlock 2, .code (cd P (6 : Nat) [(1 : Nat), (1 : Nat), (1 : Nat), (1 : Nat), (1 : Nat), (1 : Nat)])], [], .run, CallKind.normal, none⟩,
  [],
  ⟨(.node (.node .leaf (some (.cells (.fn fun c => some (cell' c)) y 35 0 0 1 0 false .leaf)) .leaf) (some (.ro (.fn fun c => some (cell c)) lo z)) .leaf), 2, G⟩⟩
noncomputable def OY (cell : Nat → AV) (i tn : Int) (m cp z lo off : Nat) (G : T (T AV)) : AM := ⟨⟨6, 191, (.node (.node .leaf (some (.int .u8 tn)) (.node (.node .leaf (some (.int .i64 i)) .leaf) (some (.nils 0 0)) .leaf)) (some (.slc 0 0 off m cp)) .leaf),
   [.code (cd P (6 : Nat) [(1 : Nat), (1 : Nat), (1 : Nat), (1 : Nat), (1 : Nat), (0 : Nat), (1 : Nat), (0 : Nat), (0 : Nat)]), .inLoop (cd P (6 : Nat) [(1 : Nat), (1 : Nat), (1 : Nat), (1 : Nat), (1 : Nat), (0 : Nat), (1 : Nat), (0 : Nat), (0 : Nat)]), .inBlock 2, .code (cd P (6 : Nat) [(1 : Nat), (1 : Nat), (1 : Nat), (1 : Nat), (1 : Nat), (1 : Nat)])], [], .run, CallKind.normal, none⟩,
  [],
  ⟨(.node .leaf (some (.ro (.fn fun c => some (cell c)) lo z)) .leaf), 1, G⟩⟩

theorem oa (R : AV → Prop) (cell cell' cell2 cell3 cell4 : Nat → AV) (p q s : List UInt8) (a c e g i tn : Int) (n m cp z y y2 y3 y4 lo off k : Nat) (b : Bool) (G : T (T AV)) (K : AM → Prop) : Obl P 6 (fun v _ => R v) 0 K [.run 8, .callv [] (.bool true), .run 10, .op, .run 1, .slot 0 (.slc 0 0 off m cp), .run 5, .callh [(0, 0, [])] [0] (.slg 1 0 0 k 0) ⟨(.node (.node .leaf (some (.cells (.fn fun c => some (cell' c)) y 35 0 0 1 0 false .leaf)) .leaf) (some (.ro (.fn fun c => some (cell c)) lo z)) .leaf), 2, G⟩, .run 9, .can 0 [0, 1] [0, 1, 5, 6] []] ((startH P 6 [.slc 0 0 off n cp, .int .u8 tn] ⟨(.node .leaf (some (.ro (.fn fun c => some (cell c)) lo z)) .leaf), 1, G⟩)) = ((Goal P (0) 18 (fun x _ => x = AV.bool true) (startM P 18 [] G)) ∧ (((0 : Int) ≤ if decide ((200 : Int) < (↑n : Int)) = true then (200 : Int) else (↑n : Int)) ∧ (if decide ((200 : Int) < (↑n : Int)) = true then (200 : Int) else (↑n : Int)) ≤ (↑cp : Int)) ∧ (AV.slc (0) (0) (if cp = 0 then off else off) ((if decide ((200 : Int) < (↑n : Int)) = true then (200 : Int) else (↑n : Int)).toNat - 0) (cp - 0) = AV.slc (0) (0) off m cp) ∧ (PlainFn fun c => some (cell' c)) ∧ (Goal P (1) 12 (fun x j => x = AV.slg 1 0 0 k 0 ∧ j = { objs := (T.leaf.node (some (AObj.cells (T.fn fun c => some (cell' c)) y (35 : TypeId) 0 0 1 0 false T.leaf)) T.leaf).node (some (AObj.ro (T.fn fun c => some (cell c)) lo z)) T.leaf, next := 2, glob := G }) (startH P 12 [.slc 0 0 off m cp] ⟨(.node .leaf (some (.ro (.fn fun c => some (cell c)) lo z)) .leaf), 1, G⟩)) ∧ (PlainFn fun c => some (cell' c)) ∧ K (OA cell cell' (Int.ofNat (0)) tn m cp z y lo off k G)) := by kernel_rfl

theorem oz (R : AV → Prop) (cell cell' cell2 cell3 cell4 : Nat → AV) (p q s : List UInt8) (a c e g i tn : Int) (n m cp z y y2 y3 y4 lo off k : Nat) (b : Bool) (G : T (T AV)) (K : AM → Prop) : Obl P 6 (fun v _ => R v) 0 K [.run 8, .callv [] (.bool true), .run 10, .op, .run 1, .slot 0 (.slc 0 0 off m cp), .run 5, .callh [(0, 0, [])] [0] (.nils 0 0) ⟨(.node .leaf (some (.ro (.fn fun c => some (cell c)) lo z)) .leaf), 1, G⟩, .run 9, .can 0 [0] [0, 1, 5, 6] []] ((startH P 6 [.slc 0 0 off n cp, .int .u8 tn] ⟨(.node .leaf (some (.ro (.fn fun c => some (cell c)) lo z)) .leaf), 1, G⟩)) = ((Goal P (0) 18 (fun x _ => x = AV.bool true) (startM P 18 [] G)) ∧ (((0 : Int) ≤ if decide ((200 : Int) < (↑n : Int)) = true then (200 : Int) else (↑n : Int)) ∧ (if decide ((200 : Int) < (↑n : Int)) = true then (200 : Int) else (↑n : Int)) ≤ (↑cp : Int)) ∧ (AV.slc (0) (0) (if cp = 0 then off else off) ((if decide ((200 : Int) < (↑n : Int)) = true then (200 : Int) else (↑n : Int)).toNat - 0) (cp - 0) = AV.slc (0) (0) off m cp) ∧ (Goal P (1) 12 (fun x k => x = AV.nils 0 0 ∧ k = { objs := T.leaf.node (some (AObj.ro (T.fn fun c => some (cell c)) lo z)) T.leaf, next := 1, glob := G }) (startH P 12 [.slc 0 0 off m cp] ⟨(.node .leaf (some (.ro (.fn fun c => some (cell c)) lo z)) .leaf), 1, G⟩)) ∧ K (OZ cell tn m cp z lo off G)) := by kernel_rfl

theorem obynnnnnynynynn (R : AV → Prop) (cell cell' cell2 cell3 cell4 : Nat → AV) (p q s : List UInt8) (a c e g i tn : Int) (n m cp z y y2 y3 y4 lo off k : Nat) (b : Bool) (G : T (T AV)) (K : AM → Prop) : Obl P 6 (fun v _ => R v) 0 K [.run 8, .know 25 true, .run 9, .op, .run 1, .op, .slot 32 (.int .i64 c), .run 2, .know 34 false, .run 2, .op, .run 1, .op, .slot 39 (.int .i64 c), .run 3, .know 42 false, .run 2, .op, .run 1, .op, .slot 47 (.int .i64 a), .run 3, .know 50 false, .run 2, .op, .run 1, .op, .slot 55 (.int .i64 a), .run 3, .know 58 false, .run 2, .op, .run 1, .op, .slot 63 (.str p), .run 4, .know 66 false, .run 8, .know 68 true, .run 6, .op, .op, .slot 73 (.agg [.str q, .int .i64 e, .int .i64 g]), .run 2, .op, .op, .slot 77 (.agg [.str p, .int .i64 a, .int .i64 c]), .step, .step, .step, .run 10, .know 83 false, .run 6, .know 89 true, .run 6, .know 95 false, .run 6, .know 101 true, .run 10, .know 110 false, .run 7, .op, .op, .slot 115 (.agg [.str p, .int .i64 a, .int .i64 c]), .run 1, (.callh [(0, 0, [])] [0, 1] (.bool b) ⟨(.node .leaf (some (.ro (.fn fun c => some (cell c)) lo z)) .leaf), 1, G⟩), .run 2, .know 117 false, .run 9, .can 0 [0, 1] [0, 1, 5, 6] []] ((OA cell cell' i tn m cp z y lo off k G)) = ((decide (i < (↑k : Int)) = true) ∧ ((0 : Int) ≤ i ∧ i < (↑k : Int)) ∧ (0 + i.toNat * 3 + 2 + 1 ≤ y) ∧ (cell' (0 + i.toNat * 3 + 2) = AV.int IntKind.i64 c) ∧ (decide (c < (1 : Int)) = false) ∧ ((0 : Int) ≤ i ∧ i < (↑k : Int)) ∧ (0 + i.toNat * 3 + 2 + 1 ≤ y) ∧ (cell' (0 + i.toNat * 3 + 2) = AV.int IntKind.i64 c) ∧ (decide (c > (13 : Int)) = false) ∧ ((0 : Int) ≤ i ∧ i < (↑k : Int)) ∧ (0 + i.toNat * 3 + 1 + 1 ≤ y) ∧ (cell' (0 + i.toNat * 3 + 1) = AV.int IntKind.i64 a) ∧ (decide (a < (0 : Int)) = false) ∧ ((0 : Int) ≤ i ∧ i < (↑k : Int)) ∧ (0 + i.toNat * 3 + 1 + 1 ≤ y) ∧ (cell' (0 + i.toNat * 3 + 1) = AV.int IntKind.i64 a) ∧ (decide (a ≥ (2147483648 : Int)) = false) ∧ ((0 : Int) ≤ i ∧ i < (↑k : Int)) ∧ (0 + i.toNat * 3 + 1 ≤ y) ∧ (cell' (0 + i.toNat * 3) = AV.str p) ∧ (decide ((↑p.length : Int) > (200 : Int)) = false) ∧ (decide (i > (0 : Int)) = true) ∧ ((0 : Int) ≤ IntKind.i64.wrap (i - (1 : Int)) ∧ IntKind.i64.wrap (i - (1 : Int)) < (↑k : Int)) ∧ (0 + (IntKind.i64.wrap (i - (1 : Int))).toNat * 3 + 3 ≤ y) ∧ (AV.agg [cell' (0 + (IntKind.i64.wrap (i - (1 : Int))).toNat * 3), cell' (0 + (IntKind.i64.wrap (i - (1 : Int))).toNat * 3 + 1), cell' (0 + (IntKind.i64.wrap (i - (1 : Int))).toNat * 3 + 2)] = AV.agg [AV.str q, AV.int IntKind.i64 e, AV.int IntKind.i64 g]) ∧ ((0 : Int) ≤ i ∧ i < (↑k : Int)) ∧ (0 + i.toNat * 3 + 3 ≤ y) ∧ (AV.agg [cell' (0 + i.toNat * 3), cell' (0 + i.toNat * 3 + 1), cell' (0 + i.toNat * 3 + 2)] = AV.agg [AV.str p, AV.int IntKind.i64 a, AV.int IntKind.i64 c]) ∧ (0 + i.toNat * 3 + 3 ≤ y) ∧ (AV.agg [cell' (0 + i.toNat * 3), cell' (0 + i.toNat * 3 + 1), cell' (0 + i.toNat * 3 + 2)] = AV.agg [AV.str p, AV.int IntKind.i64 a, AV.int IntKind.i64 c]) ∧ (0 + (IntKind.i64.wrap (i - (1 : Int))).toNat * 3 + 3 ≤ y) ∧ (AV.agg [cell' (0 + (IntKind.i64.wrap (i - (1 : Int))).toNat * 3), cell' (0 + (IntKind.i64.wrap (i - (1 : Int))).toNat * 3 + 1), cell' (0 + (IntKind.i64.wrap (i - (1 : Int))).toNat * 3 + 2)] = AV.agg [AV.str q, AV.int IntKind.i64 e, AV.int IntKind.i64 g]) ∧ (some (AV.int IntKind.i64 (IntKind.i64.wrap (i - (1 : Int)))) = some (AV.int IntKind.i64 (IntKind.i64.wrap (i - (1 : Int))))) ∧ (0 + i.toNat * 3 + 3 ≤ y) ∧ (AV.agg [cell' (0 + i.toNat * 3), cell' (0 + i.toNat * 3 + 1), cell' (0 + i.toNat * 3 + 2)] = AV.agg [AV.str p, AV.int IntKind.i64 a, AV.int IntKind.i64 c]) ∧ (0 + (IntKind.i64.wrap (i - (1 : Int))).toNat * 3 + 3 ≤ y) ∧ (AV.agg [cell' (0 + (IntKind.i64.wrap (i - (1 : Int))).toNat * 3), cell' (0 + (IntKind.i64.wrap (i - (1 : Int))).toNat * 3 + 1), cell' (0 + (IntKind.i64.wrap (i - (1 : Int))).toNat * 3 + 2)] = AV.agg [AV.str q, AV.int IntKind.i64 e, AV.int IntKind.i64 g]) ∧ (some (AV.int IntKind.i64 (IntKind.i64.wrap (i - (1 : Int)))) = some (AV.int IntKind.i64 (IntKind.i64.wrap (i - (1 : Int))))) ∧ (0 + i.toNat * 3 + 3 ≤ y) ∧ (AV.agg [cell' (0 + i.toNat * 3), cell' (0 + i.toNat * 3 + 1), cell' (0 + i.toNat * 3 + 2)] = AV.agg [AV.str p, AV.int IntKind.i64 a, AV.int IntKind.i64 c]) ∧ ((!(Op.bytesLess q p || q == p)) = false) ∧ ((q == p) = true) ∧ (decide (e > a) = false) ∧ ((e == a) = true) ∧ (decide (g ≥ c) = false) ∧ ((0 : Int) ≤ i ∧ i < (↑k : Int)) ∧ (0 + i.toNat * 3 + 3 ≤ y) ∧ (AV.agg [cell' (0 + i.toNat * 3), cell' (0 + i.toNat * 3 + 1), cell' (0 + i.toNat * 3 + 2)] = AV.agg [AV.str p, AV.int IntKind.i64 a, AV.int IntKind.i64 c]) ∧ (Goal P (1) 22 (fun x k => x = AV.bool b ∧ k = { objs := T.leaf.node (some (AObj.ro (T.fn fun c => some (cell c)) lo z)) T.leaf, next := 1, glob := G }) (startH P 22 [.slc 0 0 off m cp, .agg [.str p, .int .i64 a, .int .i64 c]] ⟨(.node .leaf (some (.ro (.fn fun c => some (cell c)) lo z)) .leaf), 1, G⟩)) ∧ ((!b) = false) ∧ (PlainFn fun c => some (cell' c)) ∧ K (OA cell cell' (IntKind.i64.wrap (i + (1 : Int))) tn m cp z y lo off k G)) := by kernel_rfl

theorem obynnnnnynynnn (R : AV → Prop) (cell cell' cell2 cell3 cell4 : Nat → AV) (p q s : List UInt8) (a c e g i tn : Int) (n m cp z y y2 y3 y4 lo off k : Nat) (b : Bool) (G : T (T AV)) (K : AM → Prop) : Obl P 6 (fun v _ => R v) 0 K [.run 8, .know 25 true, .run 9, .op, .run 1, .op, .slot 32 (.int .i64 c), .run 2, .know 34 false, .run 2, .op, .run 1, .op, .slot 39 (.int .i64 c), .run 3, .know 42 false, .run 2, .op, .run 1, .op, .slot 47 (.int .i64 a), .run 3, .know 50 false, .run 2, .op, .run 1, .op, .slot 55 (.int .i64 a), .run 3, .know 58 false, .run 2, .op, .run 1, .op, .slot 63 (.str p), .run 4, .know 66 false, .run 8, .know 68 true, .run 6, .op, .op, .slot 73 (.agg [.str q, .int .i64 e, .int .i64 g]), .run 2, .op, .op, .slot 77 (.agg [.str p, .int .i64 a, .int .i64 c]), .step, .step, .step, .run 10, .know 83 false, .run 6, .know 89 true, .run 6, .know 95 false, .run 6, .know 101 false, .run 17, .op, .op, .slot 115 (.agg [.str p, .int .i64 a, .int .i64 c]), .run 1, (.callh [(0, 0, [])] [0, 1] (.bool b) ⟨(.node .leaf (some (.ro (.fn fun c => some (cell c)) lo z)) .leaf), 1, G⟩), .run 2, .know 117 false, .run 9, .can 0 [0, 1] [0, 1, 5, 6] []] ((OA cell cell' i tn m cp z y lo off k G)) = ((decide (i < (↑k : Int)) = true) ∧ ((0 : Int) ≤ i ∧ i < (↑k : Int)) ∧ (0 + i.toNat * 3 + 2 + 1 ≤ y) ∧ (cell' (0 + i.toNat * 3 + 2) = AV.int IntKind.i64 c) ∧ (decide (c < (1 : Int)) = false) ∧ ((0 : Int) ≤ i ∧ i < (↑k : Int)) ∧ (0 + i.toNat * 3 + 2 + 1 ≤ y) ∧ (cell' (0 + i.toNat * 3 + 2) = AV.int IntKind.i64 c) ∧ (decide (c > (13 : Int)) = false) ∧ ((0 : Int) ≤ i ∧ i < (↑k : Int)) ∧ (0 + i.toNat * 3 + 1 + 1 ≤ y) ∧ (cell' (0 + i.toNat * 3 + 1) = AV.int IntKind.i64 a) ∧ (decide (a < (0 : Int)) = false) ∧ ((0 : Int) ≤ i ∧ i < (↑k : Int)) ∧ (0 + i.toNat * 3 + 1 + 1 ≤ y) ∧ (cell' (0 + i.toNat * 3 + 1) = AV.int IntKind.i64 a) ∧ (decide (a ≥ (2147483648 : Int)) = false) ∧ ((0 : Int) ≤ i ∧ i < (↑k : Int)) ∧ (0 + i.toNat * 3 + 1 ≤ y) ∧ (cell' (0 + i.toNat * 3) = AV.str p) ∧ (decide ((↑p.length : Int) > (200 : Int)) = false) ∧ (decide (i > (0 : Int)) = true) ∧ ((0 : Int) ≤ IntKind.i64.wrap (i - (1 : Int)) ∧ IntKind.i64.wrap (i - (1 : Int)) < (↑k : Int)) ∧ (0 + (IntKind.i64.wrap (i - (1 : Int))).toNat * 3 + 3 ≤ y) ∧ (AV.agg [cell' (0 + (IntKind.i64.wrap (i - (1 : Int))).toNat * 3), cell' (0 + (IntKind.i64.wrap (i - (1 : Int))).toNat * 3 + 1), cell' (0 + (IntKind.i64.wrap (i - (1 : Int))).toNat * 3 + 2)] = AV.agg [AV.str q, AV.int IntKind.i64 e, AV.int IntKind.i64 g]) ∧ ((0 : Int) ≤ i ∧ i < (↑k : Int)) ∧ (0 + i.toNat * 3 + 3 ≤ y) ∧ (AV.agg [cell' (0 + i.toNat * 3), cell' (0 + i.toNat * 3 + 1), cell' (0 + i.toNat * 3 + 2)] = AV.agg [AV.str p, AV.int IntKind.i64 a, AV.int IntKind.i64 c]) ∧ (0 + i.toNat * 3 + 3 ≤ y) ∧ (AV.agg [cell' (0 + i.toNat * 3), cell' (0 + i.toNat * 3 + 1), cell' (0 + i.toNat * 3 + 2)] = AV.agg [AV.str p, AV.int IntKind.i64 a, AV.int IntKind.i64 c]) ∧ (0 + (IntKind.i64.wrap (i - (1 : Int))).toNat * 3 + 3 ≤ y) ∧ (AV.agg [cell' (0 + (IntKind.i64.wrap (i - (1 : Int))).toNat * 3), cell' (0 + (IntKind.i64.wrap (i - (1 : Int))).toNat * 3 + 1), cell' (0 + (IntKind.i64.wrap (i - (1 : Int))).toNat * 3 + 2)] = AV.agg [AV.str q, AV.int IntKind.i64 e, AV.int IntKind.i64 g]) ∧ (some (AV.int IntKind.i64 (IntKind.i64.wrap (i - (1 : Int)))) = some (AV.int IntKind.i64 (IntKind.i64.wrap (i - (1 : Int))))) ∧ (0 + i.toNat * 3 + 3 ≤ y) ∧ (AV.agg [cell' (0 + i.toNat * 3), cell' (0 + i.toNat * 3 + 1), cell' (0 + i.toNat * 3 + 2)] = AV.agg [AV.str p, AV.int IntKind.i64 a, AV.int IntKind.i64 c]) ∧ (0 + (IntKind.i64.wrap (i - (1 : Int))).toNat * 3 + 3 ≤ y) ∧ (AV.agg [cell' (0 + (IntKind.i64.wrap (i - (1 : Int))).toNat * 3), cell' (0 + (IntKind.i64.wrap (i - (1 : Int))).toNat * 3 + 1), cell' (0 + (IntKind.i64.wrap (i - (1 : Int))).toNat * 3 + 2)] = AV.agg [AV.str q, AV.int IntKind.i64 e, AV.int IntKind.i64 g]) ∧ (some (AV.int IntKind.i64 (IntKind.i64.wrap (i - (1 : Int)))) = some (AV.int IntKind.i64 (IntKind.i64.wrap (i - (1 : Int))))) ∧ (0 + i.toNat * 3 + 3 ≤ y) ∧ (AV.agg [cell' (0 + i.toNat * 3), cell' (0 + i.toNat * 3 + 1), cell' (0 + i.toNat * 3 + 2)] = AV.agg [AV.str p, AV.int IntKind.i64 a, AV.int IntKind.i64 c]) ∧ ((!(Op.bytesLess q p || q == p)) = false) ∧ ((q == p) = true) ∧ (decide (e > a) = false) ∧ ((e == a) = false) ∧ ((0 : Int) ≤ i ∧ i < (↑k : Int)) ∧ (0 + i.toNat * 3 + 3 ≤ y) ∧ (AV.agg [cell' (0 + i.toNat * 3), cell' (0 + i.toNat * 3 + 1), cell' (0 + i.toNat * 3 + 2)] = AV.agg [AV.str p, AV.int IntKind.i64 a, AV.int IntKind.i64 c]) ∧ (Goal P (1) 22 (fun x k => x = AV.bool b ∧ k = { objs := T.leaf.node (some (AObj.ro (T.fn fun c => some (cell c)) lo z)) T.leaf, next := 1, glob := G }) (startH P 22 [.slc 0 0 off m cp, .agg [.str p, .int .i64 a, .int .i64 c]] ⟨(.node .leaf (some (.ro (.fn fun c => some (cell c)) lo z)) .leaf), 1, G⟩)) ∧ ((!b) = false) ∧ (PlainFn fun c => some (cell' c)) ∧ K (OA cell cell' (IntKind.i64.wrap (i + (1 : Int))) tn m cp z y lo off k G)) := by kernel_rfl

theorem obynnnnnynnn (R : AV → Prop) (cell cell' cell2 cell3 cell4 : Nat → AV) (p q s : List UInt8) (a c e g i tn : Int) (n m cp z y y2 y3 y4 lo off k : Nat) (b : Bool) (G : T (T AV)) (K : AM → Prop) : Obl P 6 (fun v _ => R v) 0 K [.run 8, .know 25 true, .run 9, .op, .run 1, .op, .slot 32 (.int .i64 c), .run 2, .know 34 false, .run 2, .op, .run 1, .op, .slot 39 (.int .i64 c), .run 3, .know 42 false, .run 2, .op, .run 1, .op, .slot 47 (.int .i64 a), .run 3, .know 50 false, .run 2, .op, .run 1, .op, .slot 55 (.int .i64 a), .run 3, .know 58 false, .run 2, .op, .run 1, .op, .slot 63 (.str p), .run 4, .know 66 false, .run 8, .know 68 true, .run 6, .op, .op, .slot 73 (.agg [.str q, .int .i64 e, .int .i64 g]), .run 2, .op, .op, .slot 77 (.agg [.str p, .int .i64 a, .int .i64 c]), .step, .step, .step, .run 10, .know 83 false, .run 6, .know 89 false, .run 29, .op, .op, .slot 115 (.agg [.str p, .int .i64 a, .int .i64 c]), .run 1, (.callh [(0, 0, [])] [0, 1] (.bool b) ⟨(.node .leaf (some (.ro (.fn fun c => some (cell c)) lo z)) .leaf), 1, G⟩), .run 2, .know 117 false, .run 9, .can 0 [0, 1] [0, 1, 5, 6] []] ((OA cell cell' i tn m cp z y lo off k G)) = ((decide (i < (↑k : Int)) = true) ∧ ((0 : Int) ≤ i ∧ i < (↑k : Int)) ∧ (0 + i.toNat * 3 + 2 + 1 ≤ y) ∧ (cell' (0 + i.toNat * 3 + 2) = AV.int IntKind.i64 c) ∧ (decide (c < (1 : Int)) = false) ∧ ((0 : Int) ≤ i ∧ i < (↑k : Int)) ∧ (0 + i.toNat * 3 + 2 + 1 ≤ y) ∧ (cell' (0 + i.toNat * 3 + 2) = AV.int IntKind.i64 c) ∧ (decide (c > (13 : Int)) = false) ∧ ((0 : Int) ≤ i ∧ i < (↑k : Int)) ∧ (0 + i.toNat * 3 + 1 + 1 ≤ y) ∧ (cell' (0 + i.toNat * 3 + 1) = AV.int IntKind.i64 a) ∧ (decide (a < (0 : Int)) = false) ∧ ((0 : Int) ≤ i ∧ i < (↑k : Int)) ∧ (0 + i.toNat * 3 + 1 + 1 ≤ y) ∧ (cell' (0 + i.toNat * 3 + 1) = AV.int IntKind.i64 a) ∧ (decide (a ≥ (2147483648 : Int)) = false) ∧ ((0 : Int) ≤ i ∧ i < (↑k : Int)) ∧ (0 + i.toNat * 3 + 1 ≤ y) ∧ (cell' (0 + i.toNat * 3) = AV.str p) ∧ (decide ((↑p.length : Int) > (200 : Int)) = false) ∧ (decide (i > (0 : Int)) = true) ∧ ((0 : Int) ≤ IntKind.i64.wrap (i - (1 : Int)) ∧ IntKind.i64.wrap (i - (1 : Int)) < (↑k : Int)) ∧ (0 + (IntKind.i64.wrap (i - (1 : Int))).toNat * 3 + 3 ≤ y) ∧ (AV.agg [cell' (0 + (IntKind.i64.wrap (i - (1 : Int))).toNat * 3), cell' (0 + (IntKind.i64.wrap (i - (1 : Int))).toNat * 3 + 1), cell' (0 + (IntKind.i64.wrap (i - (1 : Int))).toNat * 3 + 2)] = AV.agg [AV.str q, AV.int IntKind.i64 e, AV.int IntKind.i64 g]) ∧ ((0 : Int) ≤ i ∧ i < (↑k : Int)) ∧ (0 + i.toNat * 3 + 3 ≤ y) ∧ (AV.agg [cell' (0 + i.toNat * 3), cell' (0 + i.toNat * 3 + 1), cell' (0 + i.toNat * 3 + 2)] = AV.agg [AV.str p, AV.int IntKind.i64 a, AV.int IntKind.i64 c]) ∧ (0 + i.toNat * 3 + 3 ≤ y) ∧ (AV.agg [cell' (0 + i.toNat * 3), cell' (0 + i.toNat * 3 + 1), cell' (0 + i.toNat * 3 + 2)] = AV.agg [AV.str p, AV.int IntKind.i64 a, AV.int IntKind.i64 c]) ∧ (0 + (IntKind.i64.wrap (i - (1 : Int))).toNat * 3 + 3 ≤ y) ∧ (AV.agg [cell' (0 + (IntKind.i64.wrap (i - (1 : Int))).toNat * 3), cell' (0 + (IntKind.i64.wrap (i - (1 : Int))).toNat * 3 + 1), cell' (0 + (IntKind.i64.wrap (i - (1 : Int))).toNat * 3 + 2)] = AV.agg [AV.str q, AV.int IntKind.i64 e, AV.int IntKind.i64 g]) ∧ (some (AV.int IntKind.i64 (IntKind.i64.wrap (i - (1 : Int)))) = some (AV.int IntKind.i64 (IntKind.i64.wrap (i - (1 : Int))))) ∧ (0 + i.toNat * 3 + 3 ≤ y) ∧ (AV.agg [cell' (0 + i.toNat * 3), cell' (0 + i.toNat * 3 + 1), cell' (0 + i.toNat * 3 + 2)] = AV.agg [AV.str p, AV.int IntKind.i64 a, AV.int IntKind.i64 c]) ∧ (0 + (IntKind.i64.wrap (i - (1 : Int))).toNat * 3 + 3 ≤ y) ∧ (AV.agg [cell' (0 + (IntKind.i64.wrap (i - (1 : Int))).toNat * 3), cell' (0 + (IntKind.i64.wrap (i - (1 : Int))).toNat * 3 + 1), cell' (0 + (IntKind.i64.wrap (i - (1 : Int))).toNat * 3 + 2)] = AV.agg [AV.str q, AV.int IntKind.i64 e, AV.int IntKind.i64 g]) ∧ (some (AV.int IntKind.i64 (IntKind.i64.wrap (i - (1 : Int)))) = some (AV.int IntKind.i64 (IntKind.i64.wrap (i - (1 : Int))))) ∧ (0 + i.toNat * 3 + 3 ≤ y) ∧ (AV.agg [cell' (0 + i.toNat * 3), cell' (0 + i.toNat * 3 + 1), cell' (0 + i.toNat * 3 + 2)] = AV.agg [AV.str p, AV.int IntKind.i64 a, AV.int IntKind.i64 c]) ∧ ((!(Op.bytesLess q p || q == p)) = false) ∧ ((q == p) = false) ∧ ((0 : Int) ≤ i ∧ i < (↑k : Int)) ∧ (0 + i.toNat * 3 + 3 ≤ y) ∧ (AV.agg [cell' (0 + i.toNat * 3), cell' (0 + i.toNat * 3 + 1), cell' (0 + i.toNat * 3 + 2)] = AV.agg [AV.str p, AV.int IntKind.i64 a, AV.int IntKind.i64 c]) ∧ (Goal P (1) 22 (fun x k => x = AV.bool b ∧ k = { objs := T.leaf.node (some (AObj.ro (T.fn fun c => some (cell c)) lo z)) T.leaf, next := 1, glob := G }) (startH P 22 [.slc 0 0 off m cp, .agg [.str p, .int .i64 a, .int .i64 c]] ⟨(.node .leaf (some (.ro (.fn fun c => some (cell c)) lo z)) .leaf), 1, G⟩)) ∧ ((!b) = false) ∧ (PlainFn fun c => some (cell' c)) ∧ K (OA cell cell' (IntKind.i64.wrap (i + (1 : Int))) tn m cp z y lo off k G)) := by kernel_rfl

theorem obynnnnnnn (R : AV → Prop) (cell cell' cell2 cell3 cell4 : Nat → AV) (p q s : List UInt8) (a c e g i tn : Int) (n m cp z y y2 y3 y4 lo off k : Nat) (b : Bool) (G : T (T AV)) (K : AM → Prop) : Obl P 6 (fun v _ => R v) 0 K [.run 8, .know 25 true, .run 9, .op, .run 1, .op, .slot 32 (.int .i64 c), .run 2, .know 34 false, .run 2, .op, .run 1, .op, .slot 39 (.int .i64 c), .run 3, .know 42 false, .run 2, .op, .run 1, .op, .slot 47 (.int .i64 a), .run 3, .know 50 false, .run 2, .op, .run 1, .op, .slot 55 (.int .i64 a), .run 3, .know 58 false, .run 2, .op, .run 1, .op, .slot 63 (.str p), .run 4, .know 66 false, .run 8, .know 68 false, .run 7, .op, .op, .slot 115 (.agg [.str p, .int .i64 a, .int .i64 c]), .run 1, (.callh [(0, 0, [])] [0, 1] (.bool b) ⟨(.node .leaf (some (.ro (.fn fun c => some (cell c)) lo z)) .leaf), 1, G⟩), .run 2, .know 117 false, .run 9, .can 0 [0, 1] [0, 1, 5, 6] []] ((OA cell cell' i tn m cp z y lo off k G)) = ((decide (i < (↑k : Int)) = true) ∧ ((0 : Int) ≤ i ∧ i < (↑k : Int)) ∧ (0 + i.toNat * 3 + 2 + 1 ≤ y) ∧ (cell' (0 + i.toNat * 3 + 2) = AV.int IntKind.i64 c) ∧ (decide (c < (1 : Int)) = false) ∧ ((0 : Int) ≤ i ∧ i < (↑k : Int)) ∧ (0 + i.toNat * 3 + 2 + 1 ≤ y) ∧ (cell' (0 + i.toNat * 3 + 2) = AV.int IntKind.i64 c) ∧ (decide (c > (13 : Int)) = false) ∧ ((0 : Int) ≤ i ∧ i < (↑k : Int)) ∧ (0 + i.toNat * 3 + 1 + 1 ≤ y) ∧ (cell' (0 + i.toNat * 3 + 1) = AV.int IntKind.i64 a) ∧ (decide (a < (0 : Int)) = false) ∧ ((0 : Int) ≤ i ∧ i < (↑k : Int)) ∧ (0 + i.toNat * 3 + 1 + 1 ≤ y) ∧ (cell' (0 + i.toNat * 3 + 1) = AV.int IntKind.i64 a) ∧ (decide (a ≥ (2147483648 : Int)) = false) ∧ ((0 : Int) ≤ i ∧ i < (↑k : Int)) ∧ (0 + i.toNat * 3 + 1 ≤ y) ∧ (cell' (0 + i.toNat * 3) = AV.str p) ∧ (decide ((↑p.length : Int) > (200 : Int)) = false) ∧ (decide (i > (0 : Int)) = false) ∧ ((0 : Int) ≤ i ∧ i < (↑k : Int)) ∧ (0 + i.toNat * 3 + 3 ≤ y) ∧ (AV.agg [cell' (0 + i.toNat * 3), cell' (0 + i.toNat * 3 + 1), cell' (0 + i.toNat * 3 + 2)] = AV.agg [AV.str p, AV.int IntKind.i64 a, AV.int IntKind.i64 c]) ∧ (Goal P (1) 22 (fun x k => x = AV.bool b ∧ k = { objs := T.leaf.node (some (AObj.ro (T.fn fun c => some (cell c)) lo z)) T.leaf, next := 1, glob := G }) (startH P 22 [.slc 0 0 off m cp, .agg [.str p, .int .i64 a, .int .i64 c]] ⟨(.node .leaf (some (.ro (.fn fun c => some (cell c)) lo z)) .leaf), 1, G⟩)) ∧ ((!b) = false) ∧ (PlainFn fun c => some (cell' c)) ∧ K (OA cell cell' (IntKind.i64.wrap (i + (1 : Int))) tn m cp z y lo off k G)) := by kernel_rfl

theorem obn (R : AV → Prop) (cell cell' cell2 cell3 cell4 : Nat → AV) (p q s : List UInt8) (a c e g i tn : Int) (n m cp z y y2 y3 y4 lo off k : Nat) (b : Bool) (G : T (T AV)) (K : AM → Prop) : Obl P 6 (fun v _ => R v) 0 K [.run 8, .know 25 false, .run 9, .can 0 [0, 1] [0, 1, 5, 9] []] ((OA cell cell' i tn m cp z y lo off k G)) = ((decide (i < (↑k : Int)) = false) ∧ (PlainFn fun c => some (cell' c)) ∧ K (OB cell cell' (Int.ofNat (0)) tn m cp z y lo off k G)) := by kernel_rfl

theorem oy (R : AV → Prop) (cell cell' cell2 cell3 cell4 : Nat → AV) (p q s : List UInt8) (a c e g i tn : Int) (n m cp z y y2 y3 y4 lo off k : Nat) (b : Bool) (G : T (T AV)) (K : AM → Prop) : Obl P 6 (fun v _ => R v) 0 K [.run 17, .can 0 [0] [0, 1, 5, 9] []] ((OZ cell tn m cp z lo off G)) = (K (OY cell (Int.ofNat (0)) tn m cp z lo off G)) := by kernel_rfl

theorem odyyyyyyn (R : AV → Prop) (cell cell' cell2 cell3 cell4 : Nat → AV) (p q s : List UInt8) (a c e g i tn : Int) (n m cp z y y2 y3 y4 lo off k : Nat) (b : Bool) (G : T (T AV)) (K : AM → Prop) : Obl P 6 (fun v _ => R v) 0 K [.run 8, .know 121 true, .run 8, .op, .op, .slot 127 (.agg [.str p, .int .i64 a, .int .i64 c]), .run 9, .know 131 true, .run 5, .know 136 true, .run 5, .know 141 true, .run 5, .know 146 true, .run 6, .know 152 true, .run 3, (.callh [(1, 0, [])] [0, 1] (.bool b) ⟨(.node .leaf (some (.cells (.fn fun c => some (cell' c)) y 35 0 0 1 0 false .leaf)) .leaf), 1, G⟩), .run 3, .know 157 false, .run 9, .can 0 [0, 1] [0, 1, 5, 9] []] ((OB cell cell' i tn m cp z y lo off k G)) = ((decide (i < (↑m : Int)) = true) ∧ ((0 : Int) ≤ i ∧ i < (↑m : Int)) ∧ (lo ≤ off + i.toNat * 3 ∧ off + i.toNat * 3 + 3 ≤ z) ∧ (AV.agg [cell (off + i.toNat * 3), cell (off + i.toNat * 3 + 1), cell (off + i.toNat * 3 + 2)] = AV.agg [AV.str p, AV.int IntKind.i64 a, AV.int IntKind.i64 c]) ∧ (decide (c ≥ (1 : Int)) = true) ∧ (decide (c ≤ (13 : Int)) = true) ∧ (decide (a ≥ (0 : Int)) = true) ∧ (decide (a < (2147483648 : Int)) = true) ∧ (decide ((↑p.length : Int) ≤ (200 : Int)) = true) ∧ (PlainFn fun c => some (cell' c)) ∧ (PlainFn fun c => some (cell' c)) ∧ (Goal P (1) 22 (fun x k => x = AV.bool b ∧ k = { objs := T.leaf.node (some (AObj.cells (T.fn fun c => some (cell' c)) y (35 : TypeId) 0 0 1 0 false T.leaf)) T.leaf, next := 1, glob := G }) (startH P 22 [.slg 0 0 0 k 0, .agg [.str p, .int .i64 a, .int .i64 c]] ⟨(.node .leaf (some (.cells (.fn fun c => some (cell' c)) y 35 0 0 1 0 false .leaf)) .leaf), 1, G⟩)) ∧ ((!b) = false) ∧ (PlainFn fun c => some (cell' c)) ∧ K (OB cell cell' (IntKind.i64.wrap (i + (1 : Int))) tn m cp z y lo off k G)) := by kernel_rfl

theorem odyyyyyn (R : AV → Prop) (cell cell' cell2 cell3 cell4 : Nat → AV) (p q s : List UInt8) (a c e g i tn : Int) (n m cp z y y2 y3 y4 lo off k : Nat) (b : Bool) (G : T (T AV)) (K : AM → Prop) : Obl P 6 (fun v _ => R v) 0 K [.run 8, .know 121 true, .run 8, .op, .op, .slot 127 (.agg [.str p, .int .i64 a, .int .i64 c]), .run 9, .know 131 true, .run 5, .know 136 true, .run 5, .know 141 true, .run 5, .know 146 true, .run 6, .know 152 false, .run 15, .can 0 [0, 1] [0, 1, 5, 9] []] ((OB cell cell' i tn m cp z y lo off k G)) = ((decide (i < (↑m : Int)) = true) ∧ ((0 : Int) ≤ i ∧ i < (↑m : Int)) ∧ (lo ≤ off + i.toNat * 3 ∧ off + i.toNat * 3 + 3 ≤ z) ∧ (AV.agg [cell (off + i.toNat * 3), cell (off + i.toNat * 3 + 1), cell (off + i.toNat * 3 + 2)] = AV.agg [AV.str p, AV.int IntKind.i64 a, AV.int IntKind.i64 c]) ∧ (decide (c ≥ (1 : Int)) = true) ∧ (decide (c ≤ (13 : Int)) = true) ∧ (decide (a ≥ (0 : Int)) = true) ∧ (decide (a < (2147483648 : Int)) = true) ∧ (decide ((↑p.length : Int) ≤ (200 : Int)) = false) ∧ (PlainFn fun c => some (cell' c)) ∧ K (OB cell cell' (IntKind.i64.wrap (i + (1 : Int))) tn m cp z y lo off k G)) := by kernel_rfl

theorem odyyyyn (R : AV → Prop) (cell cell' cell2 cell3 cell4 : Nat → AV) (p q s : List UInt8) (a c e g i tn : Int) (n m cp z y y2 y3 y4 lo off k : Nat) (b : Bool) (G : T (T AV)) (K : AM → Prop) : Obl P 6 (fun v _ => R v) 0 K [.run 8, .know 121 true, .run 8, .op, .op, .slot 127 (.agg [.str p, .int .i64 a, .int .i64 c]), .run 9, .know 131 true, .run 5, .know 136 true, .run 5, .know 141 true, .run 5, .know 146 false, .run 21, .can 0 [0, 1] [0, 1, 5, 9] []] ((OB cell cell' i tn m cp z y lo off k G)) = ((decide (i < (↑m : Int)) = true) ∧ ((0 : Int) ≤ i ∧ i < (↑m : Int)) ∧ (lo ≤ off + i.toNat * 3 ∧ off + i.toNat * 3 + 3 ≤ z) ∧ (AV.agg [cell (off + i.toNat * 3), cell (off + i.toNat * 3 + 1), cell (off + i.toNat * 3 + 2)] = AV.agg [AV.str p, AV.int IntKind.i64 a, AV.int IntKind.i64 c]) ∧ (decide (c ≥ (1 : Int)) = true) ∧ (decide (c ≤ (13 : Int)) = true) ∧ (decide (a ≥ (0 : Int)) = true) ∧ (decide (a < (2147483648 : Int)) = false) ∧ (PlainFn fun c => some (cell' c)) ∧ K (OB cell cell' (IntKind.i64.wrap (i + (1 : Int))) tn m cp z y lo off k G)) := by kernel_rfl

theorem odyyyn (R : AV → Prop) (cell cell' cell2 cell3 cell4 : Nat → AV) (p q s : List UInt8) (a c e g i tn : Int) (n m cp z y y2 y3 y4 lo off k : Nat) (b : Bool) (G : T (T AV)) (K : AM → Prop) : Obl P 6 (fun v _ => R v) 0 K [.run 8, .know 121 true, .run 8, .op, .op, .slot 127 (.agg [.str p, .int .i64 a, .int .i64 c]), .run 9, .know 131 true, .run 5, .know 136 true, .run 5, .know 141 false, .run 26, .can 0 [0, 1] [0, 1, 5, 9] []] ((OB cell cell' i tn m cp z y lo off k G)) = ((decide (i < (↑m : Int)) = true) ∧ ((0 : Int) ≤ i ∧ i < (↑m : Int)) ∧ (lo ≤ off + i.toNat * 3 ∧ off + i.toNat * 3 + 3 ≤ z) ∧ (AV.agg [cell (off + i.toNat * 3), cell (off + i.toNat * 3 + 1), cell (off + i.toNat * 3 + 2)] = AV.agg [AV.str p, AV.int IntKind.i64 a, AV.int IntKind.i64 c]) ∧ (decide (c ≥ (1 : Int)) = true) ∧ (decide (c ≤ (13 : Int)) = true) ∧ (decide (a ≥ (0 : Int)) = false) ∧ (PlainFn fun c => some (cell' c)) ∧ K (OB cell cell' (IntKind.i64.wrap (i + (1 : Int))) tn m cp z y lo off k G)) := by kernel_rfl

theorem odyyn (R : AV → Prop) (cell cell' cell2 cell3 cell4 : Nat → AV) (p q s : List UInt8) (a c e g i tn : Int) (n m cp z y y2 y3 y4 lo off k : Nat) (b : Bool) (G : T (T AV)) (K : AM → Prop) : Obl P 6 (fun v _ => R v) 0 K [.run 8, .know 121 true, .run 8, .op, .op, .slot 127 (.agg [.str p, .int .i64 a, .int .i64 c]), .run 9, .know 131 true, .run 5, .know 136 false, .run 31, .can 0 [0, 1] [0, 1, 5, 9] []] ((OB cell cell' i tn m cp z y lo off k G)) = ((decide (i < (↑m : Int)) = true) ∧ ((0 : Int) ≤ i ∧ i < (↑m : Int)) ∧ (lo ≤ off + i.toNat * 3 ∧ off + i.toNat * 3 + 3 ≤ z) ∧ (AV.agg [cell (off + i.toNat * 3), cell (off + i.toNat * 3 + 1), cell (off + i.toNat * 3 + 2)] = AV.agg [AV.str p, AV.int IntKind.i64 a, AV.int IntKind.i64 c]) ∧ (decide (c ≥ (1 : Int)) = true) ∧ (decide (c ≤ (13 : Int)) = false) ∧ (PlainFn fun c => some (cell' c)) ∧ K (OB cell cell' (IntKind.i64.wrap (i + (1 : Int))) tn m cp z y lo off k G)) := by kernel_rfl

theorem odyn (R : AV → Prop) (cell cell' cell2 cell3 cell4 : Nat → AV) (p q s : List UInt8) (a c e g i tn : Int) (n m cp z y y2 y3 y4 lo off k : Nat) (b : Bool) (G : T (T AV)) (K : AM → Prop) : Obl P 6 (fun v _ => R v) 0 K [.run 8, .know 121 true, .run 8, .op, .op, .slot 127 (.agg [.str p, .int .i64 a, .int .i64 c]), .run 9, .know 131 false, .run 36, .can 0 [0, 1] [0, 1, 5, 9] []] ((OB cell cell' i tn m cp z y lo off k G)) = ((decide (i < (↑m : Int)) = true) ∧ ((0 : Int) ≤ i ∧ i < (↑m : Int)) ∧ (lo ≤ off + i.toNat * 3 ∧ off + i.toNat * 3 + 3 ≤ z) ∧ (AV.agg [cell (off + i.toNat * 3), cell (off + i.toNat * 3 + 1), cell (off + i.toNat * 3 + 2)] = AV.agg [AV.str p, AV.int IntKind.i64 a, AV.int IntKind.i64 c]) ∧ (decide (c ≥ (1 : Int)) = false) ∧ (PlainFn fun c => some (cell' c)) ∧ K (OB cell cell' (IntKind.i64.wrap (i + (1 : Int))) tn m cp z y lo off k G)) := by kernel_rfl

theorem oeyyyyyyn (R : AV → Prop) (cell cell' cell2 cell3 cell4 : Nat → AV) (p q s : List UInt8) (a c e g i tn : Int) (n m cp z y y2 y3 y4 lo off k : Nat) (b : Bool) (G : T (T AV)) (K : AM → Prop) : Obl P 6 (fun v _ => R v) 0 K [.run 8, .know 121 true, .run 8, .op, .op, .slot 127 (.agg [.str p, .int .i64 a, .int .i64 c]), .run 9, .know 131 true, .run 5, .know 136 true, .run 5, .know 141 true, .run 5, .know 146 true, .run 6, .know 152 true, .run 3, (.callh [] [0, 1] (.bool b) ⟨.leaf, 0, G⟩), .run 3, .know 157 false, .run 9, .can 0 [0] [0, 1, 5, 9] []] ((OY cell i tn m cp z lo off G)) = ((decide (i < (↑m : Int)) = true) ∧ ((0 : Int) ≤ i ∧ i < (↑m : Int)) ∧ (lo ≤ off + i.toNat * 3 ∧ off + i.toNat * 3 + 3 ≤ z) ∧ (AV.agg [cell (off + i.toNat * 3), cell (off + i.toNat * 3 + 1), cell (off + i.toNat * 3 + 2)] = AV.agg [AV.str p, AV.int IntKind.i64 a, AV.int IntKind.i64 c]) ∧ (decide (c ≥ (1 : Int)) = true) ∧ (decide (c ≤ (13 : Int)) = true) ∧ (decide (a ≥ (0 : Int)) = true) ∧ (decide (a < (2147483648 : Int)) = true) ∧ (decide ((↑p.length : Int) ≤ (200 : Int)) = true) ∧ (Goal P (0) 22 (fun x k => x = AV.bool b ∧ k = { objs := T.leaf, next := 0, glob := G }) (startM P 22 [.nils 0 0, .agg [.str p, .int .i64 a, .int .i64 c]] G)) ∧ ((!b) = false) ∧ K (OY cell (IntKind.i64.wrap (i + (1 : Int))) tn m cp z lo off G)) := by kernel_rfl

theorem oeyyyyyn (R : AV → Prop) (cell cell' cell2 cell3 cell4 : Nat → AV) (p q s : List UInt8) (a c e g i tn : Int) (n m cp z y y2 y3 y4 lo off k : Nat) (b : Bool) (G : T (T AV)) (K : AM → Prop) : Obl P 6 (fun v _ => R v) 0 K [.run 8, .know 121 true, .run 8, .op, .op, .slot 127 (.agg [.str p, .int .i64 a, .int .i64 c]), .run 9, .know 131 true, .run 5, .know 136 true, .run 5, .know 141 true, .run 5, .know 146 true, .run 6, .know 152 false, .run 15, .can 0 [0] [0, 1, 5, 9] []] ((OY cell i tn m cp z lo off G)) = ((decide (i < (↑m : Int)) = true) ∧ ((0 : Int) ≤ i ∧ i < (↑m : Int)) ∧ (lo ≤ off + i.toNat * 3 ∧ off + i.toNat * 3 + 3 ≤ z) ∧ (AV.agg [cell (off + i.toNat * 3), cell (off + i.toNat * 3 + 1), cell (off + i.toNat * 3 + 2)] = AV.agg [AV.str p, AV.int IntKind.i64 a, AV.int IntKind.i64 c]) ∧ (decide (c ≥ (1 : Int)) = true) ∧ (decide (c ≤ (13 : Int)) = true) ∧ (decide (a ≥ (0 : Int)) = true) ∧ (decide (a < (2147483648 : Int)) = true) ∧ (decide ((↑p.length : Int) ≤ (200 : Int)) = false) ∧ K (OY cell (IntKind.i64.wrap (i + (1 : Int))) tn m cp z lo off G)) := by kernel_rfl

theorem oeyyyyn (R : AV → Prop) (cell cell' cell2 cell3 cell4 : Nat → AV) (p q s : List UInt8) (a c e g i tn : Int) (n m cp z y y2 y3 y4 lo off k : Nat) (b : Bool) (G : T (T AV)) (K : AM → Prop) : Obl P 6 (fun v _ => R v) 0 K [.run 8, .know 121 true, .run 8, .op, .op, .slot 127 (.agg [.str p, .int .i64 a, .int .i64 c]), .run 9, .know 131 true, .run 5, .know 136 true, .run 5, .know 141 true, .run 5, .know 146 false, .run 21, .can 0 [0] [0, 1, 5, 9] []] ((OY cell i tn m cp z lo off G)) = ((decide (i < (↑m : Int)) = true) ∧ ((0 : Int) ≤ i ∧ i < (↑m : Int)) ∧ (lo ≤ off + i.toNat * 3 ∧ off + i.toNat * 3 + 3 ≤ z) ∧ (AV.agg [cell (off + i.toNat * 3), cell (off + i.toNat * 3 + 1), cell (off + i.toNat * 3 + 2)] = AV.agg [AV.str p, AV.int IntKind.i64 a, AV.int IntKind.i64 c]) ∧ (decide (c ≥ (1 : Int)) = true) ∧ (decide (c ≤ (13 : Int)) = true) ∧ (decide (a ≥ (0 : Int)) = true) ∧ (decide (a < (2147483648 : Int)) = false) ∧ K (OY cell (IntKind.i64.wrap (i + (1 : Int))) tn m cp z lo off G)) := by kernel_rfl

theorem oeyyyn (R : AV → Prop) (cell cell' cell2 cell3 cell4 : Nat → AV) (p q s : List UInt8) (a c e g i tn : Int) (n m cp z y y2 y3 y4 lo off k : Nat) (b : Bool) (G : T (T AV)) (K : AM → Prop) : Obl P 6 (fun v _ => R v) 0 K [.run 8, .know 121 true, .run 8, .op, .op, .slot 127 (.agg [.str p, .int .i64 a, .int .i64 c]), .run 9, .know 131 true, .run 5, .know 136 true, .run 5, .know 141 false, .run 26, .can 0 [0] [0, 1, 5, 9] []] ((OY cell i tn m cp z lo off G)) = ((decide (i < (↑m : Int)) = true) ∧ ((0 : Int) ≤ i ∧ i < (↑m : Int)) ∧ (lo ≤ off + i.toNat * 3 ∧ off + i.toNat * 3 + 3 ≤ z) ∧ (AV.agg [cell (off + i.toNat * 3), cell (off + i.toNat * 3 + 1), cell (off + i.toNat * 3 + 2)] = AV.agg [AV.str p, AV.int IntKind.i64 a, AV.int IntKind.i64 c]) ∧ (decide (c ≥ (1 : Int)) = true) ∧ (decide (c ≤ (13 : Int)) = true) ∧ (decide (a ≥ (0 : Int)) = false) ∧ K (OY cell (IntKind.i64.wrap (i + (1 : Int))) tn m cp z lo off G)) := by kernel_rfl

theorem oeyyn (R : AV → Prop) (cell cell' cell2 cell3 cell4 : Nat → AV) (p q s : List UInt8) (a c e g i tn : Int) (n m cp z y y2 y3 y4 lo off k : Nat) (b : Bool) (G : T (T AV)) (K : AM → Prop) : Obl P 6 (fun v _ => R v) 0 K [.run 8, .know 121 true, .run 8, .op, .op, .slot 127 (.agg [.str p, .int .i64 a, .int .i64 c]), .run 9, .know 131 true, .run 5, .know 136 false, .run 31, .can 0 [0] [0, 1, 5, 9] []] ((OY cell i tn m cp z lo off G)) = ((decide (i < (↑m : Int)) = true) ∧ ((0 : Int) ≤ i ∧ i < (↑m : Int)) ∧ (lo ≤ off + i.toNat * 3 ∧ off + i.toNat * 3 + 3 ≤ z) ∧ (AV.agg [cell (off + i.toNat * 3), cell (off + i.toNat * 3 + 1), cell (off + i.toNat * 3 + 2)] = AV.agg [AV.str p, AV.int IntKind.i64 a, AV.int IntKind.i64 c]) ∧ (decide (c ≥ (1 : Int)) = true) ∧ (decide (c ≤ (13 : Int)) = false) ∧ K (OY cell (IntKind.i64.wrap (i + (1 : Int))) tn m cp z lo off G)) := by kernel_rfl

theorem oeyn (R : AV → Prop) (cell cell' cell2 cell3 cell4 : Nat → AV) (p q s : List UInt8) (a c e g i tn : Int) (n m cp z y y2 y3 y4 lo off k : Nat) (b : Bool) (G : T (T AV)) (K : AM → Prop) : Obl P 6 (fun v _ => R v) 0 K [.run 8, .know 121 true, .run 8, .op, .op, .slot 127 (.agg [.str p, .int .i64 a, .int .i64 c]), .run 9, .know 131 false, .run 36, .can 0 [0] [0, 1, 5, 9] []] ((OY cell i tn m cp z lo off G)) = ((decide (i < (↑m : Int)) = true) ∧ ((0 : Int) ≤ i ∧ i < (↑m : Int)) ∧ (lo ≤ off + i.toNat * 3 ∧ off + i.toNat * 3 + 3 ≤ z) ∧ (AV.agg [cell (off + i.toNat * 3), cell (off + i.toNat * 3 + 1), cell (off + i.toNat * 3 + 2)] = AV.agg [AV.str p, AV.int IntKind.i64 a, AV.int IntKind.i64 c]) ∧ (decide (c ≥ (1 : Int)) = false) ∧ K (OY cell (IntKind.i64.wrap (i + (1 : Int))) tn m cp z lo off G)) := by kernel_rfl

theorem fC (R : AV → Prop) (cell cell' cell2 cell3 cell4 : Nat → AV) (p q s : List UInt8) (a c e g i tn : Int) (n m cp z y y2 y3 y4 lo off k : Nat) (b : Bool) (G : T (T AV)) (_K : AM → Prop) : Obl P 6 (fun v _ => R v) 0 _K [.run 8, .know 121 false, .run 13, .know 160 true, .run 6, .op, .run 11, .op, .opw false, .run 6, .opw false, .told 2 (.fn fun c => some (cell2 c)) y2, .can 0 [0, 1, 2] [0, 5, 173] [], .slot 173 (.slg 2 0 0 n 0), .run 6, .callh [(2, 0, [])] [0] (.slg 1 0 0 k 0) ⟨(.node (.node .leaf (some (.cells (.fn fun c => some (cell3 c)) y3 35 0 0 1 0 false .leaf)) .leaf) (some (.cells (.fn fun c => some (cell2 c)) y2 35 0 0 1 0 false .leaf)) .leaf), 2, G⟩, .run 2, .callh [(3, 0, []), (1, 1, [])] [0, 1] (.bool true) ⟨(.node (.node .leaf (some (.cells (.fn fun c => some (cell' c)) y 35 0 0 1 0 false .leaf)) .leaf) (some (.cells (.fn fun c => some (cell3 c)) y3 35 0 0 1 0 false .leaf)) .leaf), 2, G⟩, .run 3, .callh [(1, 0, [])] [0] (.slg 1 0 0 k 0) ⟨(.node (.node .leaf (some (.cells (.fn fun c => some (cell4 c)) y4 35 0 0 1 0 false .leaf)) .leaf) (some (.cells (.fn fun c => some (cell' c)) y 35 0 0 1 0 false .leaf)) .leaf), 2, G⟩, .run 2, .callh [(4, 0, []), (1, 1, [])] [0, 1] (.bool true) ⟨(.node (.node .leaf (some (.cells (.fn fun c => some (cell' c)) y 35 0 0 1 0 false .leaf)) .leaf) (some (.cells (.fn fun c => some (cell4 c)) y4 35 0 0 1 0 false .leaf)) .leaf), 2, G⟩, .run 4, .callh [(2, 0, [])] [0] (.str s) ⟨(.node .leaf (some (.cells (.fn fun c => some (cell2 c)) y2 35 0 0 1 0 false .leaf)) .leaf), 1, G⟩, .run 2, .callh [(0, 0, [])] [0] (.str s) ⟨(.node .leaf (some (.ro (.fn fun c => some (cell c)) lo z)) .leaf), 1, G⟩, .run 5, .done] ((OB cell cell' i tn m cp z y lo off k G)) = ((decide (i < (↑m : Int)) = false) ∧ (decide ((↑m : Int) > (0 : Int)) = true) ∧ ((↑m : Int) ≠ (0 : Int)) ∧ ((0 : Int) ≤ (IntKind.i64.wrap tn).tmod (↑m : Int) ∧ (IntKind.i64.wrap tn).tmod (↑m : Int) ≤ (↑m : Int)) ∧ ((((lo ≤ if cp = ((IntKind.i64.wrap tn).tmod (↑m : Int)).toNat then off else off + ((IntKind.i64.wrap tn).tmod (↑m : Int)).toNat * 3) ∧ (if cp = ((IntKind.i64.wrap tn).tmod (↑m : Int)).toNat then off else off + ((IntKind.i64.wrap tn).tmod (↑m : Int)).toNat * 3) + (m - ((IntKind.i64.wrap tn).tmod (↑m : Int)).toNat) * 3 ≤ z) ∧ ∀ (k : Nat), k < (m - ((IntKind.i64.wrap tn).tmod (↑m : Int)).toNat) * DS → ∃ v, (T.fn fun c => some (cell c)).get ((if cp = ((IntKind.i64.wrap tn).tmod (↑m : Int)).toNat then off else off + ((IntKind.i64.wrap tn).tmod (↑m : Int)).toNat * 3) + k) = some v ∧ v.one = true) ∧ 0 < m - ((IntKind.i64.wrap tn).tmod (↑m : Int)).toNat ∧ roomA (m - ((IntKind.i64.wrap tn).tmod (↑m : Int)).toNat) (32) = true) ∧ (((lo ≤ off ∧ off + m * 3 ≤ z) ∧ ∀ (k : Nat), k < m * DS → ∃ v, (T.fn fun c => some (cell c)).get (off + k) = some v ∧ v.one = true) ∧ 0 < m ∧ 0 + (m - ((IntKind.i64.wrap tn).tmod (↑m : Int)).toNat) * 3 ≤ (m - ((IntKind.i64.wrap tn).tmod (↑m : Int)).toNat) * 3 ∧ 0 ≤ 0 + (m - ((IntKind.i64.wrap tn).tmod (↑m : Int)).toNat) * 3 ∧ 0 = 0 * DS ∧ roomA (m - ((IntKind.i64.wrap tn).tmod (↑m : Int)).toNat + m) (32) = true ∧ (m - ((IntKind.i64.wrap tn).tmod (↑m : Int)).toNat) * 3 < 0 + (m - ((IntKind.i64.wrap tn).tmod (↑m : Int)).toNat + m) * 3) ∧ (Tells (y2) ((.fn fun c => some (cell2 c))) ((.fn fun k => bif (0 + (m - ((IntKind.i64.wrap tn).tmod (↑m : Int)).toNat) * DS).ble k && k.blt (0 + (m - ((IntKind.i64.wrap tn).tmod (↑m : Int)).toNat) * DS + m * DS) then (fun k => (T.fn fun c => some (cell c)).get (off + k)) (k - (0 + (m - ((IntKind.i64.wrap tn).tmod (↑m : Int)).toNat) * DS)) else (T.fn fun k => (T.fn fun c => some (cell c)).get ((if cp = ((IntKind.i64.wrap tn).tmod (↑m : Int)).toNat then off else off + ((IntKind.i64.wrap tn).tmod (↑m : Int)).toNat * 3) + k)).get k))) ∧ (y2 = 0 + (m - ((IntKind.i64.wrap tn).tmod (↑m : Int)).toNat) * 3 + m * 3) ∧ (PlainFn fun c => some (cell' c)) ∧ (PlainFn fun c => some (cell2 c)) ∧ (AV.slg (2) (0) (0) (m - ((IntKind.i64.wrap tn).tmod (↑m : Int)).toNat + m) (0) = AV.slg (2) (0) (0) n (0)) ∧ (PlainFn fun c => some (cell2 c)) ∧ (PlainFn fun c => some (cell2 c)) ∧ (PlainFn fun c => some (cell3 c)) ∧ (Goal P (1) 12 (fun x j => x = AV.slg 1 0 0 k 0 ∧ j = { objs := (T.leaf.node (some (AObj.cells (T.fn fun c => some (cell3 c)) y3 (35 : TypeId) 0 0 1 0 false T.leaf)) T.leaf).node (some (AObj.cells (T.fn fun c => some (cell2 c)) y2 (35 : TypeId) 0 0 1 0 false T.leaf)) T.leaf, next := 2, glob := G }) (startH P 12 [.slg 0 0 0 n 0] ⟨(.node .leaf (some (.cells (.fn fun c => some (cell2 c)) y2 35 0 0 1 0 false .leaf)) .leaf), 1, G⟩)) ∧ (PlainFn fun c => some (cell3 c)) ∧ (PlainFn fun c => some (cell' c)) ∧ (PlainFn fun c => some (cell3 c)) ∧ (PlainFn fun c => some (cell' c)) ∧ (Goal P (2) 21 (fun x k => x = AV.bool true ∧ k = { objs := (T.leaf.node (some (AObj.cells (T.fn fun c => some (cell' c)) y (35 : TypeId) 0 0 1 0 false T.leaf)) T.leaf).node (some (AObj.cells (T.fn fun c => some (cell3 c)) y3 (35 : TypeId) 0 0 1 0 false T.leaf)) T.leaf, next := 2, glob := G }) (startH P 21 [.slg 0 0 0 k 0, .slg 1 0 0 k 0] ⟨(.node (.node .leaf (some (.cells (.fn fun c => some (cell' c)) y 35 0 0 1 0 false .leaf)) .leaf) (some (.cells (.fn fun c => some (cell3 c)) y3 35 0 0 1 0 false .leaf)) .leaf), 2, G⟩)) ∧ (PlainFn fun c => some (cell' c)) ∧ (PlainFn fun c => some (cell' c)) ∧ (PlainFn fun c => some (cell4 c)) ∧ (Goal P (1) 12 (fun x j => x = AV.slg 1 0 0 k 0 ∧ j = { objs := (T.leaf.node (some (AObj.cells (T.fn fun c => some (cell4 c)) y4 (35 : TypeId) 0 0 1 0 false T.leaf)) T.leaf).node (some (AObj.cells (T.fn fun c => some (cell' c)) y (35 : TypeId) 0 0 1 0 false T.leaf)) T.leaf, next := 2, glob := G }) (startH P 12 [.slg 0 0 0 k 0] ⟨(.node .leaf (some (.cells (.fn fun c => some (cell' c)) y 35 0 0 1 0 false .leaf)) .leaf), 1, G⟩)) ∧ (PlainFn fun c => some (cell4 c)) ∧ (PlainFn fun c => some (cell' c)) ∧ (PlainFn fun c => some (cell4 c)) ∧ (PlainFn fun c => some (cell' c)) ∧ (Goal P (2) 21 (fun x k => x = AV.bool true ∧ k = { objs := (T.leaf.node (some (AObj.cells (T.fn fun c => some (cell' c)) y (35 : TypeId) 0 0 1 0 false T.leaf)) T.leaf).node (some (AObj.cells (T.fn fun c => some (cell4 c)) y4 (35 : TypeId) 0 0 1 0 false T.leaf)) T.leaf, next := 2, glob := G }) (startH P 21 [.slg 0 0 0 k 0, .slg 1 0 0 k 0] ⟨(.node (.node .leaf (some (.cells (.fn fun c => some (cell' c)) y 35 0 0 1 0 false .leaf)) .leaf) (some (.cells (.fn fun c => some (cell4 c)) y4 35 0 0 1 0 false .leaf)) .leaf), 2, G⟩)) ∧ (PlainFn fun c => some (cell2 c)) ∧ (PlainFn fun c => some (cell2 c)) ∧ (Goal P (1) 14 (fun x k => x = AV.str s ∧ k = { objs := T.leaf.node (some (AObj.cells (T.fn fun c => some (cell2 c)) y2 (35 : TypeId) 0 0 1 0 false T.leaf)) T.leaf, next := 1, glob := G }) (startH P 14 [.slg 0 0 0 n 0] ⟨(.node .leaf (some (.cells (.fn fun c => some (cell2 c)) y2 35 0 0 1 0 false .leaf)) .leaf), 1, G⟩)) ∧ (Goal P (1) 14 (fun x k => x = AV.str s ∧ k = { objs := T.leaf.node (some (AObj.ro (T.fn fun c => some (cell c)) lo z)) T.leaf, next := 1, glob := G }) (startH P 14 [.slc 0 0 off m cp] ⟨(.node .leaf (some (.ro (.fn fun c => some (cell c)) lo z)) .leaf), 1, G⟩)) ∧ (R (.bool (s == s)))) := by kernel_rfl

theorem fB (R : AV → Prop) (cell cell' cell2 cell3 cell4 : Nat → AV) (p q s : List UInt8) (a c e g i tn : Int) (n m cp z y y2 y3 y4 lo off k : Nat) (b : Bool) (G : T (T AV)) (_K : AM → Prop) : Obl P 6 (fun v _ => R v) 0 _K [.run 8, .know 121 false, .run 13, .know 160 true, .run 6, .op, .run 11, .op, .opw false, .run 6, .opw false, .told 1 (.fn fun c => some (cell2 c)) y2, .can 0 [0, 1] [0, 5, 173] [], .slot 173 (.slg 1 0 0 n 0), .run 6, .callh [(1, 0, [])] [0] (.nils 0 0) ⟨(.node .leaf (some (.cells (.fn fun c => some (cell2 c)) y2 35 0 0 1 0 false .leaf)) .leaf), 1, G⟩, .run 2, .callh [] [0, 1] (.bool true) ⟨.leaf, 0, G⟩, .run 3, .callh [] [0] (.nils 0 0) ⟨.leaf, 0, G⟩, .run 2, .callh [] [0, 1] (.bool true) ⟨.leaf, 0, G⟩, .run 4, .callh [(1, 0, [])] [0] (.str s) ⟨(.node .leaf (some (.cells (.fn fun c => some (cell2 c)) y2 35 0 0 1 0 false .leaf)) .leaf), 1, G⟩, .run 2, .callh [(0, 0, [])] [0] (.str s) ⟨(.node .leaf (some (.ro (.fn fun c => some (cell c)) lo z)) .leaf), 1, G⟩, .run 5, .done] ((OY cell i tn m cp z lo off G)) = ((decide (i < (↑m : Int)) = false) ∧ (decide ((↑m : Int) > (0 : Int)) = true) ∧ ((↑m : Int) ≠ (0 : Int)) ∧ ((0 : Int) ≤ (IntKind.i64.wrap tn).tmod (↑m : Int) ∧ (IntKind.i64.wrap tn).tmod (↑m : Int) ≤ (↑m : Int)) ∧ ((((lo ≤ if cp = ((IntKind.i64.wrap tn).tmod (↑m : Int)).toNat then off else off + ((IntKind.i64.wrap tn).tmod (↑m : Int)).toNat * 3) ∧ (if cp = ((IntKind.i64.wrap tn).tmod (↑m : Int)).toNat then off else off + ((IntKind.i64.wrap tn).tmod (↑m : Int)).toNat * 3) + (m - ((IntKind.i64.wrap tn).tmod (↑m : Int)).toNat) * 3 ≤ z) ∧ ∀ (k : Nat), k < (m - ((IntKind.i64.wrap tn).tmod (↑m : Int)).toNat) * DS → ∃ v, (T.fn fun c => some (cell c)).get ((if cp = ((IntKind.i64.wrap tn).tmod (↑m : Int)).toNat then off else off + ((IntKind.i64.wrap tn).tmod (↑m : Int)).toNat * 3) + k) = some v ∧ v.one = true) ∧ 0 < m - ((IntKind.i64.wrap tn).tmod (↑m : Int)).toNat ∧ roomA (m - ((IntKind.i64.wrap tn).tmod (↑m : Int)).toNat) (32) = true) ∧ (((lo ≤ off ∧ off + m * 3 ≤ z) ∧ ∀ (k : Nat), k < m * DS → ∃ v, (T.fn fun c => some (cell c)).get (off + k) = some v ∧ v.one = true) ∧ 0 < m ∧ 0 + (m - ((IntKind.i64.wrap tn).tmod (↑m : Int)).toNat) * 3 ≤ (m - ((IntKind.i64.wrap tn).tmod (↑m : Int)).toNat) * 3 ∧ 0 ≤ 0 + (m - ((IntKind.i64.wrap tn).tmod (↑m : Int)).toNat) * 3 ∧ 0 = 0 * DS ∧ roomA (m - ((IntKind.i64.wrap tn).tmod (↑m : Int)).toNat + m) (32) = true ∧ (m - ((IntKind.i64.wrap tn).tmod (↑m : Int)).toNat) * 3 < 0 + (m - ((IntKind.i64.wrap tn).tmod (↑m : Int)).toNat + m) * 3) ∧ (Tells (y2) ((.fn fun c => some (cell2 c))) ((.fn fun k => bif (0 + (m - ((IntKind.i64.wrap tn).tmod (↑m : Int)).toNat) * DS).ble k && k.blt (0 + (m - ((IntKind.i64.wrap tn).tmod (↑m : Int)).toNat) * DS + m * DS) then (fun k => (T.fn fun c => some (cell c)).get (off + k)) (k - (0 + (m - ((IntKind.i64.wrap tn).tmod (↑m : Int)).toNat) * DS)) else (T.fn fun k => (T.fn fun c => some (cell c)).get ((if cp = ((IntKind.i64.wrap tn).tmod (↑m : Int)).toNat then off else off + ((IntKind.i64.wrap tn).tmod (↑m : Int)).toNat * 3) + k)).get k))) ∧ (y2 = 0 + (m - ((IntKind.i64.wrap tn).tmod (↑m : Int)).toNat) * 3 + m * 3) ∧ (PlainFn fun c => some (cell2 c)) ∧ (AV.slg (1) (0) (0) (m - ((IntKind.i64.wrap tn).tmod (↑m : Int)).toNat + m) (0) = AV.slg (1) (0) (0) n (0)) ∧ (PlainFn fun c => some (cell2 c)) ∧ (PlainFn fun c => some (cell2 c)) ∧ (Goal P (1) 12 (fun x k => x = AV.nils 0 0 ∧ k = { objs := T.leaf.node (some (AObj.cells (T.fn fun c => some (cell2 c)) y2 (35 : TypeId) 0 0 1 0 false T.leaf)) T.leaf, next := 1, glob := G }) (startH P 12 [.slg 0 0 0 n 0] ⟨(.node .leaf (some (.cells (.fn fun c => some (cell2 c)) y2 35 0 0 1 0 false .leaf)) .leaf), 1, G⟩)) ∧ (Goal P (0) 21 (fun x k => x = AV.bool true ∧ k = { objs := T.leaf, next := 0, glob := G }) (startM P 21 [.nils 0 0, .nils 0 0] G)) ∧ (Goal P (0) 12 (fun x k => x = AV.nils 0 0 ∧ k = { objs := T.leaf, next := 0, glob := G }) (startM P 12 [.nils 0 0] G)) ∧ (Goal P (0) 21 (fun x k => x = AV.bool true ∧ k = { objs := T.leaf, next := 0, glob := G }) (startM P 21 [.nils 0 0, .nils 0 0] G)) ∧ (PlainFn fun c => some (cell2 c)) ∧ (PlainFn fun c => some (cell2 c)) ∧ (Goal P (1) 14 (fun x k => x = AV.str s ∧ k = { objs := T.leaf.node (some (AObj.cells (T.fn fun c => some (cell2 c)) y2 (35 : TypeId) 0 0 1 0 false T.leaf)) T.leaf, next := 1, glob := G }) (startH P 14 [.slg 0 0 0 n 0] ⟨(.node .leaf (some (.cells (.fn fun c => some (cell2 c)) y2 35 0 0 1 0 false .leaf)) .leaf), 1, G⟩)) ∧ (Goal P (1) 14 (fun x k => x = AV.str s ∧ k = { objs := T.leaf.node (some (AObj.ro (T.fn fun c => some (cell c)) lo z)) T.leaf, next := 1, glob := G }) (startH P 14 [.slc 0 0 off m cp] ⟨(.node .leaf (some (.ro (.fn fun c => some (cell c)) lo z)) .leaf), 1, G⟩)) ∧ (R (.bool (s == s)))) := by kernel_rfl

theorem fA (R : AV → Prop) (cell cell' cell2 cell3 cell4 : Nat → AV) (p q s : List UInt8) (a c e g i tn : Int) (n m cp z y y2 y3 y4 lo off k : Nat) (b : Bool) (G : T (T AV)) (_K : AM → Prop) : Obl P 6 (fun v _ => R v) 0 _K [.run 33, .res (.val (.nils 0 0) ⟨(.node .leaf (some (.ro (.fn fun c => some (cell c)) lo z)) .leaf), 1, G⟩), .run 6, .res (.val (.nils 0 0) ⟨(.node .leaf (some (.ro (.fn fun c => some (cell c)) lo z)) .leaf), 1, G⟩), .run 6, .callh [] [0] (.nils 0 0) ⟨.leaf, 0, G⟩, .run 2, .callh [] [0, 1] (.bool true) ⟨.leaf, 0, G⟩, .run 3, .callh [] [0] (.nils 0 0) ⟨.leaf, 0, G⟩, .run 2, .callh [] [0, 1] (.bool true) ⟨.leaf, 0, G⟩, .run 4, .callh [] [0] (.str s) ⟨.leaf, 0, G⟩, .run 2, .callh [(0, 0, [])] [0] (.str s) ⟨(.node .leaf (some (.ro (.fn fun c => some (cell c)) lo z)) .leaf), 1, G⟩, .run 5, .done] ((OY cell 0 tn 0 cp z lo off G)) = ((liftV (appendA P { objs := T.leaf.node (some (AObj.ro (T.fn fun c => some (cell c)) lo z)) T.leaf, next := 1, glob := G } 22 false (AV.nils (0) (0)) (AV.slc (0) (0) (if cp = 0 then off else off) (0) cp)) = some (AR.val (AV.nils (0) (0)) { objs := T.leaf.node (some (AObj.ro (T.fn fun c => some (cell c)) lo z)) T.leaf, next := 1, glob := G })) ∧ (liftV (appendA P { objs := T.leaf.node (some (AObj.ro (T.fn fun c => some (cell c)) lo z)) T.leaf, next := 1, glob := G } 22 false (AV.nils (0) (0)) (AV.slc (0) (0) off (0) cp)) = some (AR.val (AV.nils (0) (0)) { objs := T.leaf.node (some (AObj.ro (T.fn fun c => some (cell c)) lo z)) T.leaf, next := 1, glob := G })) ∧ (Goal P (0) 12 (fun x k => x = AV.nils 0 0 ∧ k = { objs := T.leaf, next := 0, glob := G }) (startM P 12 [.nils 0 0] G)) ∧ (Goal P (0) 21 (fun x k => x = AV.bool true ∧ k = { objs := T.leaf, next := 0, glob := G }) (startM P 21 [.nils 0 0, .nils 0 0] G)) ∧ (Goal P (0) 12 (fun x k => x = AV.nils 0 0 ∧ k = { objs := T.leaf, next := 0, glob := G }) (startM P 12 [.nils 0 0] G)) ∧ (Goal P (0) 21 (fun x k => x = AV.bool true ∧ k = { objs := T.leaf, next := 0, glob := G }) (startM P 21 [.nils 0 0, .nils 0 0] G)) ∧ (Goal P (0) 14 (fun x k => x = AV.str s ∧ k = { objs := T.leaf, next := 0, glob := G }) (startM P 14 [.nils 0 0] G)) ∧ (Goal P (1) 14 (fun x k => x = AV.str s ∧ k = { objs := T.leaf.node (some (AObj.ro (T.fn fun c => some (cell c)) lo z)) T.leaf, next := 1, glob := G }) (startH P 14 [.slc 0 0 off 0 cp] ⟨(.node .leaf (some (.ro (.fn fun c => some (cell c)) lo z)) .leaf), 1, G⟩)) ∧ (R (.bool (s == s)))) := by kernel_rfl

theorem works_ok : Goal P 0 18 (fun x _ => x = AV.bool true) (startM P 18 [] GW) := Goal.ofRun mix (n := 20000) (by kernel_rfl) fun _ => rfl

/-- Nothing is appended. -/
theorem app0 (c : Nat → AV) (off o z cp : Nat) (ho : o = off) (hz : off ≤ z) (h : AHeap) (hh : h.get 0 = some (.ro (.fn fun k => some (c k)) off z)) : liftV (appendA P h 22 false (.nils 0 0) (.slc 0 0 o 0 cp)) = some (.val (.nils 0 0) h) := by
  subst ho
  have hl : loadCellsA h 0 0 o 0 = some [] := by
    unfold loadCellsA
    rw [hh]
    show (if 0 = 0 ∧ o ≤ o ∧ o + 0 ≤ z then loadList _ o 0 else none) = _
    rw [if_pos ⟨rfl, Nat.le_refl _, hz⟩]
    rfl
  have key : appendA P h 22 false (.nils 0 0) (.slc 0 0 o 0 cp) = (match (match loadCellsA h 0 0 o 0 with
      | none => none
      | some new => some (0, new)) with
      | none => none
      | some (n, new) => if 0 < 3 ∧ 3 = 3 ∧ true = true ∧ new.all AV.one = true ∧ new.length = n * 3 ∧ (false = true → Nat.ble (n * 32) (2 ^ 48) = true) then (match n with
        | 0 => appendNone h (.nils 0 0)
        | n + 1 => appendTo h 35 3 32 0 (n + 1) (.nils 0 0) new) else none) := by kernel_rfl
  rw [key, hl]
  rfl

/-- A list, turned and doubled. -/
def gt (f : Nat → Dg) (K m i : Nat) : Dg := if i < m - K then f (K + i) else f (i - (m - K))

theorem el_shift {f g : Nat → Dg} {i j : Nat} (h : i % 3 = j % 3) (e : f (i / 3) = g (j / 3)) : el f i = el g j := by
  unfold el
  rw [h, e]

theorem turn_el (f : Nat → Dg) (off K m D : Nat) (hD : D = 3) : Tells (0 + (m - K) * 3 + m * 3) (.fn fun c => some (el (gt f K m) c)) (.fn fun k => bif (0 + (m - K) * D).ble k && k.blt (0 + (m - K) * D + m * D) then (fun k => (T.fn fun c => some (elo f off c)).get (off + k)) (k - (0 + (m - K) * D)) else (T.fn fun k => (T.fn fun c => some (elo f off c)).get ((off + K * 3) + k)).get k) := by
  subst hD
  intro k v hk h
  have h : some (el (gt f K m) k) = some v := h
  rw [← h]
  show (bif (0 + (m - K) * 3).ble k && k.blt (0 + (m - K) * 3 + m * 3) then some (elo f off (off + (k - (0 + (m - K) * 3)))) else some (elo f off ((off + K * 3) + k))) = _
  unfold elo
  by_cases hin : (m - K) * 3 ≤ k
  · have e : ((0 + (m - K) * 3).ble k && k.blt (0 + (m - K) * 3 + m * 3)) = true := by
      rw [Bool.and_eq_true, Nat.ble_eq, Nat.blt_eq]; omega
    rw [e, cond_true]
    congr 1
    refine el_shift (by omega) ?_
    unfold gt
    rw [if_neg (by omega)]
    congr 1
    omega
  · have e : ((0 + (m - K) * 3).ble k && k.blt (0 + (m - K) * 3 + m * 3)) = false := by
      rw [← Bool.not_eq_true, Bool.and_eq_true, Nat.ble_eq, Nat.blt_eq]; omega
    rw [e, cond_false]
    congr 1
    refine el_shift (by omega) ?_
    unfold gt
    rw [if_pos (by omega)]
    congr 1
    omega

theorem turn_mem (f : Nat → Dg) {K m : Nat} (hK : K < m) (x : Dg) : x ∈ sl (gt f K m) 0 (m - K + m) ↔ x ∈ sl f 0 m := by
  constructor
  · intro h
    obtain ⟨t, h1, h2, rfl⟩ := sl_mem _ _ h
    unfold gt
    split
    · exact sl_at f m 0 _ (by omega) (by omega)
    · exact sl_at f m 0 _ (by omega) (by omega)
  · intro h
    obtain ⟨t, h1, h2, rfl⟩ := sl_mem _ _ h
    have e : gt f K m (m - K + t) = f t := by
      unfold gt
      rw [if_neg (by omega)]
      congr 1
      omega
    rw [← e]
    exact sl_at (gt f K m) _ 0 _ (by omega) (by omega)

theorem less_of {q p : List UInt8} (h : q < p ∨ q = p) : (!(Op.bytesLess q p || q == p)) = false := by
  rcases h with h | h
  · have : Op.bytesLess q p = true := by
      rw [bytesLess_eq]
      exact decide_eq_true h
    rw [this]; rfl
  · subst h
    simp

theorem ups_at {f : Nat → Dg} {n i : Nat} (h : Ups (sl f 0 n)) (h0 : 0 < i) (hi : i < n) : Lt (f (i - 1)) (f i) := by
  have := List.pairwise_iff_getElem.1 h (i - 1) i (by rw [sl_len]; omega) (by rw [sl_len]; omega) (by omega)
  have e1 : (sl f 0 n)[i - 1]? = some (f (i - 1)) := by rw [sl_get _ _ _ _ (by omega), Nat.zero_add]
  have e2 : (sl f 0 n)[i]? = some (f i) := by rw [sl_get _ _ _ _ (by omega), Nat.zero_add]
  rw [List.getElem?_eq_getElem (by rw [sl_len]; omega)] at e1 e2
  rw [Option.some.inj e1, Option.some.inj e2] at this
  exact this

theorem beqT {α : Type} [BEq α] [LawfulBEq α] {a b : α} (h : a = b) : (a == b) = true := by rw [h]; exact beq_self_eq_true b
theorem beqF {α : Type} [BEq α] [LawfulBEq α] {a b : α} (h : ¬ a = b) : (a == b) = false := by rw [← Bool.not_eq_true, beq_iff_eq]; exact h

section
variable {off z m cp : Nat} {f : Nat → Dg} {tn : Int}

/-! ## What is sorted -/

theorem oa_loop {y k : Nat} {f' : Nat → Dg} {R : AV → Prop} (hz : off + m * 3 ≤ z) (hm : m ≤ 200) (hy : k * 3 ≤ y) (hk : k ≤ 200) (hs : So (sl f 0 m) (sl f' 0 k))
    (next : Goal P 0 6 (fun v _ => R v) (OB (elo f off) (el f') ((0 : Nat) : Int) tn m cp z y off off k GW)) :
    ∀ r i, i + r = k → Goal P 0 6 (fun v _ => R v) (OA (elo f off) (el f') (i : Int) tn m cp z y off off k GW)
  | 0, i, hi => by
    obtain rfl : i = k := by omega
    exact Obl.goal (K := Goal P 0 6 _) mix (fun _ h => h) (cast (obn R (elo f off) (el f') (el f) (el f) (el f) [] [] [] 0 0 0 0 _ tn 0 m cp z y 0 0 0 off off i false GW _).symm ⟨decide_eq_false (by omega), el_plain _, next⟩)
  | r + 1, i, hi => by
    have ih := oa_loop hz hm hy hk hs next r (i + 1) (by omega)
    have hin := (hs.2 _).1 (sl_at f' k 0 i (by omega) (by omega))
    have hmay := of_decide_eq_true hin.2
    have h22 := hasR_ok (off := off) (z := z) (n := m) (cp := cp) (f := f) (d := f' i) hz (by omega)
    rw [decide_eq_true hin.1] at h22
    have hw := up1 i (by omega)
    have b1 : (0 : Int) ≤ (i : Int) ∧ (i : Int) < (k : Int) := ⟨by omega, by omega⟩
    have b2 : 0 + ((i : Int)).toNat * 3 + 2 + 1 ≤ y := by rw [Int.toNat_natCast]; omega
    have b3 : 0 + ((i : Int)).toNat * 3 + 1 + 1 ≤ y := by rw [Int.toNat_natCast]; omega
    have b4 : 0 + ((i : Int)).toNat * 3 + 1 ≤ y := by rw [Int.toNat_natCast]; omega
    have b5 : 0 + ((i : Int)).toNat * 3 + 3 ≤ y := by rw [Int.toNat_natCast]; omega
    have c0 := el0 f' i
    have c1 := el1 f' i
    have c2 := el2 f' i
    have d1 : decide ((f' i).2.2 < (1 : Int)) = false := decide_eq_false (by omega)
    have d2 : decide ((f' i).2.2 > (13 : Int)) = false := decide_eq_false (by omega)
    have d3 : decide ((f' i).2.1 < (0 : Int)) = false := decide_eq_false (by omega)
    have d4 : decide ((f' i).2.1 ≥ (2147483648 : Int)) = false := decide_eq_false (by omega)
    have d5 : decide ((((f' i).1.length : Nat) : Int) > (200 : Int)) = false := decide_eq_false (by omega)
    have a1 := agg_el f' i
    rw [← hw] at ih
    by_cases h0 : 0 < i
    · have hlt := ups_at hs.1 h0 (by omega)
      have e2 := dn1 i (by omega) h0
      have a2 : AV.agg [el f' (0 + (IntKind.i64.wrap ((i : Int) - 1)).toNat * 3), el f' (0 + (IntKind.i64.wrap ((i : Int) - 1)).toNat * 3 + 1), el f' (0 + (IntKind.i64.wrap ((i : Int) - 1)).toNat * 3 + 2)] = AV.agg [.str (f' (i - 1)).1, .int .i64 (f' (i - 1)).2.1, .int .i64 (f' (i - 1)).2.2] := by
        rw [← agg_el f' (i - 1), e2, Int.toNat_natCast]
      have b6 : (0 : Int) ≤ IntKind.i64.wrap ((i : Int) - 1) ∧ IntKind.i64.wrap ((i : Int) - 1) < (k : Int) := by rw [e2]; omega
      have b7 : 0 + (IntKind.i64.wrap ((i : Int) - 1)).toNat * 3 + 3 ≤ y := by rw [e2, Int.toNat_natCast]; omega
      have d6 : decide ((i : Int) > (0 : Int)) = true := decide_eq_true (by omega)
      have hle : (f' (i - 1)).1 < (f' i).1 ∨ (f' (i - 1)).1 = (f' i).1 := hlt.imp id fun h => h.1
      have l1 := less_of hle
      by_cases e1 : (f' (i - 1)).1 = (f' i).1
      · have h2 : (f' (i - 1)).2.1 < (f' i).2.1 ∨ (f' (i - 1)).2.1 = (f' i).2.1 ∧ (f' (i - 1)).2.2 < (f' i).2.2 := by
          rcases hlt with h | h
          · exact absurd (e1 ▸ h) (bl_irrefl _)
          · exact h.2
        have l2 := beqT e1
        have d7 : decide ((f' (i - 1)).2.1 > (f' i).2.1) = false := decide_eq_false (by omega)
        by_cases e3 : (f' (i - 1)).2.1 = (f' i).2.1
        · have l3 := beqT e3
          have d8 : decide ((f' (i - 1)).2.2 ≥ (f' i).2.2) = false := decide_eq_false (by omega)
          refine Obl.goal (K := Goal P 0 6 _) mix (fun _ h => h) (cast (obynnnnnynynynn R (elo f off) (el f') (el f) (el f) (el f) (f' i).1 (f' (i - 1)).1 [] (f' i).2.1 (f' i).2.2 (f' (i - 1)).2.1 (f' (i - 1)).2.2 _ tn 0 m cp z y 0 0 0 off off k true GW _).symm ?_)
          repeat' apply And.intro
          all_goals first | assumption | exact h22 | exact ih | exact c0 | exact c1 | exact c2 | exact b1.1 | exact b1.2 | exact b6.1 | exact b6.2 | rfl | exact el_plain _ | exact decide_eq_true (by omega)
        · have l3 := beqF e3
          refine Obl.goal (K := Goal P 0 6 _) mix (fun _ h => h) (cast (obynnnnnynynnn R (elo f off) (el f') (el f) (el f) (el f) (f' i).1 (f' (i - 1)).1 [] (f' i).2.1 (f' i).2.2 (f' (i - 1)).2.1 (f' (i - 1)).2.2 _ tn 0 m cp z y 0 0 0 off off k true GW _).symm ?_)
          repeat' apply And.intro
          all_goals first | assumption | exact h22 | exact ih | exact c0 | exact c1 | exact c2 | exact b1.1 | exact b1.2 | exact b6.1 | exact b6.2 | rfl | exact el_plain _ | exact decide_eq_true (by omega)
      · have l2 := beqF e1
        refine Obl.goal (K := Goal P 0 6 _) mix (fun _ h => h) (cast (obynnnnnynnn R (elo f off) (el f') (el f) (el f) (el f) (f' i).1 (f' (i - 1)).1 [] (f' i).2.1 (f' i).2.2 (f' (i - 1)).2.1 (f' (i - 1)).2.2 _ tn 0 m cp z y 0 0 0 off off k true GW _).symm ?_)
        repeat' apply And.intro
        all_goals first | assumption | exact h22 | exact ih | exact c0 | exact c1 | exact c2 | exact b1.1 | exact b1.2 | exact b6.1 | exact b6.2 | rfl | exact el_plain _ | exact decide_eq_true (by omega)
    · have d6 : decide ((i : Int) > (0 : Int)) = false := decide_eq_false (by omega)
      refine Obl.goal (K := Goal P 0 6 _) mix (fun _ h => h) (cast (obynnnnnnn R (elo f off) (el f') (el f) (el f) (el f) (f' i).1 [] [] (f' i).2.1 (f' i).2.2 0 0 _ tn 0 m cp z y 0 0 0 off off k true GW _).symm ?_)
      repeat' apply And.intro
      all_goals first | assumption | exact h22 | exact ih | exact c0 | exact c1 | exact c2 | exact b1.1 | exact b1.2 | rfl | exact el_plain _ | exact decide_eq_true (by omega)

/-! ## Each that may be told is there -/

theorem ob_loop {y k : Nat} {f' : Nat → Dg} {R : AV → Prop} (hz : off + m * 3 ≤ z) (hm : m ≤ 200) (hy : k * 3 ≤ y) (hk : k ≤ 200) (hs : So (sl f 0 m) (sl f' 0 k))
    (next : Goal P 0 6 (fun v _ => R v) (OB (elo f off) (el f') (m : Int) tn m cp z y off off k GW)) :
    ∀ r i, i + r = m → Goal P 0 6 (fun v _ => R v) (OB (elo f off) (el f') (i : Int) tn m cp z y off off k GW)
  | 0, i, hi => by
    obtain rfl : i = m := by omega
    exact next
  | r + 1, i, hi => by
    have ih := ob_loop hz hm hy hk hs next r (i + 1) (by omega)
    have hw := up1 i (by omega)
    rw [← hw] at ih
    have b1 : (0 : Int) ≤ (i : Int) ∧ (i : Int) < (m : Int) := ⟨by omega, by omega⟩
    have b2 : off ≤ off + ((i : Int)).toNat * 3 ∧ off + ((i : Int)).toNat * 3 + 3 ≤ z := by rw [Int.toNat_natCast]; omega
    have a1 := agg_elo f off i
    by_cases hb : mayB (f i) = true
    · have hmay := of_decide_eq_true hb
      have h22 := hasC_ok (off := off) (z := y) (n := k) (cp := cp) (f := f') (d := f i) hy (by omega)
      rw [decide_eq_true ((hs.2 _).2 ⟨sl_at f m 0 i (by omega) (by omega), hb⟩)] at h22
      refine Obl.goal (K := Goal P 0 6 _) mix (fun _ h => h) (cast (odyyyyyyn R (elo f off) (el f') (el f) (el f) (el f) (f i).1 [] [] (f i).2.1 (f i).2.2 0 0 _ tn 0 m cp z y 0 0 0 off off k true GW _).symm ?_)
      repeat' apply And.intro
      all_goals first | assumption | exact h22 | exact ih | exact b1.1 | exact b1.2 | exact b2.1 | exact b2.2 | rfl | exact el_plain _ | exact decide_eq_true (by omega)
    · have hmay : ¬ (1 ≤ (f i).2.2 ∧ (f i).2.2 ≤ 13 ∧ 0 ≤ (f i).2.1 ∧ (f i).2.1 ≤ 2147483647 ∧ (f i).1.length ≤ 200) := fun h => hb (decide_eq_true h)
      by_cases h1 : (f i).2.2 ≥ (1 : Int)
      rotate_left
      · skip
        have g : decide ((f i).2.2 ≥ (1 : Int)) = false := decide_eq_false (by omega)
        refine Obl.goal (K := Goal P 0 6 _) mix (fun _ h => h) (cast (odyn R (elo f off) (el f') (el f) (el f) (el f) (f i).1 [] [] (f i).2.1 (f i).2.2 0 0 _ tn 0 m cp z y 0 0 0 off off k true GW _).symm ?_)
        repeat' apply And.intro
        all_goals first | assumption | exact ih | exact b1.1 | exact b1.2 | exact b2.1 | exact b2.2 | rfl | exact el_plain _ | exact decide_eq_true (by omega)
      by_cases h2 : (f i).2.2 ≤ (13 : Int)
      rotate_left
      · skip
        have g : decide ((f i).2.2 ≤ (13 : Int)) = false := decide_eq_false (by omega)
        refine Obl.goal (K := Goal P 0 6 _) mix (fun _ h => h) (cast (odyyn R (elo f off) (el f') (el f) (el f) (el f) (f i).1 [] [] (f i).2.1 (f i).2.2 0 0 _ tn 0 m cp z y 0 0 0 off off k true GW _).symm ?_)
        repeat' apply And.intro
        all_goals first | assumption | exact ih | exact b1.1 | exact b1.2 | exact b2.1 | exact b2.2 | rfl | exact el_plain _ | exact decide_eq_true (by omega)
      by_cases h3 : (f i).2.1 ≥ (0 : Int)
      rotate_left
      · skip
        have g : decide ((f i).2.1 ≥ (0 : Int)) = false := decide_eq_false (by omega)
        refine Obl.goal (K := Goal P 0 6 _) mix (fun _ h => h) (cast (odyyyn R (elo f off) (el f') (el f) (el f) (el f) (f i).1 [] [] (f i).2.1 (f i).2.2 0 0 _ tn 0 m cp z y 0 0 0 off off k true GW _).symm ?_)
        repeat' apply And.intro
        all_goals first | assumption | exact ih | exact b1.1 | exact b1.2 | exact b2.1 | exact b2.2 | rfl | exact el_plain _ | exact decide_eq_true (by omega)
      by_cases h4 : (f i).2.1 < (2147483648 : Int)
      rotate_left
      · skip
        have g : decide ((f i).2.1 < (2147483648 : Int)) = false := decide_eq_false (by omega)
        refine Obl.goal (K := Goal P 0 6 _) mix (fun _ h => h) (cast (odyyyyn R (elo f off) (el f') (el f) (el f) (el f) (f i).1 [] [] (f i).2.1 (f i).2.2 0 0 _ tn 0 m cp z y 0 0 0 off off k true GW _).symm ?_)
        repeat' apply And.intro
        all_goals first | assumption | exact ih | exact b1.1 | exact b1.2 | exact b2.1 | exact b2.2 | rfl | exact el_plain _ | exact decide_eq_true (by omega)
      have g : decide (((f i).1.length : Int) ≤ (200 : Int)) = false := decide_eq_false (by omega)
      refine Obl.goal (K := Goal P 0 6 _) mix (fun _ h => h) (cast (odyyyyyn R (elo f off) (el f') (el f) (el f) (el f) (f i).1 [] [] (f i).2.1 (f i).2.2 0 0 _ tn 0 m cp z y 0 0 0 off off k true GW _).symm ?_)
      repeat' apply And.intro
      all_goals first | assumption | exact ih | exact b1.1 | exact b1.2 | exact b2.1 | exact b2.2 | rfl | exact el_plain _ | exact decide_eq_true (by omega)

theorem oe_loop {R : AV → Prop} (hz : off + m * 3 ≤ z) (hm : m ≤ 200) (hs : So (sl f 0 m) [])
    (next : Goal P 0 6 (fun v _ => R v) (OY (elo f off) (m : Int) tn m cp z off off GW)) :
    ∀ r i, i + r = m → Goal P 0 6 (fun v _ => R v) (OY (elo f off) (i : Int) tn m cp z off off GW)
  | 0, i, hi => by
    obtain rfl : i = m := by omega
    exact next
  | r + 1, i, hi => by
    have ih := oe_loop hz hm hs next r (i + 1) (by omega)
    have hw := up1 i (by omega)
    rw [← hw] at ih
    have b1 : (0 : Int) ≤ (i : Int) ∧ (i : Int) < (m : Int) := ⟨by omega, by omega⟩
    have b2 : off ≤ off + ((i : Int)).toNat * 3 ∧ off + ((i : Int)).toNat * 3 + 3 ≤ z := by rw [Int.toNat_natCast]; omega
    have a1 := agg_elo f off i
    have hmay : ¬ (1 ≤ (f i).2.2 ∧ (f i).2.2 ≤ 13 ∧ 0 ≤ (f i).2.1 ∧ (f i).2.1 ≤ 2147483647 ∧ (f i).1.length ≤ 200) := fun h => absurd ((hs.2 (f i)).2 ⟨sl_at f m 0 i (by omega) (by omega), decide_eq_true h⟩) (by simp)
    by_cases h1 : (f i).2.2 ≥ (1 : Int)
    rotate_left
    · skip
      have g : decide ((f i).2.2 ≥ (1 : Int)) = false := decide_eq_false (by omega)
      refine Obl.goal (K := Goal P 0 6 _) mix (fun _ h => h) (cast (oeyn R (elo f off) (el f) (el f) (el f) (el f) (f i).1 [] [] (f i).2.1 (f i).2.2 0 0 _ tn 0 m cp z 0 0 0 0 off off 0 true GW _).symm ?_)
      repeat' apply And.intro
      all_goals first | assumption | exact ih | exact b1.1 | exact b1.2 | exact b2.1 | exact b2.2 | rfl | exact el_plain _ | exact decide_eq_true (by omega)
    by_cases h2 : (f i).2.2 ≤ (13 : Int)
    rotate_left
    · skip
      have g : decide ((f i).2.2 ≤ (13 : Int)) = false := decide_eq_false (by omega)
      refine Obl.goal (K := Goal P 0 6 _) mix (fun _ h => h) (cast (oeyyn R (elo f off) (el f) (el f) (el f) (el f) (f i).1 [] [] (f i).2.1 (f i).2.2 0 0 _ tn 0 m cp z 0 0 0 0 off off 0 true GW _).symm ?_)
      repeat' apply And.intro
      all_goals first | assumption | exact ih | exact b1.1 | exact b1.2 | exact b2.1 | exact b2.2 | rfl | exact el_plain _ | exact decide_eq_true (by omega)
    by_cases h3 : (f i).2.1 ≥ (0 : Int)
    rotate_left
    · skip
      have g : decide ((f i).2.1 ≥ (0 : Int)) = false := decide_eq_false (by omega)
      refine Obl.goal (K := Goal P 0 6 _) mix (fun _ h => h) (cast (oeyyyn R (elo f off) (el f) (el f) (el f) (el f) (f i).1 [] [] (f i).2.1 (f i).2.2 0 0 _ tn 0 m cp z 0 0 0 0 off off 0 true GW _).symm ?_)
      repeat' apply And.intro
      all_goals first | assumption | exact ih | exact b1.1 | exact b1.2 | exact b2.1 | exact b2.2 | rfl | exact el_plain _ | exact decide_eq_true (by omega)
    by_cases h4 : (f i).2.1 < (2147483648 : Int)
    rotate_left
    · skip
      have g : decide ((f i).2.1 < (2147483648 : Int)) = false := decide_eq_false (by omega)
      refine Obl.goal (K := Goal P 0 6 _) mix (fun _ h => h) (cast (oeyyyyn R (elo f off) (el f) (el f) (el f) (el f) (f i).1 [] [] (f i).2.1 (f i).2.2 0 0 _ tn 0 m cp z 0 0 0 0 off off 0 true GW _).symm ?_)
      repeat' apply And.intro
      all_goals first | assumption | exact ih | exact b1.1 | exact b1.2 | exact b2.1 | exact b2.2 | rfl | exact el_plain _ | exact decide_eq_true (by omega)
    have g : decide (((f i).1.length : Int) ≤ (200 : Int)) = false := decide_eq_false (by omega)
    refine Obl.goal (K := Goal P 0 6 _) mix (fun _ h => h) (cast (oeyyyyyn R (elo f off) (el f) (el f) (el f) (el f) (f i).1 [] [] (f i).2.1 (f i).2.2 0 0 _ tn 0 m cp z 0 0 0 0 off off 0 true GW _).symm ?_)
    repeat' apply And.intro
    all_goals first | assumption | exact ih | exact b1.1 | exact b1.2 | exact b2.1 | exact b2.2 | rfl | exact el_plain _ | exact decide_eq_true (by omega)

/-! ## The end -/

theorem mod_eq (ht : 0 ≤ tn) (ht2 : tn ≤ 255) (hm : 0 < m) : ∃ K, K < m ∧ (IntKind.i64.wrap tn).tmod (m : Int) = ((K : Nat) : Int) := by
  obtain ⟨t, rfl⟩ : ∃ t : Nat, tn = t := ⟨tn.toNat, by omega⟩
  refine ⟨t % m, Nat.mod_lt _ hm, ?_⟩
  rw [IntWalk.i64_in _ (by omega), Int.tmod_eq_emod_of_nonneg (by omega)]
  rfl

theorem room32 (a : Nat) (h : a < 1000000) : roomA a 32 = true := by
  unfold roomA
  rw [Bool.and_eq_true, Nat.ble_eq, Nat.blt_eq]
  constructor <;> omega

theorem get_one (c : Nat → AV) (hc : ∀ k, (c k).one = true) (o q : Nat) : ∀ k, k < q → ∃ v, (T.fn fun c' => some (c c')).get (o + k) = some v ∧ v.one = true := fun k _ => ⟨c (o + k), rfl, hc _⟩

theorem elo_one (f : Nat → Dg) (off k : Nat) : (elo f off k).one = true := by
  unfold elo el
  cases Nat.beq ((k - off) % 3) 0 <;> cases Nat.beq ((k - off) % 3) 1 <;> rfl

theorem fC_ok {y k : Nat} {f' : Nat → Dg} (hz : off + m * 3 ≤ z) (hm : m ≤ 200) (hcp : m ≤ cp) (h0 : 0 < m) (hy : k * 3 ≤ y) (hk0 : 0 < k) (hk : k ≤ 200) (hs : So (sl f 0 m) (sl f' 0 k)) (ht : 0 ≤ tn) (ht2 : tn ≤ 255) :
    Goal P 0 6 (fun v _ => v = .bool true) (OB (elo f off) (el f') (m : Int) tn m cp z y off off k GW) := by
  obtain ⟨K, hK, hmod⟩ := mod_eq ht ht2 h0
  have hif : (if cp = K then off else off + K * 3) = off + K * 3 := if_neg (by omega)
  rcases sortC_ok (cp := cp) (off := off) (z := 0 + (m - K) * 3 + m * 3) (n := m - K + m) (f := gt f K m) (by omega) (by omega) with ⟨q1, q2⟩ | ⟨f3, k3, y3, q1, q2, q3, q4, q5⟩
  · have : sl f' 0 k = [] := So.uniq hs q1 fun x => (turn_mem f hK x).symm
    have := congrArg List.length this
    rw [sl_len] at this
    simp at this
    omega
  have e1 : sl f' 0 k = sl f3 0 k3 := So.uniq hs q4 fun x => (turn_mem f hK x).symm
  obtain rfl : k = k3 := by
    have := congrArg List.length e1
    rwa [sl_len, sl_len] at this
  rcases sortC_ok (cp := cp) (off := off) (z := y) (n := k) (f := f') (by omega) (by omega) with ⟨r1, r2⟩ | ⟨f4, k4, y4, r1, r2, r3, r4, r5⟩
  · have : sl f' 0 k = [] := So.uniq hs.self r1 fun x => Iff.rfl
    have := congrArg List.length this
    rw [sl_len] at this
    simp at this
    omega
  have e2 : sl f' 0 k = sl f4 0 k4 := So.uniq hs.self r4 fun x => Iff.rfl
  obtain rfl : k = k4 := by
    have := congrArg List.length e2
    rwa [sl_len, sl_len] at this
  have s1 := same_ok (z := y3) (y := y) (n := k) (f := f3) (g := f') q3 hy (by omega) e1.symm
  have s2 := same_ok (z := y4) (y := y) (n := k) (f := f4) (g := f') r3 hy (by omega) e2.symm
  have x1 := encC_ok (cp := cp) (off := off) (z := 0 + (m - K) * 3 + m * 3) (n := m - K + m) (f := gt f K m) (by omega) (by omega) (l := sl f' 0 k) ⟨hs.1, fun x => by rw [hs.2, turn_mem f hK]⟩
  have x2 := encR_ok (off := off) (z := z) (n := m) (cp := cp) (f := f) hz (by omega) hs
  refine Obl.goal (K := Goal P 0 6 _) mix (fun _ h => h) (cast (fC (fun v => v = .bool true) (elo f off) (el f') (el (gt f K m)) (el f3) (el f4) [] [] (encL (sl f' 0 k)) 0 0 0 0 _ tn (m - K + m) m cp z y (0 + (m - K) * 3 + m * 3) y3 y4 off off k true GW (Goal P 0 6 _)).symm ?_)
  rw [hmod, Int.toNat_natCast, hif]
  refine ⟨decide_eq_false (by omega), decide_eq_true (by omega), by omega, ⟨by omega, by omega⟩,
    ⟨⟨⟨by omega, by omega⟩, get_one _ (elo_one f off) _ _⟩, by omega, room32 _ (by omega)⟩,
    ⟨⟨⟨by omega, by omega⟩, get_one _ (elo_one f off) _ _⟩, h0, by omega, by omega, by omega, room32 _ (by omega), by omega⟩,
    turn_el f off K m DS DS_eq, rfl, el_plain _, el_plain _, rfl, el_plain _, el_plain _, el_plain _, q5, el_plain _, el_plain _, el_plain _, el_plain _, s1, el_plain _, el_plain _, el_plain _, r5, el_plain _, el_plain _, el_plain _, el_plain _, s2, el_plain _, el_plain _, x1, x2, ?_⟩
  rw [beqT rfl]

theorem sort0 : Goal P 0 12 (fun x k => x = .nils 0 0 ∧ k = ⟨.leaf, 0, GW⟩) (startM P 12 [.nils 0 0] GW) :=
  Obl.goal (K := Goal P 0 12 _) mix (fun _ h => h) (cast (sortN (fun x k => x = .nils 0 0 ∧ k = ⟨.leaf, 0, GW⟩) GW (Goal P 0 12 _)).symm ⟨rfl, rfl⟩)

theorem fB_ok (hz : off + m * 3 ≤ z) (hm : m ≤ 200) (hcp : m ≤ cp) (h0 : 0 < m) (hs : So (sl f 0 m) []) (ht : 0 ≤ tn) (ht2 : tn ≤ 255) :
    Goal P 0 6 (fun v _ => v = .bool true) (OY (elo f off) (m : Int) tn m cp z off off GW) := by
  obtain ⟨K, hK, hmod⟩ := mod_eq ht ht2 h0
  have hif : (if cp = K then off else off + K * 3) = off + K * 3 := if_neg (by omega)
  rcases sortC_ok (cp := cp) (off := off) (z := 0 + (m - K) * 3 + m * 3) (n := m - K + m) (f := gt f K m) (by omega) (by omega) with ⟨q1, q2⟩ | ⟨f3, k3, y3, q1, q2, q3, q4, q5⟩
  · have x1 := encC_ok (cp := cp) (off := off) (z := 0 + (m - K) * 3 + m * 3) (n := m - K + m) (f := gt f K m) (by omega) (by omega) q1
    have x2 := encR_ok (off := off) (z := z) (n := m) (cp := cp) (f := f) hz (by omega) hs
    refine Obl.goal (K := Goal P 0 6 _) mix (fun _ h => h) (cast (fB (fun v => v = .bool true) (elo f off) (el f) (el (gt f K m)) (el f) (el f) [] [] (encL []) 0 0 0 0 _ tn (m - K + m) m cp z 0 (0 + (m - K) * 3 + m * 3) 0 0 off off 0 true GW (Goal P 0 6 _)).symm ?_)
    rw [hmod, Int.toNat_natCast, hif]
    refine ⟨decide_eq_false (by omega), decide_eq_true (by omega), by omega, ⟨by omega, by omega⟩,
      ⟨⟨⟨by omega, by omega⟩, get_one _ (elo_one f off) _ _⟩, by omega, room32 _ (by omega)⟩,
      ⟨⟨⟨by omega, by omega⟩, get_one _ (elo_one f off) _ _⟩, h0, by omega, by omega, by omega, room32 _ (by omega), by omega⟩,
      turn_el f off K m DS DS_eq, rfl, el_plain _, rfl, el_plain _, el_plain _, q2, same_nil, sort0, same_nil, el_plain _, el_plain _, x1, x2, ?_⟩
    rw [beqT rfl]
  · have : sl f3 0 k3 = [] := So.uniq q4 hs fun x => turn_mem f hK x
    have := congrArg List.length this
    rw [sl_len] at this
    simp at this
    omega

theorem fA_ok (hz : off ≤ z) : Goal P 0 6 (fun v _ => v = .bool true) (OY (elo f off) ((0 : Nat) : Int) tn 0 cp z off off GW) := by
  have x2 := encR_ok (off := off) (z := z) (n := 0) (cp := cp) (f := f) (by omega) (by omega) (l := []) ⟨.nil, fun x => by simp [sl]⟩
  refine Obl.goal (K := Goal P 0 6 _) mix (fun _ h => h) (cast (fA (fun v => v = .bool true) (elo f off) (el f) (el f) (el f) (el f) [] [] (encL []) 0 0 0 0 0 tn 0 0 cp z 0 0 0 0 off off 0 true GW (Goal P 0 6 _)).symm
    ⟨app0 (elo f off) off _ z cp (by split <;> rfl) hz _ rfl, app0 (elo f off) off _ z cp rfl hz _ rfl, sort0, same_nil, sort0, same_nil, enc_nil, x2, ?_⟩)
  rw [beqT rfl]

/-! ## The law -/

theorem order_ok {n : Nat} (hz : off + n * 3 ≤ z) (hcp : n ≤ cp) (ht : 0 ≤ tn) (ht2 : tn ≤ 255) :
    Goal P 0 6 (fun v _ => v = .bool true) (startH P 6 [.slc 0 0 off n cp, .int .u8 tn] ⟨(.node .leaf (some (.ro (.fn fun c => some (elo f off c)) off z)) .leaf), 1, GW⟩) := by
  generalize hm : min n 200 = m
  have hm1 : m ≤ 200 := by omega
  have hcut : (if decide ((200 : Int) < (n : Int)) = true then (200 : Int) else (n : Int)) = (m : Int) := by
    by_cases h : (200 : Int) < (n : Int)
    · rw [decide_eq_true h, if_pos rfl]; omega
    · rw [decide_eq_false h, if_neg (by simp)]; omega
  have hsl : AV.slc 0 0 (if cp = 0 then off else off) ((if decide ((200 : Int) < (n : Int)) = true then (200 : Int) else (n : Int)).toNat - 0) (cp - 0) = AV.slc 0 0 off m cp := by
    rw [hcut, Int.toNat_natCast]
    congr 1
    split <;> rfl
  have hbd : (0 : Int) ≤ (if decide ((200 : Int) < (n : Int)) = true then (200 : Int) else (n : Int)) ∧ (if decide ((200 : Int) < (n : Int)) = true then (200 : Int) else (n : Int)) ≤ (cp : Int) := by
    rw [hcut]; omega
  have hz' : off + m * 3 ≤ z := by omega
  rcases sortR_ok (off := off) (z := z) (n := m) (cp := cp) (f := f) hz' (by omega) with ⟨q1, q2⟩ | ⟨f', k, y, q1, q2, q3, q4, q5⟩
  · have hend : Goal P 0 6 (fun v _ => v = .bool true) (OY (elo f off) (m : Int) tn m cp z off off GW) := by
      by_cases h0 : 0 < m
      · exact fB_ok hz' hm1 (by omega) h0 q1 ht ht2
      · obtain rfl : m = 0 := by omega
        exact fA_ok (by omega)
    exact Obl.goal (K := Goal P 0 6 _) mix (fun _ h => h) (cast (oz (fun v => v = .bool true) (elo f off) (el f) (el f) (el f) (el f) [] [] [] 0 0 0 0 0 tn n m cp z 0 0 0 0 off off 0 true GW (Goal P 0 6 _)).symm
      ⟨works_ok, hbd, hsl, q2, Obl.goal (K := Goal P 0 6 _) mix (fun _ h => h) (cast (oy (fun v => v = .bool true) (elo f off) (el f) (el f) (el f) (el f) [] [] [] 0 0 0 0 0 tn n m cp z 0 0 0 0 off off 0 true GW (Goal P 0 6 _)).symm (oe_loop hz' hm1 q1 hend m 0 (by omega)))⟩)
  · have h0 : 0 < m := by omega
    have hend := fC_ok (tn := tn) (cp := cp) hz' hm1 (by omega) h0 q3 q1 (by omega) q4 ht ht2
    exact Obl.goal (K := Goal P 0 6 _) mix (fun _ h => h) (cast (oa (fun v => v = .bool true) (elo f off) (el f') (el f) (el f) (el f) [] [] [] 0 0 0 0 0 tn n m cp z y 0 0 0 off off k true GW (Goal P 0 6 _)).symm
      ⟨works_ok, hbd, hsl, el_plain _, q5, el_plain _, oa_loop hz' hm1 q3 (by omega) q4 (ob_loop hz' hm1 q3 (by omega) q4 hend m 0 (by omega)) k 0 (by omega)⟩)

end
end Go.Proofs.YtdbfpjgnlfejmaaDoor.dg
