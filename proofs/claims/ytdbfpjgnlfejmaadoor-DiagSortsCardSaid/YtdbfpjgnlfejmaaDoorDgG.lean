/- The lists of the document: their order, sorted by insertion, their bytes, alike: whatever their length. -/
import Derived.Test.YtdbfpjgnlfejmaaDoorDgF
set_option maxRecDepth 100000
set_option linter.unusedVariables false
namespace Go.Proofs.YtdbfpjgnlfejmaaDoor.dg
open Go Ev mq

def zf : Nat → Dg := fun _ => zd

noncomputable def RsA (cell : Nat → AV) (i : Int) (n z : Nat) (G : T (T AV)) : AM := ⟨⟨13, 69, (.node (.node (.node .leaf (some (.nils 0 0)) .leaf) none .leaf) (some (.slg 0 0 0 n 0)) (.node (.node .leaf (some (.int .i64 i)) .leaf) none .leaf)),
   [.code (cd P (13 : Nat) [(1 : Nat), (1 : Nat), (0 : Nat), (1 : Nat), (0 : Nat), (0 : Nat)]), .inLoop (cd P (13 : Nat) [(1 : Nat), (1 : Nat), (0 : Nat), (1 : Nat), (0 : Nat), (0 : Nat)]), .inBlock 0, .code (cd P (13 : Nat) [(1 : Nat), (1 : Nat), (1 : Nat)])], [], .run, CallKind.normal, none⟩,
  [],
  ⟨(.node .leaf (some (.cells (.fn fun c => some (cell c)) z 35 0 0 1 0 false .leaf)) .leaf), 1, G⟩⟩
noncomputable def RsB (cell cell' : Nat → AV) (i : Int) (n m z y : Nat) (G : T (T AV)) : AM := ⟨⟨13, 69, (.node (.node (.node .leaf (some (.slg 1 0 0 m 0)) .leaf) none .leaf) (some (.slg 0 0 0 n 0)) (.node (.node .leaf (some (.int .i64 i)) .leaf) none .leaf)),
   [.code (cd P (13 : Nat) [(1 : Nat), (1 : Nat), (0 : Nat), (1 : Nat), (0 : Nat), (0 : Nat)]), .inLoop (cd P (13 : Nat) [(1 : Nat), (1 : Nat), (0 : Nat), (1 : Nat), (0 : Nat), (0 : Nat)]), .inBlock 0, .code (cd P (13 : Nat) [(1 : Nat), (1 : Nat), (1 : Nat)])], [], .run, CallKind.normal, none⟩,
  [],
  ⟨(.node (.node .leaf (some (.cells (.fn fun c => some (cell' c)) y 35 0 0 1 0 false .leaf)) .leaf) (some (.cells (.fn fun c => some (cell c)) z 35 0 0 1 0 false .leaf)) .leaf), 2, G⟩⟩
noncomputable def RsD (cell : Nat → AV) (i : Int) (n z : Nat) (G : T (T AV)) : AM := ⟨⟨13, 69, (.node (.node (.node .leaf (some (.nils 0 0)) .leaf) none (.node .leaf (some (.int .i64 0)) .leaf)) (some (.slg 0 0 0 n 0)) (.node (.node .leaf (some (.int .i64 i)) .leaf) none .leaf)),
   [.code (cd P (13 : Nat) [(1 : Nat), (1 : Nat), (0 : Nat), (1 : Nat), (0 : Nat), (0 : Nat), (1 : Nat), (0 : Nat), (0 : Nat), (1 : Nat), (1 : Nat), (0 : Nat), (0 : Nat), (0 : Nat)]), .inLoop (cd P (13 : Nat) [(1 : Nat), (1 : Nat), (0 : Nat), (1 : Nat), (0 : Nat), (0 : Nat), (1 : Nat), (0 : Nat), (0 : Nat), (1 : Nat), (1 : Nat), (0 : Nat), (0 : Nat), (0 : Nat)]), .inBlock 2, .code (cd P (13 : Nat) [(1 : Nat), (1 : Nat), (0 : Nat), (1 : Nat), (0 : Nat), (0 : Nat), (1 : Nat), (0 : Nat), (0 : Nat), (1 : Nat), (1 : Nat), (1 : Nat)]), .inBlock 1, .code (cd P (13 : Nat) [(1 : Nat), (1 : Nat), (0 : Nat), (1 : Nat), (0 : Nat), (0 : Nat), (1 : Nat), (1 : Nat)]), .inLoop (cd P (13 : Nat) [(1 : Nat), (1 : Nat), (0 : Nat), (1 : Nat), (0 : Nat), (0 : Nat)]), .inBlock 0, .code (cd P (13 : Nat) [(1 : Nat), (1 : Nat), (1 : Nat)])], [], .run, CallKind.normal, none⟩,
  [],
  ⟨(.node .leaf (some (.cells (.fn fun c => some (cell c)) z 35 0 0 1 0 false .leaf)) .leaf), 1, G⟩⟩
noncomputable def RsC (cell cell' : Nat → AV) (i u : Int) (n m z y : Nat) (G : T (T AV)) : AM := ⟨⟨13, 69, (.node (.node (.node .leaf (some (.slg 1 0 0 m 0)) .leaf) none (.node .leaf (some (.int .i64 u)) .leaf)) (some (.slg 0 0 0 n 0)) (.node (.node .leaf (some (.int .i64 i)) .leaf) none .leaf)),
   [.code (cd P (13 : Nat) [(1 : Nat), (1 : Nat), (0 : Nat), (1 : Nat), (0 : Nat), (0 : Nat), (1 : Nat), (0 : Nat), (0 : Nat), (1 : Nat), (1 : Nat), (0 : Nat), (0 : Nat), (0 : Nat)]), .inLoop (cd P (13 : Nat) [(1 : Nat), (1 : Nat), (0 : Nat), (1 : Nat), (0 : Nat), (0 : Nat), (1 : Nat), (0 : Nat), (0 : Nat), (1 : Nat), (1 : Nat), (0 : Nat), (0 : Nat), (0 : Nat)]), .inBlock 2, .code (cd P (13 : Nat) [(1 : Nat), (1 : Nat), (0 : Nat), (1 : Nat), (0 : Nat), (0 : Nat), (1 : Nat), (0 : Nat), (0 : Nat), (1 : Nat), (1 : Nat), (1 : Nat)]), .inBlock 1, .code (cd P (13 : Nat) [(1 : Nat), (1 : Nat), (0 : Nat), (1 : Nat), (0 : Nat), (0 : Nat), (1 : Nat), (1 : Nat)]), .inLoop (cd P (13 : Nat) [(1 : Nat), (1 : Nat), (0 : Nat), (1 : Nat), (0 : Nat), (0 : Nat)]), .inBlock 0, .code (cd P (13 : Nat) [(1 : Nat), (1 : Nat), (1 : Nat)])], [], .run, CallKind.normal, none⟩,
  [],
  ⟨(.node (.node .leaf (some (.cells (.fn fun c => some (cell' c)) y 35 0 0 1 0 false .leaf)) .leaf) (some (.cells (.fn fun c => some (cell c)) z 35 0 0 1 0 false .leaf)) .leaf), 2, G⟩⟩
noncomputable def Ls (p q : List UInt8) (i : Int) (G : T (T AV)) : AM := ⟨⟨72, 37, (.node (.node .leaf (some (.str q)) (.node .leaf (some (.int .i64 i)) .leaf)) (some (.str p)) .leaf),
   [.code (cd P (72 : Nat) [(1 : Nat), (0 : Nat), (1 : Nat), (0 : Nat), (0 : Nat)]), .inLoop (cd P (72 : Nat) [(1 : Nat), (0 : Nat), (1 : Nat), (0 : Nat), (0 : Nat)]), .inBlock 0, .code (cd P (72 : Nat) [(1 : Nat), (1 : Nat)])], [], .run, CallKind.normal, none⟩,
  [],
  ⟨.leaf, 0, G⟩⟩
noncomputable def Er (cell cell' : Nat → AV) (s : List UInt8) (i : Int) (m z y : Nat) (G : T (T AV)) : AM := ⟨⟨15, 41, (.node (.node (.node .leaf (some (.str s)) .leaf) none .leaf) (some (.slg 1 0 0 m 0)) (.node (.node .leaf (some (.int .i64 i)) .leaf) none .leaf)),
   [.code (cd P (15 : Nat) [(1 : Nat), (1 : Nat), (1 : Nat), (0 : Nat), (1 : Nat), (0 : Nat), (0 : Nat)]), .inLoop (cd P (15 : Nat) [(1 : Nat), (1 : Nat), (1 : Nat), (0 : Nat), (1 : Nat), (0 : Nat), (0 : Nat)]), .inBlock 0, .code (cd P (15 : Nat) [(1 : Nat), (1 : Nat), (1 : Nat), (1 : Nat)])], [], .run, CallKind.normal, none⟩,
  [],
  ⟨(.node (.node .leaf (some (.cells (.fn fun c => some (cell' c)) y 35 0 0 1 0 false .leaf)) .leaf) (some (.cells (.fn fun c => some (cell c)) z 35 0 0 1 0 false .leaf)) .leaf), 2, G⟩⟩
noncomputable def Ez (cell : Nat → AV) (s : List UInt8) (z : Nat) (G : T (T AV)) : AM := ⟨⟨15, 41, (.node (.node (.node .leaf (some (.str s)) .leaf) none .leaf) (some (.nils 0 0)) (.node (.node .leaf (some (.int .i64 0)) .leaf) none .leaf)),
   [.code (cd P (15 : Nat) [(1 : Nat), (1 : Nat), (1 : Nat), (0 : Nat), (1 : Nat), (0 : Nat), (0 : Nat)]), .inLoop (cd P (15 : Nat) [(1 : Nat), (1 : Nat), (1 : Nat), (0 : Nat), (1 : Nat), (0 : Nat), (0 : Nat)]), .inBlock 0, .code (cd P (15 : Nat) [(1 : Nat), (1 : Nat), (1 : Nat), (1 : Nat)])], [], .run, CallKind.normal, none⟩,
  [],
  ⟨(.node .leaf (some (.cells (.fn fun c => some (cell c)) z 35 0 0 1 0 false .leaf)) .leaf), 1, G⟩⟩
noncomputable def Sc (cell cell' : Nat → AV) (i : Int) (n m z y : Nat) (G : T (T AV)) : AM := ⟨⟨11, 26, (.node (.node .leaf (some (.slg 1 0 0 m 0)) (.node .leaf (some (.int .i64 i)) .leaf)) (some (.slg 0 0 0 n 0)) .leaf),
   [.code (cd P (11 : Nat) [(1 : Nat), (1 : Nat), (0 : Nat), (1 : Nat), (0 : Nat), (0 : Nat)]), .inLoop (cd P (11 : Nat) [(1 : Nat), (1 : Nat), (0 : Nat), (1 : Nat), (0 : Nat), (0 : Nat)]), .inBlock 0, .code (cd P (11 : Nat) [(1 : Nat), (1 : Nat), (1 : Nat)])], [], .run, CallKind.normal, none⟩,
  [],
  ⟨(.node (.node .leaf (some (.cells (.fn fun c => some (cell' c)) y 35 0 0 1 0 false .leaf)) .leaf) (some (.cells (.fn fun c => some (cell c)) z 35 0 0 1 0 false .leaf)) .leaf), 2, G⟩⟩
noncomputable def Sr (cell cell' : Nat → AV) (i : Int) (n m cp z y lo off : Nat) (G : T (T AV)) : AM := ⟨⟨11, 26, (.node (.node .leaf (some (.slg 1 0 0 m 0)) (.node .leaf (some (.int .i64 i)) .leaf)) (some (.slc 0 0 off n cp)) .leaf),
   [.code (cd P (11 : Nat) [(1 : Nat), (1 : Nat), (0 : Nat), (1 : Nat), (0 : Nat), (0 : Nat)]), .inLoop (cd P (11 : Nat) [(1 : Nat), (1 : Nat), (0 : Nat), (1 : Nat), (0 : Nat), (0 : Nat)]), .inBlock 0, .code (cd P (11 : Nat) [(1 : Nat), (1 : Nat), (1 : Nat)])], [], .run, CallKind.normal, none⟩,
  [],
  ⟨(.node (.node .leaf (some (.cells (.fn fun c => some (cell' c)) y 35 0 0 1 0 false .leaf)) .leaf) (some (.ro (.fn fun c => some (cell c)) lo z)) .leaf), 2, G⟩⟩

theorem rCz (R : AV → AHeap → Prop) (cell cell' cell2 cell3 : Nat → AV) (p q : List UInt8) (a c e g i : Int) (u n m z y y2 cp off : Nat) (b b2 b3 : Bool) (G : T (T AV)) (K : AM → Prop) : Obl P 13 (fun v h => R v h) 1 K [.run 8, .know 23 false, .run 21, .know 40 false, .run 22, .op, .opw false, .run 7, .op, .op, .slot 60 (.agg [.str p, .int .i64 a, .int .i64 c]), .run 1, .opw false, .run 2, .told 2 (.fn fun c => some (cell2 c)) y2, .run 4, .op, .slot 66 (.slg 1 0 (0 + (u : Int).toNat * 3) 0 (0 + (u : Int).toNat)), .res (.val (.slg 2 1 0 ((u : Int).toNat - (0 : Nat) + 1) 0) ⟨(.node (.node (.node .leaf (some (.cells (.node (.node .leaf (some (.int .i64 a)) .leaf) (some (.str p)) (.node .leaf (some (.int .i64 c)) .leaf)) 3 35 0 0 1 0 false .leaf)) .leaf) (some (.cells (.fn fun c => some (cell' c)) y 35 0 0 1 0 false .leaf)) .leaf) (some (.cells (.fn fun c => some (cell c)) z 35 0 0 1 0 false .leaf)) (.node .leaf (some (.cells (.fn fun c => some (cell2 c)) y2 35 1 1 2 0 false .leaf)) .leaf)), 4, G⟩), .run 9, .can 1 [0, 2] [0, 3, 4] []] ((RsC cell cell' i (u : Int) n m z y G)) = ((decide ((↑u : Int) < (↑m : Int)) = false) ∧ (decide ((↑u : Int) < (↑m : Int)) = false) ∧ ((0 : Int) ≤ (↑u : Int) ∧ (↑u : Int) ≤ (↑m : Int)) ∧ ((0 + ((↑u : Int).toNat - (0 : Nat)) * 3 ≤ y ∧ ∀ (k : Nat), k < ((↑u : Int).toNat - (0 : Nat)) * DS → ∃ v, (T.fn fun c => some (cell' c)).get (0 + k) = some v ∧ v.one = true) ∧ (0 : Nat) < (↑u : Int).toNat - (0 : Nat) ∧ roomA ((↑u : Int).toNat - (0 : Nat)) (32) = true) ∧ ((0 : Int) ≤ i ∧ i < (↑n : Int)) ∧ (0 + i.toNat * 3 + 3 ≤ z) ∧ (AV.agg [cell (0 + i.toNat * 3), cell (0 + i.toNat * 3 + 1), cell (0 + i.toNat * 3 + 2)] = AV.agg [AV.str p, AV.int IntKind.i64 a, AV.int IntKind.i64 c]) ∧ ((0 + 1 * DS ≤ 3 ∧ ∀ (k : Nat), k < 1 * DS → ∃ v, ((T.leaf.node (some (AV.int IntKind.i64 a)) T.leaf).node (some (AV.str p)) (T.leaf.node (some (AV.int IntKind.i64 c)) T.leaf)).get (0 + k) = some v ∧ v.one = true) ∧ (0 : Nat) < 1 ∧ 0 + ((↑u : Int).toNat - (0 : Nat)) * 3 ≤ ((↑u : Int).toNat - (0 : Nat)) * 3 ∧ 0 ≤ 0 + ((↑u : Int).toNat - (0 : Nat)) * 3 ∧ 0 = 0 * DS ∧ roomA ((↑u : Int).toNat - (0 : Nat) + 1) (32) = true ∧ ((↑u : Int).toNat - (0 : Nat)) * 3 < 0 + ((↑u : Int).toNat - (0 : Nat) + 1) * 3) ∧ (Tells (y2) ((.fn fun c => some (cell2 c))) ((.fn fun k => bif (0 + ((↑u : Int).toNat - (0 : Nat)) * DS).ble k && k.blt (0 + ((↑u : Int).toNat - (0 : Nat)) * DS + 1 * DS) then (fun k => ((T.leaf.node (some (AV.int IntKind.i64 a)) T.leaf).node (some (AV.str p)) (T.leaf.node (some (AV.int IntKind.i64 c)) T.leaf)).get (0 + k)) (k - (0 + ((↑u : Int).toNat - (0 : Nat)) * DS)) else (T.fn fun k => (T.fn fun c => some (cell' c)).get (0 + k)).get k))) ∧ (y2 = 0 + ((↑u : Int).toNat - (0 : Nat)) * 3 + 3) ∧ ((0 : Int) ≤ (↑u : Int) ∧ (↑u : Int) ≤ (↑m : Int)) ∧ (AV.slg (1) (0) (0 + (↑u : Int).toNat * 3) (m - (↑u : Int).toNat) (0 + (↑u : Int).toNat) = AV.slg (1) (0) ((0 : Nat) + (↑u : Int).toNat * (3 : Nat)) (0) ((0 : Nat) + (↑u : Int).toNat)) ∧ (liftV (appendA P { objs := ((T.leaf.node (some (AObj.cells ((T.leaf.node (some (AV.int IntKind.i64 a)) T.leaf).node (some (AV.str p)) (T.leaf.node (some (AV.int IntKind.i64 c)) T.leaf)) (3) (35) (0) (0) (1) (0) false T.leaf)) T.leaf).node (some (AObj.cells (T.fn fun c => some (cell' c)) y (35) (0) (0) (1) (0) false T.leaf)) T.leaf).node (some (AObj.cells (T.fn fun c => some (cell c)) z (35) (0) (0) (1) (0) false T.leaf)) (T.leaf.node (some (AObj.cells (T.fn fun c => some (cell2 c)) y2 (35) (1) (1) (2) (0) false T.leaf)) T.leaf), next := 4, glob := G } 22 false (AV.slg (2) (1) (0) ((↑u : Int).toNat - (0 : Nat) + 1) (0)) (AV.slg (1) (0) ((0 : Nat) + (↑u : Int).toNat * (3 : Nat)) (0) ((0 : Nat) + (↑u : Int).toNat))) = some (AR.val (AV.slg (2) (1) (0) ((↑u : Int).toNat - (0 : Nat) + (1 : Nat)) (0)) { objs := ((T.leaf.node (some (AObj.cells ((T.leaf.node (some (AV.int IntKind.i64 a)) T.leaf).node (some (AV.str p)) (T.leaf.node (some (AV.int IntKind.i64 c)) T.leaf)) (3) (35) (0) (0) (1) (0) false T.leaf)) T.leaf).node (some (AObj.cells (T.fn fun c => some (cell' c)) y (35) (0) (0) (1) (0) false T.leaf)) T.leaf).node (some (AObj.cells (T.fn fun c => some (cell c)) z (35) (0) (0) (1) (0) false T.leaf)) (T.leaf.node (some (AObj.cells (T.fn fun c => some (cell2 c)) y2 (35) (1) (1) (2) (0) false T.leaf)) T.leaf), next := 4, glob := G })) ∧ (PlainFn fun c => some (cell c)) ∧ (PlainFn fun c => some (cell2 c)) ∧ K (RsB cell cell2 (IntKind.i64.wrap (i + (1 : Int))) n ((↑u : Int).toNat - (0 : Nat) + (1 : Nat)) z y2 G)) := by kernel_rfl

theorem rCyy (R : AV → AHeap → Prop) (cell cell' cell2 cell3 : Nat → AV) (p q : List UInt8) (a c e g i : Int) (u n m z y y2 cp off : Nat) (b b2 b3 : Bool) (G : T (T AV)) (K : AM → Prop) : Obl P 13 (fun v h => R v h) 1 K [.run 8, .know 23 true, .run 2, .op, .op, .slot 27 (.agg [.str q, .int .i64 e, .int .i64 g]), .run 2, .op, .op, .slot 31 (.agg [.str p, .int .i64 a, .int .i64 c]), .run 1, (.callv [0, 1] (.bool b2)), .run 2, .know 33 true, .run 10, .can 1 [0, 1] [0, 3, 4, 5] []] ((RsC cell cell' i (u : Int) n m z y G)) = ((decide ((↑u : Int) < (↑m : Int)) = true) ∧ ((0 : Int) ≤ (↑u : Int) ∧ (↑u : Int) < (↑m : Int)) ∧ (0 + (↑u : Int).toNat * 3 + 3 ≤ y) ∧ (AV.agg [cell' (0 + (↑u : Int).toNat * 3), cell' (0 + (↑u : Int).toNat * 3 + 1), cell' (0 + (↑u : Int).toNat * 3 + 2)] = AV.agg [AV.str q, AV.int IntKind.i64 e, AV.int IntKind.i64 g]) ∧ ((0 : Int) ≤ i ∧ i < (↑n : Int)) ∧ (0 + i.toNat * 3 + 3 ≤ z) ∧ (AV.agg [cell (0 + i.toNat * 3), cell (0 + i.toNat * 3 + 1), cell (0 + i.toNat * 3 + 2)] = AV.agg [AV.str p, AV.int IntKind.i64 a, AV.int IntKind.i64 c]) ∧ (Goal P (0) 46 (fun x x_1 => x = AV.bool b2) (startM P 46 [.agg [.str q, .int .i64 e, .int .i64 g], .agg [.str p, .int .i64 a, .int .i64 c]] G)) ∧ (b2 = true) ∧ (PlainFn fun c => some (cell c)) ∧ (PlainFn fun c => some (cell' c)) ∧ K (RsC cell cell' i (IntKind.i64.wrap ((↑u : Int) + (1 : Int))) n m z y G)) := by kernel_rfl

theorem rCyny (R : AV → AHeap → Prop) (cell cell' cell2 cell3 : Nat → AV) (p q : List UInt8) (a c e g i : Int) (u n m z y y2 cp off : Nat) (b b2 b3 : Bool) (G : T (T AV)) (K : AM → Prop) : Obl P 13 (fun v h => R v h) 1 K [.run 8, .know 23 true, .run 2, .op, .op, .slot 27 (.agg [.str q, .int .i64 e, .int .i64 g]), .run 2, .op, .op, .slot 31 (.agg [.str p, .int .i64 a, .int .i64 c]), .run 1, (.callv [0, 1] (.bool b2)), .run 2, .know 33 false, .run 10, .know 40 true, .run 2, .op, .op, .slot 44 (.agg [.str q, .int .i64 e, .int .i64 g]), .run 2, .op, .op, .slot 48 (.agg [.str p, .int .i64 a, .int .i64 c]), .isv (.bool b3), .run 2, .know 50 true, .run 8, .can 1 [0, 1] [0, 3, 4] []] ((RsC cell cell' i (u : Int) n m z y G)) = ((decide ((↑u : Int) < (↑m : Int)) = true) ∧ ((0 : Int) ≤ (↑u : Int) ∧ (↑u : Int) < (↑m : Int)) ∧ (0 + (↑u : Int).toNat * 3 + 3 ≤ y) ∧ (AV.agg [cell' (0 + (↑u : Int).toNat * 3), cell' (0 + (↑u : Int).toNat * 3 + 1), cell' (0 + (↑u : Int).toNat * 3 + 2)] = AV.agg [AV.str q, AV.int IntKind.i64 e, AV.int IntKind.i64 g]) ∧ ((0 : Int) ≤ i ∧ i < (↑n : Int)) ∧ (0 + i.toNat * 3 + 3 ≤ z) ∧ (AV.agg [cell (0 + i.toNat * 3), cell (0 + i.toNat * 3 + 1), cell (0 + i.toNat * 3 + 2)] = AV.agg [AV.str p, AV.int IntKind.i64 a, AV.int IntKind.i64 c]) ∧ (Goal P (0) 46 (fun x x_1 => x = AV.bool b2) (startM P 46 [.agg [.str q, .int .i64 e, .int .i64 g], .agg [.str p, .int .i64 a, .int .i64 c]] G)) ∧ (b2 = false) ∧ (decide ((↑u : Int) < (↑m : Int)) = true) ∧ ((0 : Int) ≤ (↑u : Int) ∧ (↑u : Int) < (↑m : Int)) ∧ (0 + (↑u : Int).toNat * 3 + 3 ≤ y) ∧ (AV.agg [cell' (0 + (↑u : Int).toNat * 3), cell' (0 + (↑u : Int).toNat * 3 + 1), cell' (0 + (↑u : Int).toNat * 3 + 2)] = AV.agg [AV.str q, AV.int IntKind.i64 e, AV.int IntKind.i64 g]) ∧ ((0 : Int) ≤ i ∧ i < (↑n : Int)) ∧ (0 + i.toNat * 3 + 3 ≤ z) ∧ (AV.agg [cell (0 + i.toNat * 3), cell (0 + i.toNat * 3 + 1), cell (0 + i.toNat * 3 + 2)] = AV.agg [AV.str p, AV.int IntKind.i64 a, AV.int IntKind.i64 c]) ∧ (∀ (h : AHeap), binA P h BinOp.eql (35 : Nat) (isConstO (Operand.tmp (44 : Nat)) || isConstO (Operand.tmp (48 : Nat))) (AV.agg [AV.str q, AV.int IntKind.i64 e, AV.int IntKind.i64 g]) (AV.agg [AV.str p, AV.int IntKind.i64 a, AV.int IntKind.i64 c]) = some (AV.bool b3)) ∧ (b3 = true) ∧ (PlainFn fun c => some (cell c)) ∧ (PlainFn fun c => some (cell' c)) ∧ K (RsB cell cell' (IntKind.i64.wrap (i + (1 : Int))) n m z y G)) := by kernel_rfl

theorem rCynn (R : AV → AHeap → Prop) (cell cell' cell2 cell3 : Nat → AV) (p q : List UInt8) (a c e g i : Int) (u n m z y y2 cp off : Nat) (b b2 b3 : Bool) (G : T (T AV)) (K : AM → Prop) : Obl P 13 (fun v h => R v h) 1 K [.run 8, .know 23 true, .run 2, .op, .op, .slot 27 (.agg [.str q, .int .i64 e, .int .i64 g]), .run 2, .op, .op, .slot 31 (.agg [.str p, .int .i64 a, .int .i64 c]), .run 1, (.callv [0, 1] (.bool b2)), .run 2, .know 33 false, .run 10, .know 40 true, .run 2, .op, .op, .slot 44 (.agg [.str q, .int .i64 e, .int .i64 g]), .run 2, .op, .op, .slot 48 (.agg [.str p, .int .i64 a, .int .i64 c]), .isv (.bool b3), .run 2, .know 50 false, .run 11, .op, .opw false, .run 7, .op, .op, .slot 60 (.agg [.str p, .int .i64 a, .int .i64 c]), .run 1, .opw false, .run 6, .op, .opw false, .told 2 (.fn fun c => some (cell2 c)) y2, .run 9, .can 1 [0, 2] [0, 3, 4] []] ((RsC cell cell' i (u : Int) n m z y G)) = ((decide ((↑u : Int) < (↑m : Int)) = true) ∧ ((0 : Int) ≤ (↑u : Int) ∧ (↑u : Int) < (↑m : Int)) ∧ (0 + (↑u : Int).toNat * 3 + 3 ≤ y) ∧ (AV.agg [cell' (0 + (↑u : Int).toNat * 3), cell' (0 + (↑u : Int).toNat * 3 + 1), cell' (0 + (↑u : Int).toNat * 3 + 2)] = AV.agg [AV.str q, AV.int IntKind.i64 e, AV.int IntKind.i64 g]) ∧ ((0 : Int) ≤ i ∧ i < (↑n : Int)) ∧ (0 + i.toNat * 3 + 3 ≤ z) ∧ (AV.agg [cell (0 + i.toNat * 3), cell (0 + i.toNat * 3 + 1), cell (0 + i.toNat * 3 + 2)] = AV.agg [AV.str p, AV.int IntKind.i64 a, AV.int IntKind.i64 c]) ∧ (Goal P (0) 46 (fun x x_1 => x = AV.bool b2) (startM P 46 [.agg [.str q, .int .i64 e, .int .i64 g], .agg [.str p, .int .i64 a, .int .i64 c]] G)) ∧ (b2 = false) ∧ (decide ((↑u : Int) < (↑m : Int)) = true) ∧ ((0 : Int) ≤ (↑u : Int) ∧ (↑u : Int) < (↑m : Int)) ∧ (0 + (↑u : Int).toNat * 3 + 3 ≤ y) ∧ (AV.agg [cell' (0 + (↑u : Int).toNat * 3), cell' (0 + (↑u : Int).toNat * 3 + 1), cell' (0 + (↑u : Int).toNat * 3 + 2)] = AV.agg [AV.str q, AV.int IntKind.i64 e, AV.int IntKind.i64 g]) ∧ ((0 : Int) ≤ i ∧ i < (↑n : Int)) ∧ (0 + i.toNat * 3 + 3 ≤ z) ∧ (AV.agg [cell (0 + i.toNat * 3), cell (0 + i.toNat * 3 + 1), cell (0 + i.toNat * 3 + 2)] = AV.agg [AV.str p, AV.int IntKind.i64 a, AV.int IntKind.i64 c]) ∧ (∀ (h : AHeap), binA P h BinOp.eql (35 : Nat) (isConstO (Operand.tmp (44 : Nat)) || isConstO (Operand.tmp (48 : Nat))) (AV.agg [AV.str q, AV.int IntKind.i64 e, AV.int IntKind.i64 g]) (AV.agg [AV.str p, AV.int IntKind.i64 a, AV.int IntKind.i64 c]) = some (AV.bool b3)) ∧ (b3 = false) ∧ ((0 : Int) ≤ (↑u : Int) ∧ (↑u : Int) ≤ (↑m : Int)) ∧ ((0 + ((↑u : Int).toNat - (0 : Nat)) * 3 ≤ y ∧ ∀ (k : Nat), k < ((↑u : Int).toNat - (0 : Nat)) * DS → ∃ v, (T.fn fun c => some (cell' c)).get (0 + k) = some v ∧ v.one = true) ∧ (0 : Nat) < (↑u : Int).toNat - (0 : Nat) ∧ roomA ((↑u : Int).toNat - (0 : Nat)) (32) = true) ∧ ((0 : Int) ≤ i ∧ i < (↑n : Int)) ∧ (0 + i.toNat * 3 + 3 ≤ z) ∧ (AV.agg [cell (0 + i.toNat * 3), cell (0 + i.toNat * 3 + 1), cell (0 + i.toNat * 3 + 2)] = AV.agg [AV.str p, AV.int IntKind.i64 a, AV.int IntKind.i64 c]) ∧ ((0 + 1 * DS ≤ 3 ∧ ∀ (k : Nat), k < 1 * DS → ∃ v, ((T.leaf.node (some (AV.int IntKind.i64 a)) T.leaf).node (some (AV.str p)) (T.leaf.node (some (AV.int IntKind.i64 c)) T.leaf)).get (0 + k) = some v ∧ v.one = true) ∧ (0 : Nat) < 1 ∧ 0 + ((↑u : Int).toNat - (0 : Nat)) * 3 ≤ ((↑u : Int).toNat - (0 : Nat)) * 3 ∧ 0 ≤ 0 + ((↑u : Int).toNat - (0 : Nat)) * 3 ∧ 0 = 0 * DS ∧ roomA ((↑u : Int).toNat - (0 : Nat) + 1) (32) = true ∧ ((↑u : Int).toNat - (0 : Nat)) * 3 < 0 + ((↑u : Int).toNat - (0 : Nat) + 1) * 3) ∧ ((0 : Int) ≤ (↑u : Int) ∧ (↑u : Int) ≤ (↑m : Int)) ∧ ((0 + (↑u : Int).toNat * 3 + (m - (↑u : Int).toNat) * 3 ≤ y ∧ ∀ (k : Nat), k < (m - (↑u : Int).toNat) * DS → ∃ v, (T.fn fun c => some (cell' c)).get (0 + (↑u : Int).toNat * 3 + k) = some v ∧ v.one = true) ∧ (0 : Nat) < m - (↑u : Int).toNat ∧ 0 + ((↑u : Int).toNat - (0 : Nat) + 1) * 3 ≤ 0 + ((↑u : Int).toNat - (0 : Nat)) * 3 + 3 ∧ 0 ≤ 0 + ((↑u : Int).toNat - (0 : Nat) + 1) * 3 ∧ 0 = 0 * DS ∧ roomA ((↑u : Int).toNat - (0 : Nat) + 1 + (m - (↑u : Int).toNat)) (32) = true ∧ 0 + ((↑u : Int).toNat - (0 : Nat)) * 3 + 3 < 0 + ((↑u : Int).toNat - (0 : Nat) + 1 + (m - (↑u : Int).toNat)) * 3) ∧ (Tells (y2) ((.fn fun c => some (cell2 c))) ((.fn fun k => bif (0 + ((↑u : Int).toNat - (0 : Nat) + 1) * DS).ble k && k.blt (0 + ((↑u : Int).toNat - (0 : Nat) + 1) * DS + (m - (↑u : Int).toNat) * DS) then (fun k => (T.fn fun c => some (cell' c)).get (0 + (↑u : Int).toNat * 3 + k)) (k - (0 + ((↑u : Int).toNat - (0 : Nat) + 1) * DS)) else (T.fn fun k => bif (0 + ((↑u : Int).toNat - (0 : Nat)) * DS).ble k && k.blt (0 + ((↑u : Int).toNat - (0 : Nat)) * DS + 1 * DS) then (fun k => ((T.leaf.node (some (AV.int IntKind.i64 a)) T.leaf).node (some (AV.str p)) (T.leaf.node (some (AV.int IntKind.i64 c)) T.leaf)).get (0 + k)) (k - (0 + ((↑u : Int).toNat - (0 : Nat)) * DS)) else (T.fn fun k => (T.fn fun c => some (cell' c)).get (0 + k)).get k).get k))) ∧ (y2 = 0 + ((↑u : Int).toNat - (0 : Nat) + 1) * 3 + (m - (↑u : Int).toNat) * 3) ∧ (PlainFn fun c => some (cell c)) ∧ (PlainFn fun c => some (cell2 c)) ∧ K (RsB cell cell2 (IntKind.i64.wrap (i + (1 : Int))) n ((↑u : Int).toNat - (0 : Nat) + 1 + (m - (↑u : Int).toNat)) z y2 G)) := by kernel_rfl

theorem rC0ynn (R : AV → AHeap → Prop) (cell cell' cell2 cell3 : Nat → AV) (p q : List UInt8) (a c e g i : Int) (u n m z y y2 cp off : Nat) (b b2 b3 : Bool) (G : T (T AV)) (K : AM → Prop) : Obl P 13 (fun v h => R v h) 1 K [.run 8, .know 23 true, .run 2, .op, .op, .slot 27 (.agg [.str q, .int .i64 e, .int .i64 g]), .run 2, .op, .op, .slot 31 (.agg [.str p, .int .i64 a, .int .i64 c]), .run 1, (.callv [0, 1] (.bool b2)), .run 2, .know 33 false, .run 10, .know 40 true, .run 2, .op, .op, .slot 44 (.agg [.str q, .int .i64 e, .int .i64 g]), .run 2, .op, .op, .slot 48 (.agg [.str p, .int .i64 a, .int .i64 c]), .isv (.bool b3), .run 2, .know 50 false, .run 20, .op, .op, .slot 60 (.agg [.str p, .int .i64 a, .int .i64 c]), .run 9, .opw false, .told 3 (.fn fun c => some (cell2 c)) y2, .run 9, .can 1 [0, 3] [0, 3, 4] []] ((RsC cell cell' i 0 n m z y G)) = ((decide (Int.ofNat (0) < (↑m : Int)) = true) ∧ ((0 : Int) ≤ Int.ofNat (0) ∧ Int.ofNat (0) < (↑m : Int)) ∧ (3 ≤ y) ∧ (AV.agg [cell' (0), cell' (1), cell' (2)] = AV.agg [AV.str q, AV.int IntKind.i64 e, AV.int IntKind.i64 g]) ∧ ((0 : Int) ≤ i ∧ i < (↑n : Int)) ∧ (0 + i.toNat * 3 + 3 ≤ z) ∧ (AV.agg [cell (0 + i.toNat * 3), cell (0 + i.toNat * 3 + 1), cell (0 + i.toNat * 3 + 2)] = AV.agg [AV.str p, AV.int IntKind.i64 a, AV.int IntKind.i64 c]) ∧ (Goal P (0) 46 (fun x x_1 => x = AV.bool b2) (startM P 46 [.agg [.str q, .int .i64 e, .int .i64 g], .agg [.str p, .int .i64 a, .int .i64 c]] G)) ∧ (b2 = false) ∧ (decide (Int.ofNat (0) < (↑m : Int)) = true) ∧ ((0 : Int) ≤ Int.ofNat (0) ∧ Int.ofNat (0) < (↑m : Int)) ∧ (3 ≤ y) ∧ (AV.agg [cell' (0), cell' (1), cell' (2)] = AV.agg [AV.str q, AV.int IntKind.i64 e, AV.int IntKind.i64 g]) ∧ ((0 : Int) ≤ i ∧ i < (↑n : Int)) ∧ (0 + i.toNat * 3 + 3 ≤ z) ∧ (AV.agg [cell (0 + i.toNat * 3), cell (0 + i.toNat * 3 + 1), cell (0 + i.toNat * 3 + 2)] = AV.agg [AV.str p, AV.int IntKind.i64 a, AV.int IntKind.i64 c]) ∧ (∀ (h : AHeap), binA P h BinOp.eql (35 : Nat) (isConstO (Operand.tmp (44 : Nat)) || isConstO (Operand.tmp (48 : Nat))) (AV.agg [AV.str q, AV.int IntKind.i64 e, AV.int IntKind.i64 g]) (AV.agg [AV.str p, AV.int IntKind.i64 a, AV.int IntKind.i64 c]) = some (AV.bool b3)) ∧ (b3 = false) ∧ ((0 : Int) ≤ i ∧ i < (↑n : Int)) ∧ (0 + i.toNat * 3 + 3 ≤ z) ∧ (AV.agg [cell (0 + i.toNat * 3), cell (0 + i.toNat * 3 + 1), cell (0 + i.toNat * 3 + 2)] = AV.agg [AV.str p, AV.int IntKind.i64 a, AV.int IntKind.i64 c]) ∧ ((0 + m * 3 ≤ y ∧ ∀ (k : Nat), k < m * DS → ∃ v, (T.fn fun c => some (cell' c)).get (0 + k) = some v ∧ v.one = true) ∧ (0 : Nat) < m ∧ 0 + 1 * DS ≤ 3 ∧ 0 ≤ 0 + 1 * DS ∧ 0 = 0 * DS ∧ roomA (1 + m) (32) = true ∧ 3 < 0 + (1 + m) * 3) ∧ (Tells (y2) ((.fn fun c => some (cell2 c))) ((.fn fun k => bif (0 + 1 * DS).ble k && k.blt (0 + 1 * DS + m * DS) then (fun k => (T.fn fun c => some (cell' c)).get (0 + k)) (k - (0 + 1 * DS)) else ((T.leaf.node (some (AV.int IntKind.i64 a)) T.leaf).node (some (AV.str p)) (T.leaf.node (some (AV.int IntKind.i64 c)) T.leaf)).get k))) ∧ (y2 = 3 + m * 3) ∧ (PlainFn fun c => some (cell c)) ∧ (PlainFn fun c => some (cell2 c)) ∧ K (RsB cell cell2 (IntKind.i64.wrap (i + (1 : Int))) n (1 + m) z y2 G)) := by kernel_rfl

theorem rD (R : AV → AHeap → Prop) (cell cell' cell2 cell3 : Nat → AV) (p q : List UInt8) (a c e g i : Int) (u n m z y y2 cp off : Nat) (b b2 b3 : Bool) (G : T (T AV)) (K : AM → Prop) : Obl P 13 (fun v h => R v h) 1 K [.run 60, .op, .op, .slot 60 (.agg [.str p, .int .i64 a, .int .i64 c]), .run 19, .told 2 (.fn fun c => some (cell2 c)) y2, .can 1 [0, 2] [0, 3, 4] []] ((RsD cell i n z G)) = (((0 : Int) ≤ i ∧ i < (↑n : Int)) ∧ (0 + i.toNat * 3 + 3 ≤ z) ∧ (AV.agg [cell (0 + i.toNat * 3), cell (0 + i.toNat * 3 + 1), cell (0 + i.toNat * 3 + 2)] = AV.agg [AV.str p, AV.int IntKind.i64 a, AV.int IntKind.i64 c]) ∧ (Tells (y2) ((.fn fun c => some (cell2 c))) ((.node (.node .leaf (some (.int .i64 a)) .leaf) (some (.str p)) (.node .leaf (some (.int .i64 c)) .leaf)))) ∧ (y2 = 3) ∧ (PlainFn fun c => some (cell c)) ∧ (PlainFn fun c => some (cell2 c)) ∧ K (RsB cell cell2 (IntKind.i64.wrap (i + (1 : Int))) n (1) z y2 G)) := by kernel_rfl

theorem rAyy (R : AV → AHeap → Prop) (cell cell' cell2 cell3 : Nat → AV) (p q : List UInt8) (a c e g i : Int) (u n m z y y2 cp off : Nat) (b b2 b3 : Bool) (G : T (T AV)) (K : AM → Prop) : Obl P 13 (fun v h => R v h) 1 K [.run 8, .know 10 true, .run 9, .op, .op, .slot 16 (.agg [.str p, .int .i64 a, .int .i64 c]), .run 1, (.callv [0] (.bool b)), .run 2, .know 18 true, .run 8, .can 1 [0] [0, 3, 4] []] ((RsA cell i n z G)) = ((decide (i < (↑n : Int)) = true) ∧ ((0 : Int) ≤ i ∧ i < (↑n : Int)) ∧ (0 + i.toNat * 3 + 3 ≤ z) ∧ (AV.agg [cell (0 + i.toNat * 3), cell (0 + i.toNat * 3 + 1), cell (0 + i.toNat * 3 + 2)] = AV.agg [AV.str p, AV.int IntKind.i64 a, AV.int IntKind.i64 c]) ∧ (Goal P (0) 45 (fun x x_1 => x = AV.bool b) (startM P 45 [.agg [.str p, .int .i64 a, .int .i64 c]] G)) ∧ ((!b) = true) ∧ (PlainFn fun c => some (cell c)) ∧ K (RsA cell (IntKind.i64.wrap (i + (1 : Int))) n z G)) := by kernel_rfl

theorem rAyn (R : AV → AHeap → Prop) (cell cell' cell2 cell3 : Nat → AV) (p q : List UInt8) (a c e g i : Int) (u n m z y y2 cp off : Nat) (b b2 b3 : Bool) (G : T (T AV)) (K : AM → Prop) : Obl P 13 (fun v h => R v h) 1 K [.run 8, .know 10 true, .run 9, .op, .op, .slot 16 (.agg [.str p, .int .i64 a, .int .i64 c]), .run 1, (.callv [0] (.bool b)), .run 2, .know 18 false, .run 9, .can 1 [0] [0, 3, 4, 5] []] ((RsA cell i n z G)) = ((decide (i < (↑n : Int)) = true) ∧ ((0 : Int) ≤ i ∧ i < (↑n : Int)) ∧ (0 + i.toNat * 3 + 3 ≤ z) ∧ (AV.agg [cell (0 + i.toNat * 3), cell (0 + i.toNat * 3 + 1), cell (0 + i.toNat * 3 + 2)] = AV.agg [AV.str p, AV.int IntKind.i64 a, AV.int IntKind.i64 c]) ∧ (Goal P (0) 45 (fun x x_1 => x = AV.bool b) (startM P 45 [.agg [.str p, .int .i64 a, .int .i64 c]] G)) ∧ ((!b) = false) ∧ (PlainFn fun c => some (cell c)) ∧ K (RsD cell i n z G)) := by kernel_rfl

theorem rAn (R : AV → AHeap → Prop) (cell cell' cell2 cell3 : Nat → AV) (p q : List UInt8) (a c e g i : Int) (u n m z y y2 cp off : Nat) (b b2 b3 : Bool) (G : T (T AV)) (_K : AM → Prop) : Obl P 13 (fun v h => R v h) 1 _K [.run 8, .know 10 false, .run 8, .done] ((RsA cell i n z G)) = ((decide (i < (↑n : Int)) = false) ∧ (R (.nils 0 0) (⟨(.node .leaf (some (.cells (.fn fun c => some (cell c)) z 35 0 0 1 0 false .leaf)) .leaf), 1, G⟩))) := by kernel_rfl

theorem rByy (R : AV → AHeap → Prop) (cell cell' cell2 cell3 : Nat → AV) (p q : List UInt8) (a c e g i : Int) (u n m z y y2 cp off : Nat) (b b2 b3 : Bool) (G : T (T AV)) (K : AM → Prop) : Obl P 13 (fun v h => R v h) 1 K [.run 8, .know 10 true, .run 9, .op, .op, .slot 16 (.agg [.str p, .int .i64 a, .int .i64 c]), .run 1, (.callv [0] (.bool b)), .run 2, .know 18 true, .run 8, .can 1 [0, 1] [0, 3, 4] []] ((RsB cell cell' i n m z y G)) = ((decide (i < (↑n : Int)) = true) ∧ ((0 : Int) ≤ i ∧ i < (↑n : Int)) ∧ (0 + i.toNat * 3 + 3 ≤ z) ∧ (AV.agg [cell (0 + i.toNat * 3), cell (0 + i.toNat * 3 + 1), cell (0 + i.toNat * 3 + 2)] = AV.agg [AV.str p, AV.int IntKind.i64 a, AV.int IntKind.i64 c]) ∧ (Goal P (0) 45 (fun x x_1 => x = AV.bool b) (startM P 45 [.agg [.str p, .int .i64 a, .int .i64 c]] G)) ∧ ((!b) = true) ∧ (PlainFn fun c => some (cell c)) ∧ (PlainFn fun c => some (cell' c)) ∧ K (RsB cell cell' (IntKind.i64.wrap (i + (1 : Int))) n m z y G)) := by kernel_rfl

theorem rByn (R : AV → AHeap → Prop) (cell cell' cell2 cell3 : Nat → AV) (p q : List UInt8) (a c e g i : Int) (u n m z y y2 cp off : Nat) (b b2 b3 : Bool) (G : T (T AV)) (K : AM → Prop) : Obl P 13 (fun v h => R v h) 1 K [.run 8, .know 10 true, .run 9, .op, .op, .slot 16 (.agg [.str p, .int .i64 a, .int .i64 c]), .run 1, (.callv [0] (.bool b)), .run 2, .know 18 false, .run 9, .can 1 [0, 1] [0, 3, 4, 5] []] ((RsB cell cell' i n m z y G)) = ((decide (i < (↑n : Int)) = true) ∧ ((0 : Int) ≤ i ∧ i < (↑n : Int)) ∧ (0 + i.toNat * 3 + 3 ≤ z) ∧ (AV.agg [cell (0 + i.toNat * 3), cell (0 + i.toNat * 3 + 1), cell (0 + i.toNat * 3 + 2)] = AV.agg [AV.str p, AV.int IntKind.i64 a, AV.int IntKind.i64 c]) ∧ (Goal P (0) 45 (fun x x_1 => x = AV.bool b) (startM P 45 [.agg [.str p, .int .i64 a, .int .i64 c]] G)) ∧ ((!b) = false) ∧ (PlainFn fun c => some (cell c)) ∧ (PlainFn fun c => some (cell' c)) ∧ K (RsC cell cell' i (Int.ofNat (0)) n m z y G)) := by kernel_rfl

theorem rBn (R : AV → AHeap → Prop) (cell cell' cell2 cell3 : Nat → AV) (p q : List UInt8) (a c e g i : Int) (u n m z y y2 cp off : Nat) (b b2 b3 : Bool) (G : T (T AV)) (_K : AM → Prop) : Obl P 13 (fun v h => R v h) 1 _K [.run 8, .know 10 false, .run 8, .done] ((RsB cell cell' i n m z y G)) = ((decide (i < (↑n : Int)) = false) ∧ (R (.slg 1 0 0 m 0) (⟨(.node (.node .leaf (some (.cells (.fn fun c => some (cell' c)) y 35 0 0 1 0 false .leaf)) .leaf) (some (.cells (.fn fun c => some (cell c)) z 35 0 0 1 0 false .leaf)) .leaf), 2, G⟩))) := by kernel_rfl

theorem rs (R : AV → AHeap → Prop) (cell cell' cell2 cell3 : Nat → AV) (p q : List UInt8) (a c e g i : Int) (u n m z y y2 cp off : Nat) (b b2 b3 : Bool) (G : T (T AV)) (K : AM → Prop) : Obl P 13 (fun v h => R v h) 1 K [.run 15, .can 1 [0] [0, 3, 4] []] ((startH P 13 [.slg 0 0 0 n 0] ⟨(.node .leaf (some (.cells (.fn fun c => some (cell c)) z 35 0 0 1 0 false .leaf)) .leaf), 1, G⟩)) = ((PlainFn fun c => some (cell c)) ∧ K (RsA cell (Int.ofNat (0)) n z G)) := by kernel_rfl

theorem rn (R : AV → AHeap → Prop) (cell cell' cell2 cell3 : Nat → AV) (p q : List UInt8) (a c e g i : Int) (u n m z y y2 cp off : Nat) (b b2 b3 : Bool) (G : T (T AV)) (_K : AM → Prop) : Obl P 13 (fun v h => R v h) 0 _K [.run 31, .can 0 [] [2] [], .done] ((startH P 13 [.nils 0 0] ⟨.leaf, 0, G⟩)) = ((R (.nils 0 0) (⟨.leaf, 0, G⟩))) := by kernel_rfl

theorem lq (R : AV → AHeap → Prop) (cell cell' cell2 cell3 : Nat → AV) (p q s w t v2 : List UInt8) (a c e g i : Int) (u n m cp z y y2 lo off k : Nat) (b b2 b3 : Bool) (G : T (T AV)) (K : AM → Prop) : Obl P 72 (fun v h => R v h) 0 K [.run 11, .can 0 [] [0, 1, 5] []] ((startM P 72 [.str p, .str q] G)) = (K (Ls p q (Int.ofNat (0)) G)) := by kernel_rfl

theorem llyyy (R : AV → AHeap → Prop) (cell cell' cell2 cell3 : Nat → AV) (p q s w t v2 : List UInt8) (a c e g i : Int) (u n m cp z y y2 lo off k : Nat) (b b2 b3 : Bool) (G : T (T AV)) (_K : AM → Prop) : Obl P 72 (fun v h => R v h) 0 _K [.run 8, .know 10 true, .run 6, .know 15 true, .run 8, .op, .run 2, .op, .run 2, .know 24 true, .run 5, .op, .run 2, .op, .run 4, .done] ((Ls p q i G)) = ((decide (i < (↑p.length : Int)) = true) ∧ (decide (i < (↑q.length : Int)) = true) ∧ ((0 : Int) ≤ i ∧ i < (↑p.length : Int)) ∧ ((0 : Int) ≤ i ∧ i < (↑q.length : Int)) ∧ (((↑(p.getD i.toNat (0 : UInt8)).toNat : Int) != (↑(q.getD i.toNat (0 : UInt8)).toNat : Int)) = true) ∧ ((0 : Int) ≤ i ∧ i < (↑p.length : Int)) ∧ ((0 : Int) ≤ i ∧ i < (↑q.length : Int)) ∧ (R (.bool (decide ((↑(p.getD i.toNat (0 : UInt8)).toNat : Int) < (↑(q.getD i.toNat (0 : UInt8)).toNat : Int)))) (⟨.leaf, 0, G⟩))) := by kernel_rfl

theorem llyyn (R : AV → AHeap → Prop) (cell cell' cell2 cell3 : Nat → AV) (p q s w t v2 : List UInt8) (a c e g i : Int) (u n m cp z y y2 lo off k : Nat) (b b2 b3 : Bool) (G : T (T AV)) (K : AM → Prop) : Obl P 72 (fun v h => R v h) 0 K [.run 8, .know 10 true, .run 6, .know 15 true, .run 8, .op, .run 2, .op, .run 2, .know 24 false, .run 9, .can 0 [] [0, 1, 5] []] ((Ls p q i G)) = ((decide (i < (↑p.length : Int)) = true) ∧ (decide (i < (↑q.length : Int)) = true) ∧ ((0 : Int) ≤ i ∧ i < (↑p.length : Int)) ∧ ((0 : Int) ≤ i ∧ i < (↑q.length : Int)) ∧ (((↑(p.getD i.toNat (0 : UInt8)).toNat : Int) != (↑(q.getD i.toNat (0 : UInt8)).toNat : Int)) = false) ∧ K (Ls p q (IntKind.i64.wrap (i + (1 : Int))) G)) := by kernel_rfl

theorem llyn (R : AV → AHeap → Prop) (cell cell' cell2 cell3 : Nat → AV) (p q s w t v2 : List UInt8) (a c e g i : Int) (u n m cp z y y2 lo off k : Nat) (b b2 b3 : Bool) (G : T (T AV)) (_K : AM → Prop) : Obl P 72 (fun v h => R v h) 0 _K [.run 8, .know 10 true, .run 6, .know 15 false, .run 12, .done] ((Ls p q i G)) = ((decide (i < (↑p.length : Int)) = true) ∧ (decide (i < (↑q.length : Int)) = false) ∧ (R (.bool (decide ((↑p.length : Int) < (↑q.length : Int)))) (⟨.leaf, 0, G⟩))) := by kernel_rfl

theorem lln (R : AV → AHeap → Prop) (cell cell' cell2 cell3 : Nat → AV) (p q s w t v2 : List UInt8) (a c e g i : Int) (u n m cp z y y2 lo off k : Nat) (b b2 b3 : Bool) (G : T (T AV)) (_K : AM → Prop) : Obl P 72 (fun v h => R v h) 0 _K [.run 8, .know 10 false, .run 18, .done] ((Ls p q i G)) = ((decide (i < (↑p.length : Int)) = false) ∧ (R (.bool (decide ((↑p.length : Int) < (↑q.length : Int)))) (⟨.leaf, 0, G⟩))) := by kernel_rfl

theorem lxy (R : AV → AHeap → Prop) (cell cell' cell2 cell3 : Nat → AV) (p q s w t v2 : List UInt8) (a c e g i : Int) (u n m cp z y y2 lo off k : Nat) (b b2 b3 : Bool) (G : T (T AV)) (_K : AM → Prop) : Obl P 46 (fun v _ => R v (⟨.leaf, 0, G⟩)) 0 _K [.run 15, .know 9 true, .run 8, (.callv [0, 1] (.bool b)), .run 3, .can 0 [] [4] [], .done] ((startM P 46 [.agg [.str p, .int .i64 a, .int .i64 c], .agg [.str q, .int .i64 e, .int .i64 g]] G)) = (((!p == q) = true) ∧ (Goal P (0) 72 (fun x x_1 => x = AV.bool b) (startM P 72 [.str p, .str q] G)) ∧ (R (.bool b) (⟨.leaf, 0, G⟩))) := by kernel_rfl

theorem lxny (R : AV → AHeap → Prop) (cell cell' cell2 cell3 : Nat → AV) (p q s w t v2 : List UInt8) (a c e g i : Int) (u n m cp z y y2 lo off k : Nat) (b b2 b3 : Bool) (G : T (T AV)) (_K : AM → Prop) : Obl P 46 (fun v _ => R v (⟨.leaf, 0, G⟩)) 0 _K [.run 15, .know 9 false, .run 11, .know 19 true, .run 11, .can 0 [] [4] [], .done] ((startM P 46 [.agg [.str p, .int .i64 a, .int .i64 c], .agg [.str q, .int .i64 e, .int .i64 g]] G)) = (((!p == q) = false) ∧ ((a != e) = true) ∧ (R (.bool (decide (a < e))) (⟨.leaf, 0, G⟩))) := by kernel_rfl

theorem lxnn (R : AV → AHeap → Prop) (cell cell' cell2 cell3 : Nat → AV) (p q s w t v2 : List UInt8) (a c e g i : Int) (u n m cp z y y2 lo off k : Nat) (b b2 b3 : Bool) (G : T (T AV)) (_K : AM → Prop) : Obl P 46 (fun v _ => R v (⟨.leaf, 0, G⟩)) 0 _K [.run 15, .know 9 false, .run 11, .know 19 false, .run 12, .can 0 [] [4] [], .done] ((startM P 46 [.agg [.str p, .int .i64 a, .int .i64 c], .agg [.str q, .int .i64 e, .int .i64 g]] G)) = (((!p == q) = false) ∧ ((a != e) = false) ∧ (R (.bool (decide (c < g))) (⟨.leaf, 0, G⟩))) := by kernel_rfl

theorem mryyyy (R : AV → AHeap → Prop) (cell cell' cell2 cell3 : Nat → AV) (p q s w t v2 : List UInt8) (a c e g i : Int) (u n m cp z y y2 lo off k : Nat) (b b2 b3 : Bool) (G : T (T AV)) (_K : AM → Prop) : Obl P 45 (fun v h => R v h) 0 _K [.run 11, .know 6 true, .run 5, .know 11 true, .run 5, .know 16 true, .run 5, .know 21 true, .run 8, .done] ((startM P 45 [.agg [.str p, .int .i64 a, .int .i64 c]] G)) = ((decide (c ≥ (1 : Int)) = true) ∧ (decide (c ≤ (13 : Int)) = true) ∧ (decide (a ≥ (0 : Int)) = true) ∧ (decide (a < (2147483648 : Int)) = true) ∧ (R (.bool (decide ((↑p.length : Int) ≤ (200 : Int)))) (⟨(.node .leaf (some (.cells (.node (.node .leaf (some (.int .i64 a)) .leaf) (some (.str p)) (.node .leaf (some (.int .i64 c)) .leaf)) 3 35 0 0 1 0 false .leaf)) .leaf), 1, G⟩))) := by kernel_rfl

theorem mryyyn (R : AV → AHeap → Prop) (cell cell' cell2 cell3 : Nat → AV) (p q s w t v2 : List UInt8) (a c e g i : Int) (u n m cp z y y2 lo off k : Nat) (b b2 b3 : Bool) (G : T (T AV)) (_K : AM → Prop) : Obl P 45 (fun v h => R v h) 0 _K [.run 11, .know 6 true, .run 5, .know 11 true, .run 5, .know 16 true, .run 5, .know 21 false, .run 8, .done] ((startM P 45 [.agg [.str p, .int .i64 a, .int .i64 c]] G)) = ((decide (c ≥ (1 : Int)) = true) ∧ (decide (c ≤ (13 : Int)) = true) ∧ (decide (a ≥ (0 : Int)) = true) ∧ (decide (a < (2147483648 : Int)) = false) ∧ (R (.bool false) (⟨(.node .leaf (some (.cells (.node (.node .leaf (some (.int .i64 a)) .leaf) (some (.str p)) (.node .leaf (some (.int .i64 c)) .leaf)) 3 35 0 0 1 0 false .leaf)) .leaf), 1, G⟩))) := by kernel_rfl

theorem mryyn (R : AV → AHeap → Prop) (cell cell' cell2 cell3 : Nat → AV) (p q s w t v2 : List UInt8) (a c e g i : Int) (u n m cp z y y2 lo off k : Nat) (b b2 b3 : Bool) (G : T (T AV)) (_K : AM → Prop) : Obl P 45 (fun v h => R v h) 0 _K [.run 11, .know 6 true, .run 5, .know 11 true, .run 5, .know 16 false, .run 13, .done] ((startM P 45 [.agg [.str p, .int .i64 a, .int .i64 c]] G)) = ((decide (c ≥ (1 : Int)) = true) ∧ (decide (c ≤ (13 : Int)) = true) ∧ (decide (a ≥ (0 : Int)) = false) ∧ (R (.bool false) (⟨(.node .leaf (some (.cells (.node (.node .leaf (some (.int .i64 a)) .leaf) (some (.str p)) (.node .leaf (some (.int .i64 c)) .leaf)) 3 35 0 0 1 0 false .leaf)) .leaf), 1, G⟩))) := by kernel_rfl

theorem mryn (R : AV → AHeap → Prop) (cell cell' cell2 cell3 : Nat → AV) (p q s w t v2 : List UInt8) (a c e g i : Int) (u n m cp z y y2 lo off k : Nat) (b b2 b3 : Bool) (G : T (T AV)) (_K : AM → Prop) : Obl P 45 (fun v h => R v h) 0 _K [.run 11, .know 6 true, .run 5, .know 11 false, .run 18, .done] ((startM P 45 [.agg [.str p, .int .i64 a, .int .i64 c]] G)) = ((decide (c ≥ (1 : Int)) = true) ∧ (decide (c ≤ (13 : Int)) = false) ∧ (R (.bool false) (⟨(.node .leaf (some (.cells (.node (.node .leaf (some (.int .i64 a)) .leaf) (some (.str p)) (.node .leaf (some (.int .i64 c)) .leaf)) 3 35 0 0 1 0 false .leaf)) .leaf), 1, G⟩))) := by kernel_rfl

theorem mrn (R : AV → AHeap → Prop) (cell cell' cell2 cell3 : Nat → AV) (p q s w t v2 : List UInt8) (a c e g i : Int) (u n m cp z y y2 lo off k : Nat) (b b2 b3 : Bool) (G : T (T AV)) (_K : AM → Prop) : Obl P 45 (fun v h => R v h) 0 _K [.run 11, .know 6 false, .run 23, .done] ((startM P 45 [.agg [.str p, .int .i64 a, .int .i64 c]] G)) = ((decide (c ≥ (1 : Int)) = false) ∧ (R (.bool false) (⟨(.node .leaf (some (.cells (.node (.node .leaf (some (.int .i64 a)) .leaf) (some (.str p)) (.node .leaf (some (.int .i64 c)) .leaf)) 3 35 0 0 1 0 false .leaf)) .leaf), 1, G⟩))) := by kernel_rfl

theorem wry (R : AV → AHeap → Prop) (cell cell' cell2 cell3 : Nat → AV) (p q s w t v2 : List UInt8) (a c e g i : Int) (u n m cp z y y2 lo off k : Nat) (b b2 b3 : Bool) (G : T (T AV)) (_K : AM → Prop) : Obl P 17 (fun v h => R v h) 0 _K [.run 16, .know 7 true, .run 10, .can 0 [] [2] [], .done] ((startM P 17 [.int .i64 c] G)) = ((decide (c < (1 : Int)) = true) ∧ (R (.str []) (⟨.leaf, 0, G⟩))) := by kernel_rfl

theorem wrny (R : AV → AHeap → Prop) (cell cell' cell2 cell3 : Nat → AV) (p q s w t v2 : List UInt8) (a c e g i : Int) (u n m cp z y y2 lo off k : Nat) (b b2 b3 : Bool) (G : T (T AV)) (_K : AM → Prop) : Obl P 17 (fun v h => R v h) 0 _K [.run 16, .know 7 false, .run 4, .know 10 true, .run 6, .can 0 [] [2] [], .done] ((startM P 17 [.int .i64 c] G)) = ((decide (c < (1 : Int)) = false) ∧ (decide (c > (13 : Int)) = true) ∧ (R (.str []) (⟨.leaf, 0, G⟩))) := by kernel_rfl

theorem scy (R : AV → AHeap → Prop) (cell cell' cell2 cell3 : Nat → AV) (p q s w t v2 : List UInt8) (a c e g i : Int) (u n m cp z y y2 lo off k : Nat) (b b2 b3 : Bool) (G : T (T AV)) (_K : AM → Prop) : Obl P 11 (fun v h => R v h) 2 _K [.run 13, .know 10 true, .run 6, .done] ((startH P 11 [.slg 0 0 0 n 0, .slg 1 0 0 m 0] ⟨(.node (.node .leaf (some (.cells (.fn fun c => some (cell' c)) y 35 0 0 1 0 false .leaf)) .leaf) (some (.cells (.fn fun c => some (cell c)) z 35 0 0 1 0 false .leaf)) .leaf), 2, G⟩)) = ((((↑n : Int) != (↑m : Int)) = true) ∧ (R (.bool false) (⟨(.node (.node .leaf (some (.cells (.fn fun c => some (cell' c)) y 35 0 0 1 0 false .leaf)) .leaf) (some (.cells (.fn fun c => some (cell c)) z 35 0 0 1 0 false .leaf)) .leaf), 2, G⟩))) := by kernel_rfl

theorem scn (R : AV → AHeap → Prop) (cell cell' cell2 cell3 : Nat → AV) (p q s w t v2 : List UInt8) (a c e g i : Int) (u n m cp z y y2 lo off k : Nat) (b b2 b3 : Bool) (G : T (T AV)) (K : AM → Prop) : Obl P 11 (fun v h => R v h) 2 K [.run 13, .know 10 false, .run 9, .can 2 [0, 1] [0, 1, 5] []] ((startH P 11 [.slg 0 0 0 n 0, .slg 1 0 0 m 0] ⟨(.node (.node .leaf (some (.cells (.fn fun c => some (cell' c)) y 35 0 0 1 0 false .leaf)) .leaf) (some (.cells (.fn fun c => some (cell c)) z 35 0 0 1 0 false .leaf)) .leaf), 2, G⟩)) = ((((↑n : Int) != (↑m : Int)) = false) ∧ (PlainFn fun c => some (cell c)) ∧ (PlainFn fun c => some (cell' c)) ∧ K (Sc cell cell' (Int.ofNat (0)) n m z y G)) := by kernel_rfl

theorem sry (R : AV → AHeap → Prop) (cell cell' cell2 cell3 : Nat → AV) (p q s w t v2 : List UInt8) (a c e g i : Int) (u n m cp z y y2 lo off k : Nat) (b b2 b3 : Bool) (G : T (T AV)) (_K : AM → Prop) : Obl P 11 (fun v h => R v h) 2 _K [.run 13, .know 10 true, .run 6, .done] ((startH P 11 [.slc 0 0 off n cp, .slg 1 0 0 m 0] ⟨(.node (.node .leaf (some (.cells (.fn fun c => some (cell' c)) y 35 0 0 1 0 false .leaf)) .leaf) (some (.ro (.fn fun c => some (cell c)) lo z)) .leaf), 2, G⟩)) = ((((↑n : Int) != (↑m : Int)) = true) ∧ (R (.bool false) (⟨(.node (.node .leaf (some (.cells (.fn fun c => some (cell' c)) y 35 0 0 1 0 false .leaf)) .leaf) (some (.ro (.fn fun c => some (cell c)) lo z)) .leaf), 2, G⟩))) := by kernel_rfl

theorem srn (R : AV → AHeap → Prop) (cell cell' cell2 cell3 : Nat → AV) (p q s w t v2 : List UInt8) (a c e g i : Int) (u n m cp z y y2 lo off k : Nat) (b b2 b3 : Bool) (G : T (T AV)) (K : AM → Prop) : Obl P 11 (fun v h => R v h) 2 K [.run 13, .know 10 false, .run 9, .can 2 [0, 1] [0, 1, 5] []] ((startH P 11 [.slc 0 0 off n cp, .slg 1 0 0 m 0] ⟨(.node (.node .leaf (some (.cells (.fn fun c => some (cell' c)) y 35 0 0 1 0 false .leaf)) .leaf) (some (.ro (.fn fun c => some (cell c)) lo z)) .leaf), 2, G⟩)) = ((((↑n : Int) != (↑m : Int)) = false) ∧ (PlainFn fun c => some (cell' c)) ∧ K (Sr cell cell' (Int.ofNat (0)) n m cp z y lo off G)) := by kernel_rfl

theorem sclyn (R : AV → AHeap → Prop) (cell cell' cell2 cell3 : Nat → AV) (p q s w t v2 : List UInt8) (a c e g i : Int) (u n m cp z y y2 lo off k : Nat) (b b2 b3 : Bool) (G : T (T AV)) (K : AM → Prop) : Obl P 11 (fun v h => R v h) 2 K [.run 8, .know 14 true, .run 8, .op, .op, .run 2, .op, .op, .isv (.bool b), .run 1, .know 25 false, .run 9, .can 2 [0, 1] [0, 1, 5] []] ((Sc cell cell' i n m z y G)) = ((decide (i < (↑n : Int)) = true) ∧ ((0 : Int) ≤ i ∧ i < (↑n : Int)) ∧ (0 + i.toNat * 3 + 3 ≤ z) ∧ ((0 : Int) ≤ i ∧ i < (↑m : Int)) ∧ (0 + i.toNat * 3 + 3 ≤ y) ∧ (∀ (h : AHeap), binA P h BinOp.neq (35 : Nat) (isConstO (Operand.tmp (20 : Nat)) || isConstO (Operand.tmp (24 : Nat))) (AV.agg [cell (0 + i.toNat * 3 + 0), cell (0 + i.toNat * 3 + 1), cell (0 + i.toNat * 3 + 2)]) (AV.agg [cell' (0 + i.toNat * 3 + 0), cell' (0 + i.toNat * 3 + 1), cell' (0 + i.toNat * 3 + 2)]) = some (AV.bool b)) ∧ (b = false) ∧ (PlainFn fun c => some (cell c)) ∧ (PlainFn fun c => some (cell' c)) ∧ K (Sc cell cell' (IntKind.i64.wrap (i + (1 : Int))) n m z y G)) := by kernel_rfl

theorem scln (R : AV → AHeap → Prop) (cell cell' cell2 cell3 : Nat → AV) (p q s w t v2 : List UInt8) (a c e g i : Int) (u n m cp z y y2 lo off k : Nat) (b b2 b3 : Bool) (G : T (T AV)) (_K : AM → Prop) : Obl P 11 (fun v h => R v h) 2 _K [.run 8, .know 14 false, .run 7, .done] ((Sc cell cell' i n m z y G)) = ((decide (i < (↑n : Int)) = false) ∧ (R (.bool true) (⟨(.node (.node .leaf (some (.cells (.fn fun c => some (cell' c)) y 35 0 0 1 0 false .leaf)) .leaf) (some (.cells (.fn fun c => some (cell c)) z 35 0 0 1 0 false .leaf)) .leaf), 2, G⟩))) := by kernel_rfl

theorem srlyn (R : AV → AHeap → Prop) (cell cell' cell2 cell3 : Nat → AV) (p q s w t v2 : List UInt8) (a c e g i : Int) (u n m cp z y y2 lo off k : Nat) (b b2 b3 : Bool) (G : T (T AV)) (K : AM → Prop) : Obl P 11 (fun v h => R v h) 2 K [.run 8, .know 14 true, .run 8, .op, .op, .run 2, .op, .op, .isv (.bool b), .run 1, .know 25 false, .run 9, .can 2 [0, 1] [0, 1, 5] []] ((Sr cell cell' i n m cp z y lo off G)) = ((decide (i < (↑n : Int)) = true) ∧ ((0 : Int) ≤ i ∧ i < (↑n : Int)) ∧ (lo ≤ off + i.toNat * 3 ∧ off + i.toNat * 3 + 3 ≤ z) ∧ ((0 : Int) ≤ i ∧ i < (↑m : Int)) ∧ (0 + i.toNat * 3 + 3 ≤ y) ∧ (∀ (h : AHeap), binA P h BinOp.neq (35 : Nat) (isConstO (Operand.tmp (20 : Nat)) || isConstO (Operand.tmp (24 : Nat))) (AV.agg [cell (off + i.toNat * 3 + 0), cell (off + i.toNat * 3 + 1), cell (off + i.toNat * 3 + 2)]) (AV.agg [cell' (0 + i.toNat * 3 + 0), cell' (0 + i.toNat * 3 + 1), cell' (0 + i.toNat * 3 + 2)]) = some (AV.bool b)) ∧ (b = false) ∧ (PlainFn fun c => some (cell' c)) ∧ K (Sr cell cell' (IntKind.i64.wrap (i + (1 : Int))) n m cp z y lo off G)) := by kernel_rfl

theorem srln (R : AV → AHeap → Prop) (cell cell' cell2 cell3 : Nat → AV) (p q s w t v2 : List UInt8) (a c e g i : Int) (u n m cp z y y2 lo off k : Nat) (b b2 b3 : Bool) (G : T (T AV)) (_K : AM → Prop) : Obl P 11 (fun v h => R v h) 2 _K [.run 8, .know 14 false, .run 7, .done] ((Sr cell cell' i n m cp z y lo off G)) = ((decide (i < (↑n : Int)) = false) ∧ (R (.bool true) (⟨(.node (.node .leaf (some (.cells (.fn fun c => some (cell' c)) y 35 0 0 1 0 false .leaf)) .leaf) (some (.ro (.fn fun c => some (cell c)) lo z)) .leaf), 2, G⟩))) := by kernel_rfl

theorem sn (R : AV → AHeap → Prop) (cell cell' cell2 cell3 : Nat → AV) (p q s w t v2 : List UInt8) (a c e g i : Int) (u n m cp z y y2 lo off k : Nat) (b b2 b3 : Bool) (G : T (T AV)) (_K : AM → Prop) : Obl P 11 (fun v h => R v h) 0 _K [.run 37, .can 0 [] [4] [], .done] ((startH P 11 [.nils 0 0, .nils 0 0] ⟨.leaf, 0, G⟩)) = ((R (.bool true) (⟨.leaf, 0, G⟩))) := by kernel_rfl

theorem es (R : AV → AHeap → Prop) (cell cell' cell2 cell3 : Nat → AV) (p q s w t v2 : List UInt8) (a c e g i : Int) (u n m cp z y y2 lo off k : Nat) (b b2 b3 : Bool) (G : T (T AV)) (K : AM → Prop) : Obl P 15 (fun v h => R v h) 1 K [.run 8, (.callh [(0, 0, [])] [0] (.slg 1 0 0 m 0) ⟨(.node (.node .leaf (some (.cells (.fn fun c => some (cell' c)) y 35 0 0 1 0 false .leaf)) .leaf) (some (.cells (.fn fun c => some (cell c)) z 35 0 0 1 0 false .leaf)) .leaf), 2, G⟩), .run 8, (.callv [0, 1] (.str w)), .run 9, .can 1 [0, 1] [0, 3, 4] []] ((startH P 15 [.slg 0 0 0 n 0] ⟨(.node .leaf (some (.cells (.fn fun c => some (cell c)) z 35 0 0 1 0 false .leaf)) .leaf), 1, G⟩)) = ((PlainFn fun c => some (cell c)) ∧ (PlainFn fun c => some (cell c)) ∧ (PlainFn fun c => some (cell' c)) ∧ (Goal P (1) 13 (fun x k => x = AV.slg (1 : Nat) (0 : Nat) (0 : Nat) m (0 : Nat) ∧ k = { objs := (T.leaf.node (some (AObj.cells (T.fn fun c => some (cell' c)) y (35 : TypeId) (0 : Nat) (0 : Nat) (1 : Nat) (0 : Nat) false T.leaf)) T.leaf).node (some (AObj.cells (T.fn fun c => some (cell c)) z (35 : TypeId) (0 : Nat) (0 : Nat) (1 : Nat) (0 : Nat) false T.leaf)) T.leaf, next := (2 : Nat), glob := G }) (startH P 13 [.slg 0 0 0 n 0] ⟨(.node .leaf (some (.cells (.fn fun c => some (cell c)) z 35 0 0 1 0 false .leaf)) .leaf), 1, G⟩)) ∧ (Goal P (0) 51 (fun x x_1 => x = AV.str w) (startM P 51 [.str [], .int .u64 (IntKind.u64.wrap (↑m : Int))] G)) ∧ (PlainFn fun c => some (cell c)) ∧ (PlainFn fun c => some (cell' c)) ∧ K (Er cell cell' w (Int.ofNat (0)) m z y G)) := by kernel_rfl

theorem ez (R : AV → AHeap → Prop) (cell cell' cell2 cell3 : Nat → AV) (p q s w t v2 : List UInt8) (a c e g i : Int) (u n m cp z y y2 lo off k : Nat) (b b2 b3 : Bool) (G : T (T AV)) (K : AM → Prop) : Obl P 15 (fun v h => R v h) 1 K [.run 8, (.callh [(0, 0, [])] [0] (.nils 0 0) ⟨(.node .leaf (some (.cells (.fn fun c => some (cell c)) z 35 0 0 1 0 false .leaf)) .leaf), 1, G⟩), .run 8, (.callv [0, 1] (.str w)), .run 9, .can 1 [0] [0, 3, 4] []] ((startH P 15 [.slg 0 0 0 n 0] ⟨(.node .leaf (some (.cells (.fn fun c => some (cell c)) z 35 0 0 1 0 false .leaf)) .leaf), 1, G⟩)) = ((PlainFn fun c => some (cell c)) ∧ (PlainFn fun c => some (cell c)) ∧ (Goal P (1) 13 (fun x k => x = AV.nils (0 : Nat) (0 : Nat) ∧ k = { objs := T.leaf.node (some (AObj.cells (T.fn fun c => some (cell c)) z (35 : TypeId) (0 : Nat) (0 : Nat) (1 : Nat) (0 : Nat) false T.leaf)) T.leaf, next := (1 : Nat), glob := G }) (startH P 13 [.slg 0 0 0 n 0] ⟨(.node .leaf (some (.cells (.fn fun c => some (cell c)) z 35 0 0 1 0 false .leaf)) .leaf), 1, G⟩)) ∧ (Goal P (0) 51 (fun x x_1 => x = AV.str w) (startM P 51 [.str [], .int .u64 0] G)) ∧ (PlainFn fun c => some (cell c)) ∧ K (Ez cell w z G)) := by kernel_rfl

theorem ezd (R : AV → AHeap → Prop) (cell cell' cell2 cell3 : Nat → AV) (p q s w t v2 : List UInt8) (a c e g i : Int) (u n m cp z y y2 lo off k : Nat) (b b2 b3 : Bool) (G : T (T AV)) (_K : AM → Prop) : Obl P 15 (fun v h => R v h) 1 _K [.run 16, .can 1 [0] [2] [], .done] ((Ez cell s z G)) = ((PlainFn fun c => some (cell c)) ∧ (R (.str s) (⟨(.node .leaf (some (.cells (.fn fun c => some (cell c)) z 35 0 0 1 0 false .leaf)) .leaf), 1, G⟩))) := by kernel_rfl

theorem en (R : AV → AHeap → Prop) (cell cell' cell2 cell3 : Nat → AV) (p q s w t v2 : List UInt8) (a c e g i : Int) (u n m cp z y y2 lo off k : Nat) (b b2 b3 : Bool) (G : T (T AV)) (_K : AM → Prop) : Obl P 15 (fun v h => R v h) 0 _K [.run 8, (.callh [] [0] (.nils 0 0) ⟨.leaf, 0, G⟩), .run 8, (.callv [0, 1] (.str w)), .run 25, .can 0 [] [2] [], .done] ((startH P 15 [.nils 0 0] ⟨.leaf, 0, G⟩)) = ((Goal P (0) 13 (fun x k => x = AV.nils (0 : Nat) (0 : Nat) ∧ k = { objs := T.leaf, next := (0 : Nat), glob := G }) (startM P 13 [.nils 0 0] G)) ∧ (Goal P (0) 51 (fun x x_1 => x = AV.str w) (startM P 51 [.str [], .int .u64 0] G)) ∧ (R (.str w) (⟨.leaf, 0, G⟩))) := by kernel_rfl

theorem er (R : AV → AHeap → Prop) (cell cell' cell2 cell3 : Nat → AV) (p q s w t v2 : List UInt8) (a c e g i : Int) (u n m cp z y y2 lo off k : Nat) (b b2 b3 : Bool) (G : T (T AV)) (K : AM → Prop) : Obl P 15 (fun v h => R v h) 1 K [.run 8, .know 14 true, .run 9, .op, .run 1, .op, .slot 22 (.str p), .run 1, .callv [0, 1] (.str w), .run 7, .op, .run 1, .op, .slot 29 (.int .i64 a), .run 2, .callv [0, 1] (.str t), .run 6, .op, .run 1, .op, .slot 37 (.int .i64 c), .run 2, .callv [0, 1] (.str v2), .run 9, .can 1 [0, 1] [0, 3, 4] []] ((Er cell cell' s i m z y G)) = ((decide (i < (↑m : Int)) = true) ∧ ((0 : Int) ≤ i ∧ i < (↑m : Int)) ∧ (0 + i.toNat * 3 + (1 : Nat) ≤ y) ∧ (cell' (0 + i.toNat * 3) = AV.str p) ∧ (Goal P (0) 52 (fun x x_1 => x = AV.str w) (startM P 52 [.str s, .str p] G)) ∧ ((0 : Int) ≤ i ∧ i < (↑m : Int)) ∧ (0 + i.toNat * 3 + 1 + (1 : Nat) ≤ y) ∧ (cell' (0 + i.toNat * 3 + 1) = AV.int IntKind.i64 a) ∧ (Goal P (0) 51 (fun x x_1 => x = AV.str t) (startM P 51 [.str w, .int .u64 (IntKind.u64.wrap a)] G)) ∧ ((0 : Int) ≤ i ∧ i < (↑m : Int)) ∧ (0 + i.toNat * 3 + 2 + (1 : Nat) ≤ y) ∧ (cell' (0 + i.toNat * 3 + 2) = AV.int IntKind.i64 c) ∧ (Goal P (0) 51 (fun x x_1 => x = AV.str v2) (startM P 51 [.str t, .int .u64 (IntKind.u64.wrap c)] G)) ∧ (PlainFn fun c => some (cell c)) ∧ (PlainFn fun c => some (cell' c)) ∧ K (Er cell cell' v2 (IntKind.i64.wrap (i + (1 : Int))) m z y G)) := by kernel_rfl

theorem edn (R : AV → AHeap → Prop) (cell cell' cell2 cell3 : Nat → AV) (p q s w t v2 : List UInt8) (a c e g i : Int) (u n m cp z y y2 lo off k : Nat) (b b2 b3 : Bool) (G : T (T AV)) (_K : AM → Prop) : Obl P 15 (fun v h => R v h) 1 _K [.run 8, .know 14 false, .run 8, .can 1 [0] [2] [], .done] ((Er cell cell' s i m z y G)) = ((decide (i < (↑m : Int)) = false) ∧ (PlainFn fun c => some (cell c)) ∧ (R (.str s) (⟨(.node .leaf (some (.cells (.fn fun c => some (cell c)) z 35 0 0 1 0 false .leaf)) .leaf), 1, G⟩))) := by kernel_rfl

theorem up1b (k : Nat) (h : k < 1000000000) : IntKind.i64.wrap ((k : Int) + 1) = ((k + 1 : Nat) : Int) := by rw [IntWalk.i64_in _ (by omega)]; omega

/-! ## Their order -/

theorem drop_at {p : List UInt8} {i : Nat} (h : i < p.length) : p.drop i = p.getD i 0 :: p.drop (i + 1) := by
  rw [List.drop_eq_getElem_cons h, List.getD_eq_getElem?_getD, List.getElem?_eq_getElem h]
  rfl

theorem less_loop {p q : List UInt8} (hp : p.length < 1000000000) : ∀ r i, i + r = p.length → Goal P 0 72 (fun v _ => v = .bool (decide (p.drop i < q.drop i))) (Ls p q (i : Int) GW)
  | 0, i, hi => by
    have hd : p.drop i = [] := List.drop_eq_nil_of_le (by omega)
    have e : decide (p.drop i < q.drop i) = decide ((p.length : Int) < (q.length : Int)) := by
      rw [hd, decide_eq_decide]
      by_cases h : i < q.length
      · rw [drop_at h]
        exact ⟨fun _ => by omega, fun _ => List.nil_lt_cons _ _⟩
      · rw [List.drop_eq_nil_of_le (by omega : q.length ≤ i)]
        exact ⟨fun h => absurd h (List.lt_irrefl _), fun h => by omega⟩
    exact Obl.goal (K := Goal P 0 72 _) mix (fun _ h => h) (cast (lln (fun v _ => v = .bool (decide (p.drop i < q.drop i))) (el zf) (el zf) (el zf) (el zf) (p) (q) [] [] [] [] 0 0 0 0 ((i : Int)) 0 0 0 0 0 0 0 0 0 0 false false false GW _).symm ⟨decide_eq_false (by omega), congrArg AV.bool e.symm⟩)
  | r + 1, i, hi => by
    have h1 : i < p.length := by omega
    by_cases h2 : i < q.length
    · have c1 : decide ((i : Int) < (p.length : Int)) = true := decide_eq_true (by omega)
      have c2 : decide ((i : Int) < (q.length : Int)) = true := decide_eq_true (by omega)
      by_cases he : p.getD i 0 = q.getD i 0
      · have ih := less_loop (q := q) hp r (i + 1) (by omega)
        have e : decide (p.drop i < q.drop i) = decide (p.drop (i + 1) < q.drop (i + 1)) := by
          rw [drop_at h1, drop_at h2, he, decide_eq_decide, List.cons_lt_cons_iff]
          exact ⟨fun h => h.elim (fun h => absurd h (UInt8.lt_irrefl _)) fun h => h.2, fun h => .inr ⟨rfl, h⟩⟩
        rw [e]
        exact Obl.goal (K := Goal P 0 72 _) mix (fun _ h => h) (cast (llyyn (fun v _ => v = .bool (decide (p.drop (i + 1) < q.drop (i + 1)))) (el zf) (el zf) (el zf) (el zf) (p) (q) [] [] [] [] 0 0 0 0 ((i : Int)) 0 0 0 0 0 0 0 0 0 0 false false false GW _).symm ⟨c1, c2, ⟨by omega, by omega⟩, ⟨by omega, by omega⟩, by rw [← Bool.not_eq_true, bne_iff_ne]; exact fun h => h (congrArg (fun x : UInt8 => ((x.toNat : Nat) : Int)) he), by rw [up1b i (by omega)]; exact ih⟩)
      · have hne : ¬ (((p.getD i 0).toNat : Nat) : Int) = (((q.getD i 0).toNat : Nat) : Int) := fun h => he (UInt8.toNat_inj.1 (by omega))
        have e : decide (p.drop i < q.drop i) = decide ((((p.getD i 0).toNat : Nat) : Int) < (((q.getD i 0).toNat : Nat) : Int)) := by
          rw [drop_at h1, drop_at h2, decide_eq_decide, List.cons_lt_cons_iff, UInt8.lt_iff_toNat_lt]
          constructor
          · rintro (h | h)
            · omega
            · exact absurd h.1 he
          · intro h
            exact .inl (by omega)
        rw [e]
        exact Obl.goal (K := Goal P 0 72 _) mix (fun _ h => h) (cast (llyyy (fun v _ => v = .bool (decide ((((p.getD i 0).toNat : Nat) : Int) < (((q.getD i 0).toNat : Nat) : Int)))) (el zf) (el zf) (el zf) (el zf) (p) (q) [] [] [] [] 0 0 0 0 ((i : Int)) 0 0 0 0 0 0 0 0 0 0 false false false GW _).symm ⟨c1, c2, ⟨by omega, by omega⟩, ⟨by omega, by omega⟩, by rw [bne_iff_ne]; exact hne, ⟨by omega, by omega⟩, ⟨by omega, by omega⟩, rfl⟩)
    · have e : decide (p.drop i < q.drop i) = decide ((p.length : Int) < (q.length : Int)) := by
        rw [drop_at h1, List.drop_eq_nil_of_le (by omega : q.length ≤ i), decide_eq_decide]
        exact ⟨fun h => absurd h (List.not_lt_nil _), fun h => by omega⟩
      exact Obl.goal (K := Goal P 0 72 _) mix (fun _ h => h) (cast (llyn (fun v _ => v = .bool (decide (p.drop i < q.drop i))) (el zf) (el zf) (el zf) (el zf) (p) (q) [] [] [] [] 0 0 0 0 ((i : Int)) 0 0 0 0 0 0 0 0 0 0 false false false GW _).symm ⟨decide_eq_true (by omega), decide_eq_false (by omega), congrArg AV.bool e.symm⟩)

theorem less_ok {p q : List UInt8} (hp : p.length < 1000000000) : Goal P 0 72 (fun v _ => v = .bool (decide (p < q))) (startM P 72 [.str p, .str q] GW) :=
  Obl.goal (K := Goal P 0 72 _) mix (fun _ h => h) (cast (lq (fun v _ => v = .bool (decide (p < q))) (el zf) (el zf) (el zf) (el zf) (p) (q) [] [] [] [] 0 0 0 0 0 0 0 0 0 0 0 0 0 0 0 false false false GW _).symm (less_loop (p := p) (q := q) hp p.length 0 (Nat.zero_add _)))

theorem may_ok' (d : Dg) : Goal P 0 45 (fun x _ => x = .bool (mayB d)) (startM P 45 [.agg [.str d.1, .int .i64 d.2.1, .int .i64 d.2.2]] GW) := by
  unfold mayB
  by_cases h1 : d.2.2 ≥ 1
  · by_cases h2 : d.2.2 ≤ 13
    · by_cases h3 : d.2.1 ≥ 0
      · by_cases h4 : d.2.1 < 2147483648
        · have e : decide (1 ≤ d.2.2 ∧ d.2.2 ≤ 13 ∧ 0 ≤ d.2.1 ∧ d.2.1 ≤ 2147483647 ∧ d.1.length ≤ 200) = decide (((d.1.length : Nat) : Int) ≤ (200 : Int)) := by
            rw [decide_eq_decide]
            omega
          rw [e]
          exact Obl.goal (K := Goal P 0 45 _) mix (fun _ h => h) (cast (mryyyy (fun v _ => v = .bool (decide (((d.1.length : Nat) : Int) ≤ (200 : Int)))) (el zf) (el zf) (el zf) (el zf) (d.1) [] [] [] [] [] (d.2.1) (d.2.2) 0 0 0 0 0 0 0 0 0 0 0 0 0 false false false GW _).symm ⟨decide_eq_true h1, decide_eq_true h2, decide_eq_true h3, decide_eq_true h4, rfl⟩)
        · rw [decide_eq_false (p := 1 ≤ d.2.2 ∧ d.2.2 ≤ 13 ∧ 0 ≤ d.2.1 ∧ d.2.1 ≤ 2147483647 ∧ d.1.length ≤ 200) (by omega)]
          exact Obl.goal (K := Goal P 0 45 _) mix (fun _ h => h) (cast (mryyyn (fun v _ => v = .bool false) (el zf) (el zf) (el zf) (el zf) (d.1) [] [] [] [] [] (d.2.1) (d.2.2) 0 0 0 0 0 0 0 0 0 0 0 0 0 false false false GW _).symm ⟨decide_eq_true h1, decide_eq_true h2, decide_eq_true h3, decide_eq_false h4, rfl⟩)
      · rw [decide_eq_false (p := 1 ≤ d.2.2 ∧ d.2.2 ≤ 13 ∧ 0 ≤ d.2.1 ∧ d.2.1 ≤ 2147483647 ∧ d.1.length ≤ 200) (by omega)]
        exact Obl.goal (K := Goal P 0 45 _) mix (fun _ h => h) (cast (mryyn (fun v _ => v = .bool false) (el zf) (el zf) (el zf) (el zf) (d.1) [] [] [] [] [] (d.2.1) (d.2.2) 0 0 0 0 0 0 0 0 0 0 0 0 0 false false false GW _).symm ⟨decide_eq_true h1, decide_eq_true h2, decide_eq_false h3, rfl⟩)
    · rw [decide_eq_false (p := 1 ≤ d.2.2 ∧ d.2.2 ≤ 13 ∧ 0 ≤ d.2.1 ∧ d.2.1 ≤ 2147483647 ∧ d.1.length ≤ 200) (by omega)]
      exact Obl.goal (K := Goal P 0 45 _) mix (fun _ h => h) (cast (mryn (fun v _ => v = .bool false) (el zf) (el zf) (el zf) (el zf) (d.1) [] [] [] [] [] (d.2.1) (d.2.2) 0 0 0 0 0 0 0 0 0 0 0 0 0 false false false GW _).symm ⟨decide_eq_true h1, decide_eq_false h2, rfl⟩)
  · rw [decide_eq_false (p := 1 ≤ d.2.2 ∧ d.2.2 ≤ 13 ∧ 0 ≤ d.2.1 ∧ d.2.1 ≤ 2147483647 ∧ d.1.length ≤ 200) (by omega)]
    exact Obl.goal (K := Goal P 0 45 _) mix (fun _ h => h) (cast (mrn (fun v _ => v = .bool false) (el zf) (el zf) (el zf) (el zf) (d.1) [] [] [] [] [] (d.2.1) (d.2.2) 0 0 0 0 0 0 0 0 0 0 0 0 0 false false false GW _).symm ⟨decide_eq_false h1, rfl⟩)

instance (x y : Dg) : Decidable (Lt x y) := inferInstanceAs (Decidable (_ ∨ _))

theorem lt_ok (x y : Dg) (hx : x.1.length < 1000000000) : Goal P 0 46 (fun v _ => v = .bool (decide (Lt x y))) (startM P 46 [.agg [.str x.1, .int .i64 x.2.1, .int .i64 x.2.2], .agg [.str y.1, .int .i64 y.2.1, .int .i64 y.2.2]] GW) := by
  by_cases h1 : x.1 = y.1
  · by_cases h2 : x.2.1 = y.2.1
    · have e : decide (Lt x y) = decide (x.2.2 < y.2.2) := by
        rw [decide_eq_decide]
        unfold Lt
        rw [h1, h2]
        exact ⟨fun h => h.elim (fun h => absurd h (bl_irrefl _)) fun h => by omega, fun h => .inr ⟨rfl, .inr ⟨rfl, h⟩⟩⟩
      rw [e]
      exact Obl.goal (K := Goal P 0 46 _) mix (fun _ h => h) (cast (lxnn (fun v _ => v = .bool (decide (x.2.2 < y.2.2))) (el zf) (el zf) (el zf) (el zf) (x.1) (y.1) [] [] [] [] (x.2.1) (x.2.2) (y.2.1) (y.2.2) 0 0 0 0 0 0 0 0 0 0 0 false false false GW _).symm ⟨by rw [h1]; simp, by rw [h2]; simp, rfl⟩)
    · have e : decide (Lt x y) = decide (x.2.1 < y.2.1) := by
        rw [decide_eq_decide]
        unfold Lt
        rw [h1]
        exact ⟨fun h => h.elim (fun h => absurd h (bl_irrefl _)) fun h => by omega, fun h => .inr ⟨rfl, .inl h⟩⟩
      rw [e]
      exact Obl.goal (K := Goal P 0 46 _) mix (fun _ h => h) (cast (lxny (fun v _ => v = .bool (decide (x.2.1 < y.2.1))) (el zf) (el zf) (el zf) (el zf) (x.1) (y.1) [] [] [] [] (x.2.1) (x.2.2) (y.2.1) (y.2.2) 0 0 0 0 0 0 0 0 0 0 0 false false false GW _).symm ⟨by rw [h1]; simp, by rw [bne_iff_ne]; exact h2, rfl⟩)
  · have e : decide (Lt x y) = decide (x.1 < y.1) := by
      rw [decide_eq_decide]
      unfold Lt
      exact ⟨fun h => h.elim id fun h => absurd h.1 h1, .inl⟩
    rw [e]
    exact Obl.goal (K := Goal P 0 46 _) mix (fun _ h => h) (cast (lxy (fun v _ => v = .bool (decide (x.1 < y.1))) (el zf) (el zf) (el zf) (el zf) (x.1) (y.1) [] [] [] [] (x.2.1) (x.2.2) (y.2.1) (y.2.2) 0 0 0 0 0 0 0 0 0 0 0 (decide (x.1 < y.1)) false false GW _).symm ⟨by rw [beqF h1]; rfl, less_ok hx, rfl⟩)

theorem word_ok' (c : Int) : Goal P 0 17 (fun x _ => x = .str (wdv c)) (startM P 17 [.int .i64 c] GW) := by
  by_cases h1 : c < 1
  · have e : wdv c = [] := by
      unfold wdv
      by_cases h : 0 ≤ c ∧ c < 14
      · rw [if_pos h]
        obtain rfl : c = 0 := by omega
        rfl
      · rw [if_neg h]
    rw [e]
    exact Obl.goal (K := Goal P 0 17 _) mix (fun _ h => h) (cast (wry (fun v _ => v = .str []) (el zf) (el zf) (el zf) (el zf) [] [] [] [] [] [] 0 (c) 0 0 0 0 0 0 0 0 0 0 0 0 0 false false false GW _).symm ⟨decide_eq_true h1, rfl⟩)
  · by_cases h2 : c > 13
    · have e : wdv c = [] := if_neg (by omega)
      rw [e]
      exact Obl.goal (K := Goal P 0 17 _) mix (fun _ h => h) (cast (wrny (fun v _ => v = .str []) (el zf) (el zf) (el zf) (el zf) [] [] [] [] [] [] 0 (c) 0 0 0 0 0 0 0 0 0 0 0 0 0 false false false GW _).symm ⟨decide_eq_false h1, decide_eq_true h2, rfl⟩)
    · have hc : c = 1 ∨ c = 2 ∨ c = 3 ∨ c = 4 ∨ c = 5 ∨ c = 6 ∨ c = 7 ∨ c = 8 ∨ c = 9 ∨ c = 10 ∨ c = 11 ∨ c = 12 ∨ c = 13 := by omega
      rcases hc with rfl | rfl | rfl | rfl | rfl | rfl | rfl | rfl | rfl | rfl | rfl | rfl | rfl <;> exact Goal.ofRun mix (n := 33) (by kernel_rfl) fun _ => rfl

/-! ## Put among others -/

def ins (g : Nat → Dg) (u : Nat) (d : Dg) (j : Nat) : Dg := if j < u then g j else if j = u then d else g (j - 1)

theorem ups_mk {h : Nat → Dg} {n : Nat} (k : ∀ i j, i < j → j < n → Lt (h i) (h j)) : Ups (sl h 0 n) := by
  refine List.pairwise_iff_getElem.2 fun i j hi hj hij => ?_
  rw [sl_len] at hi hj
  have e1 : (sl h 0 n)[i]? = some (h i) := by rw [sl_get _ _ _ _ (by omega), Nat.zero_add]
  have e2 : (sl h 0 n)[j]? = some (h j) := by rw [sl_get _ _ _ _ (by omega), Nat.zero_add]
  rw [List.getElem?_eq_getElem (by rw [sl_len]; omega)] at e1 e2
  rw [Option.some.inj e1, Option.some.inj e2]
  exact k i j hij hj

theorem ups_ge {h : Nat → Dg} {n : Nat} (k : Ups (sl h 0 n)) (i j : Nat) (hij : i < j) (hj : j < n) : Lt (h i) (h j) := by
  have := List.pairwise_iff_getElem.1 k i j (by rw [sl_len]; omega) (by rw [sl_len]; omega) hij
  have e1 : (sl h 0 n)[i]? = some (h i) := by rw [sl_get _ _ _ _ (by omega), Nat.zero_add]
  have e2 : (sl h 0 n)[j]? = some (h j) := by rw [sl_get _ _ _ _ (by omega), Nat.zero_add]
  rw [List.getElem?_eq_getElem (by rw [sl_len]; omega)] at e1 e2
  rw [Option.some.inj e1, Option.some.inj e2] at this
  exact this

theorem ins_lt {g : Nat → Dg} {u j : Nat} {d : Dg} (h : j < u) : ins g u d j = g j := if_pos h
theorem ins_eq {g : Nat → Dg} {u : Nat} {d : Dg} : ins g u d u = d := by unfold ins; rw [if_neg (by omega), if_pos rfl]
theorem ins_gt {g : Nat → Dg} {u j : Nat} {d : Dg} (h : u < j) : ins g u d j = g (j - 1) := by unfold ins; rw [if_neg (by omega), if_neg (by omega)]

theorem so_ins {l : List Dg} {g : Nat → Dg} {m u : Nat} {d : Dg} (h : So l (sl g 0 m)) (hd : mayB d = true) (hu : u ≤ m) (h1 : ∀ t, t < u → Lt (g t) d) (h2 : u < m → Lt d (g u)) : So (l ++ [d]) (sl (ins g u d) 0 (m + 1)) := by
  refine ⟨ups_mk fun i j hij hj => ?_, fun x => ?_⟩
  · rcases Nat.lt_trichotomy j u with a | a | a
    · rw [ins_lt (by omega), ins_lt a]
      exact ups_ge h.1 i j hij (by omega)
    · rw [a, ins_eq, ins_lt (by omega)]
      exact h1 i (by omega)
    · rw [ins_gt a]
      rcases Nat.lt_trichotomy i u with b | b | b
      · rw [ins_lt b]
        exact ups_ge h.1 i (j - 1) (by omega) (by omega)
      · rw [b, ins_eq]
        have k := h2 (by omega)
        by_cases e : j - 1 = u
        · rw [e]; exact k
        · exact k.trans (ups_ge h.1 u (j - 1) (by omega) (by omega))
      · rw [ins_gt b]
        exact ups_ge h.1 (i - 1) (j - 1) (by omega) (by omega)
  · have key : x ∈ sl (ins g u d) 0 (m + 1) ↔ x ∈ sl g 0 m ∨ x = d := by
      constructor
      · intro hx
        obtain ⟨t, _, t2, rfl⟩ := sl_mem _ _ hx
        rcases Nat.lt_trichotomy t u with a | a | a
        · rw [ins_lt a]; exact .inl (sl_at g m 0 t (by omega) (by omega))
        · rw [a, ins_eq]; exact .inr rfl
        · rw [ins_gt a]; exact .inl (sl_at g m 0 (t - 1) (by omega) (by omega))
      · rintro (hx | rfl)
        · obtain ⟨t, _, t2, rfl⟩ := sl_mem _ _ hx
          by_cases a : t < u
          · rw [← ins_lt (g := g) (d := d) a]
            exact sl_at (ins g u d) (m + 1) 0 t (by omega) (by omega)
          · have e : g t = ins g u d (t + 1) := by rw [ins_gt (by omega), Nat.add_sub_cancel]
            rw [e]
            exact sl_at (ins g u d) (m + 1) 0 (t + 1) (by omega) (by omega)
        · have e : x = ins g u x u := ins_eq.symm
          have k := sl_at (ins g u x) (m + 1) 0 u (by omega) (by omega)
          rw [ins_eq] at k
          exact k
    rw [key, h.2, List.mem_append, List.mem_singleton]
    constructor
    · rintro (⟨a, b⟩ | rfl)
      · exact ⟨.inl a, b⟩
      · exact ⟨.inr rfl, hd⟩
    · rintro ⟨a | a, b⟩
      · exact .inl ⟨a, b⟩
      · exact .inr a

theorem so_skip {l m : List Dg} {d : Dg} (h : So l m) (hd : mayB d = true → d ∈ m) : So (l ++ [d]) m := by
  refine ⟨h.1, fun x => ?_⟩
  rw [h.2, List.mem_append, List.mem_singleton]
  constructor
  · rintro ⟨a, b⟩
    exact ⟨.inl a, b⟩
  · rintro ⟨a | rfl, b⟩
    · exact ⟨a, b⟩
    · exact ⟨((h.2 _).1 (hd b)).1, b⟩

theorem so_len {l : List Dg} {g : Nat → Dg} {m m' : Nat} (h : So l (sl g 0 m)) (e : m' = m) : So l (sl g 0 m') := e ▸ h

theorem el_one (f : Nat → Dg) (k : Nat) : (el f k).one = true := by
  unfold el
  cases Nat.beq (k % 3) 0 <;> cases Nat.beq (k % 3) 1 <;> rfl

theorem rec_at (d : Dg) (k : Nat) (h : k < 3) : ((T.leaf.node (some (AV.int IntKind.i64 d.2.1)) T.leaf).node (some (AV.str d.1)) (T.leaf.node (some (AV.int IntKind.i64 d.2.2)) T.leaf)).get k = (sc d)[k]? := by
  have hr : k = 0 ∨ k = 1 ∨ k = 2 := by omega
  rcases hr with h | h | h <;> subst h <;> rfl

theorem rec_one (d : Dg) (k : Nat) (h : k < 3) : ∃ v, ((T.leaf.node (some (AV.int IntKind.i64 d.2.1)) T.leaf).node (some (AV.str d.1)) (T.leaf.node (some (AV.int IntKind.i64 d.2.2)) T.leaf)).get (0 + k) = some v ∧ v.one = true := by
  have hr : k = 0 ∨ k = 1 ∨ k = 2 := by omega
  rcases hr with h | h | h <;> subst h <;> exact ⟨_, rfl, rfl⟩

theorem ble_t {a b c : Nat} (h : a ≤ b ∧ b < c) : (a.ble b && b.blt c) = true := by
  rw [Bool.and_eq_true, Nat.ble_eq, Nat.blt_eq]; exact h
theorem ble_f {a b c : Nat} (h : ¬ (a ≤ b ∧ b < c)) : (a.ble b && b.blt c) = false := by
  rw [← Bool.not_eq_true, Bool.and_eq_true, Nat.ble_eq, Nat.blt_eq]; exact h

/-- The record laid behind the first ones. -/
theorem insz_el (g : Nat → Dg) (u : Nat) (d : Dg) {U D Z : Nat} (hU : U = u) (hD : D = 3) (hZ : Z ≤ u * 3 + 3) : Tells Z (.fn fun c => some (el (ins g u d) c)) (.fn fun k => bif (0 + (U - 0) * D).ble k && k.blt (0 + (U - 0) * D + 1 * D) then (fun k => ((T.leaf.node (some (AV.int IntKind.i64 d.2.1)) T.leaf).node (some (AV.str d.1)) (T.leaf.node (some (AV.int IntKind.i64 d.2.2)) T.leaf)).get (0 + k)) (k - (0 + (U - 0) * D)) else (T.fn fun k => (T.fn fun c => some (el g c)).get (0 + k)).get k) := by
  subst hU hD
  intro k v hk h
  have h : some (el (ins g U d) k) = some v := h
  rw [← h]
  show (bif (0 + (U - 0) * 3).ble k && k.blt (0 + (U - 0) * 3 + 1 * 3) then ((T.leaf.node (some (AV.int IntKind.i64 d.2.1)) T.leaf).node (some (AV.str d.1)) (T.leaf.node (some (AV.int IntKind.i64 d.2.2)) T.leaf)).get (0 + (k - (0 + (U - 0) * 3))) else some (el g (0 + k))) = _
  by_cases hin : U * 3 ≤ k
  · rw [ble_t (by omega), cond_true, rec_at d _ (by omega), ← el_at, show k / 3 = U by omega, ins_eq, show 0 + (k - (0 + (U - 0) * 3)) = k % 3 by omega]
  · rw [ble_f (by omega), cond_false]
    congr 1
    refine el_shift (by omega) ?_
    rw [ins_lt (by omega)]
    congr 1
    omega

/-- And the others behind it. -/
theorem ins_el (g : Nat → Dg) (u m : Nat) (d : Dg) {U D Z : Nat} (hU : U = u) (hD : D = 3) (hm : u ≤ m) (hZ : Z ≤ m * 3 + 3) : Tells Z (.fn fun c => some (el (ins g u d) c)) (.fn fun k => bif (0 + (U - 0 + 1) * D).ble k && k.blt (0 + (U - 0 + 1) * D + (m - U) * D) then (fun k => (T.fn fun c => some (el g c)).get (0 + U * 3 + k)) (k - (0 + (U - 0 + 1) * D)) else (T.fn fun k => bif (0 + (U - 0) * D).ble k && k.blt (0 + (U - 0) * D + 1 * D) then (fun k => ((T.leaf.node (some (AV.int IntKind.i64 d.2.1)) T.leaf).node (some (AV.str d.1)) (T.leaf.node (some (AV.int IntKind.i64 d.2.2)) T.leaf)).get (0 + k)) (k - (0 + (U - 0) * D)) else (T.fn fun k => (T.fn fun c => some (el g c)).get (0 + k)).get k).get k) := by
  subst hU hD
  intro k v hk h
  by_cases hin : (U + 1) * 3 ≤ k
  · have h : some (el (ins g U d) k) = some v := h
    rw [← h]
    show (bif (0 + (U - 0 + 1) * 3).ble k && k.blt (0 + (U - 0 + 1) * 3 + (m - U) * 3) then some (el g (0 + U * 3 + (k - (0 + (U - 0 + 1) * 3)))) else _) = _
    rw [ble_t (by omega), cond_true]
    congr 1
    refine el_shift (by omega) ?_
    rw [ins_gt (by omega)]
    congr 1
    omega
  · show (bif (0 + (U - 0 + 1) * 3).ble k && k.blt (0 + (U - 0 + 1) * 3 + (m - U) * 3) then _ else (T.fn fun k => bif (0 + (U - 0) * 3).ble k && k.blt (0 + (U - 0) * 3 + 1 * 3) then (fun k => ((T.leaf.node (some (AV.int IntKind.i64 d.2.1)) T.leaf).node (some (AV.str d.1)) (T.leaf.node (some (AV.int IntKind.i64 d.2.2)) T.leaf)).get (0 + k)) (k - (0 + (U - 0) * 3)) else (T.fn fun k => (T.fn fun c => some (el g c)).get (0 + k)).get k).get k) = _
    rw [ble_f (by omega), cond_false]
    exact insz_el g U d rfl rfl (Nat.le_refl _) k v (by omega) h

theorem ins0_el (g : Nat → Dg) (m : Nat) (d : Dg) {D Z : Nat} (hD : D = 3) (hZ : Z ≤ m * 3 + 3) : Tells Z (.fn fun c => some (el (ins g 0 d) c)) (.fn fun k => bif (0 + 1 * D).ble k && k.blt (0 + 1 * D + m * D) then (fun k => (T.fn fun c => some (el g c)).get (0 + k)) (k - (0 + 1 * D)) else ((T.leaf.node (some (AV.int IntKind.i64 d.2.1)) T.leaf).node (some (AV.str d.1)) (T.leaf.node (some (AV.int IntKind.i64 d.2.2)) T.leaf)).get k) := by
  subst hD
  intro k v hk h
  have h : some (el (ins g 0 d) k) = some v := h
  rw [← h]
  show (bif (0 + 1 * 3).ble k && k.blt (0 + 1 * 3 + m * 3) then some (el g (0 + (k - (0 + 1 * 3)))) else ((T.leaf.node (some (AV.int IntKind.i64 d.2.1)) T.leaf).node (some (AV.str d.1)) (T.leaf.node (some (AV.int IntKind.i64 d.2.2)) T.leaf)).get k) = _
  by_cases hin : 3 ≤ k
  · rw [ble_t (by omega), cond_true]
    congr 1
    refine el_shift (by omega) ?_
    rw [ins_gt (by omega)]
    congr 1
    omega
  · rw [ble_f (by omega), cond_false, rec_at d _ (by omega), ← el_at, show k / 3 = 0 by omega, ins_eq, show k % 3 = k by omega]

/-- Nothing is appended. -/
theorem app0s (o y l k : Nat) (c : T AV) (h : AHeap) (ho : o ≤ y) (hh : h.get 1 = some (.cells c y 35 0 0 1 0 false .leaf)) : liftV (appendA P h 22 false (.slg 2 1 0 l 0) (.slg 1 0 o 0 k)) = some (.val (.slg 2 1 0 l 0) h) := by
  have hl : loadCellsA h 1 0 o 0 = some [] := by
    unfold loadCellsA
    rw [hh]
    show (if 0 ≤ 0 ∧ 0 ≤ 0 ∧ o + 0 ≤ y then loadList _ o 0 else none) = _
    rw [if_pos ⟨Nat.le_refl _, Nat.le_refl _, ho⟩]
    rfl
  have key : appendA P h 22 false (.slg 2 1 0 l 0) (.slg 1 0 o 0 k) = (match (match loadCellsA h 1 0 o 0 with
      | none => none
      | some new => some (0, new)) with
      | none => none
      | some (n, new) => if 0 < 3 ∧ 3 = 3 ∧ true = true ∧ new.all AV.one = true ∧ new.length = n * 3 ∧ (false = true → Nat.ble (n * 32) (2 ^ 48) = true) then (match n with
        | 0 => appendNone h (.slg 2 1 0 l 0)
        | n + 1 => appendTo h 35 3 32 l (n + 1) (.slg 2 1 0 l 0) new) else none) := by kernel_rfl
  rw [key, hl]
  rfl

/-! ## Sorted by insertion -/

/-- What it comes to. -/
def SoD (f : Nat → Dg) (n z : Nat) (m : AM) : Prop :=
  (So (sl f 0 n) [] ∧ Goal P 1 13 (fun v h => v = .nils 0 0 ∧ h = HCo f 0 z) m) ∨
    ∃ f' k y, 0 < k ∧ k ≤ n ∧ k * 3 ≤ y ∧ So (sl f 0 n) (sl f' 0 k) ∧ Goal P 1 13 (fun v h => v = .slg 1 0 0 k 0 ∧ h = HCw f f' 0 z y) m

theorem SoD.of {f : Nat → Dg} {n z : Nat} {m m' : AM} (h : SoD f n z m) (k : ∀ R : AV → AHeap → Prop, Goal P 1 13 R m → Goal P 1 13 R m') : SoD f n z m' := by
  rcases h with ⟨h1, h2⟩ | ⟨f', k', y', h1, h2, h3, h4, h5⟩
  · exact .inl ⟨h1, k _ h2⟩
  · exact .inr ⟨f', k', y', h1, h2, h3, h4, k _ h5⟩

theorem roomd (a : Nat) (h : a < 1000000) : roomA a 32 = true := by
  unfold roomA
  rw [Bool.and_eq_true, Nat.ble_eq, Nat.blt_eq]
  constructor <;> omega

section
variable {z n : Nat} {f : Nat → Dg}

theorem rcz_step {i m y u : Nat} {g : Nat → Dg} {R : AV → AHeap → Prop} (hz : n * 3 ≤ z) (hn : n < 100000) (hi : i < n) (h0 : 0 < m) (hm : m ≤ i) (hy : m * 3 ≤ y) (hum : u = m)
    (h : Goal P 1 13 R (RsB (el f) (el (ins g u (f i))) ((i + 1 : Nat) : Int) n ((u : Int).toNat - 0 + 1) z (u * 3 + 3) GW)) : Goal P 1 13 R (RsC (el f) (el g) (i : Int) (u : Int) n m z y GW) := by
  have hD := DS_eq
  have a1 := agg_el f i
  have t1 := insz_el (D := DS) g u (f i) (U := (u : Int).toNat) (by omega) DS_eq (Nat.le_refl (u * 3 + 3))
  have hw := up1 i (by omega)
  have b1 : ∀ k, k < ((u : Int).toNat - 0) * DS → ∃ v, (T.fn fun c => some (el g c)).get (0 + k) = some v ∧ v.one = true := fun k _ => ⟨_, rfl, el_one g _⟩
  have b2 : ∀ k, k < 1 * DS → ∃ v, ((T.leaf.node (some (AV.int IntKind.i64 (f i).2.1)) T.leaf).node (some (AV.str (f i).1)) (T.leaf.node (some (AV.int IntKind.i64 (f i).2.2)) T.leaf)).get (0 + k) = some v ∧ v.one = true := fun k hk => rec_one (f i) k (by rw [hD] at hk; omega)
  have c1 : decide ((u : Int) < ((m : Nat) : Int)) = false := decide_eq_false (by omega)
  have c2 : AV.slg 1 0 (0 + (u : Int).toNat * 3) (m - (u : Int).toNat) (0 + (u : Int).toNat) = AV.slg 1 0 (0 + (u : Int).toNat * 3) 0 (0 + (u : Int).toNat) := by rw [show m - (u : Int).toNat = 0 by omega]
  have c3 : 0 + 1 * DS ≤ 3 := by rw [hD]; omega
  have c5 : 0 = 0 * DS := (Nat.zero_mul _).symm
  have r1 := roomd ((u : Int).toNat - 0) (by omega)
  have r2 := roomd ((u : Int).toNat - 0 + 1) (by omega)
  rw [← hw] at h
  exact Obl.goal (K := Goal P 1 13 _) mix (fun _ h => h) (cast (rCz (R) (el f) (el g) (el (ins g u (f i))) (el zf) ((f i).1) [] ((f i).2.1) ((f i).2.2) 0 0 ((i : Int)) (u) (n) (m) (z) (y) (u * 3 + 3) 0 0 false false false GW _).symm ⟨c1, c1, ⟨by omega, by omega⟩, ⟨⟨by omega, b1⟩, by omega, r1⟩, ⟨by omega, by omega⟩, by omega, a1, ⟨⟨c3, b2⟩, by omega, by omega, by omega, c5, r2, by omega⟩, t1, by omega, ⟨by omega, by omega⟩, c2, app0s _ _ _ _ _ _ (by omega) rfl, el_plain _, el_plain _, h⟩)

theorem rcy_step {i m y u : Nat} {g : Nat → Dg} {R : AV → AHeap → Prop} (hz : n * 3 ≤ z) (hn : n < 100000) (hi : i < n) (hm : m ≤ i) (hy : m * 3 ≤ y) (hu : u < m) (hless : Goal P 0 46 (fun v _ => v = .bool true) (startM P 46 [.agg [.str (g u).1, .int .i64 (g u).2.1, .int .i64 (g u).2.2], .agg [.str (f i).1, .int .i64 (f i).2.1, .int .i64 (f i).2.2]] GW))
    (h : Goal P 1 13 R (RsC (el f) (el g) (i : Int) ((u + 1 : Nat) : Int) n m z y GW)) : Goal P 1 13 R (RsC (el f) (el g) (i : Int) (u : Int) n m z y GW) := by
  have hD := DS_eq
  have a1 := agg_el f i
  have a2 := agg_el g u
  have c1 : decide ((u : Int) < ((m : Nat) : Int)) = true := decide_eq_true (by omega)
  have d1 : 0 + ((u : Int)).toNat * 3 + 3 ≤ y := by omega
  have d2 : 0 + ((i : Int)).toNat * 3 + 3 ≤ z := by omega
  have d3 : (0 : Int) ≤ (u : Int) := by omega
  have d4 : (u : Int) < (m : Int) := by omega
  have d5 : (0 : Int) ≤ (i : Int) := by omega
  have d6 : (i : Int) < (n : Int) := by omega
  rw [← up1 u (by omega)] at h
  exact Obl.goal (K := Goal P 1 13 _) mix (fun _ h => h) (cast (rCyy (R) (el f) (el g) (el zf) (el zf) ((f i).1) ((g u).1) ((f i).2.1) ((f i).2.2) ((g u).2.1) ((g u).2.2) ((i : Int)) (u) (n) (m) (z) (y) 0 0 0 false (true) false GW _).symm ⟨c1, ⟨d3, d4⟩, d1, a2, ⟨d5, d6⟩, d2, a1, hless, rfl, el_plain _, el_plain _, h⟩)

theorem rck_step {i m y u : Nat} {g : Nat → Dg} {R : AV → AHeap → Prop} (hz : n * 3 ≤ z) (hn : n < 100000) (hi : i < n) (hm : m ≤ i) (hy : m * 3 ≤ y) (hu : u < m) (hless : Goal P 0 46 (fun v _ => v = .bool false) (startM P 46 [.agg [.str (g u).1, .int .i64 (g u).2.1, .int .i64 (g u).2.2], .agg [.str (f i).1, .int .i64 (f i).2.1, .int .i64 (f i).2.2]] GW)) (he : g u = f i)
    (h : Goal P 1 13 R (RsB (el f) (el g) ((i + 1 : Nat) : Int) n m z y GW)) : Goal P 1 13 R (RsC (el f) (el g) (i : Int) (u : Int) n m z y GW) := by
  have hD := DS_eq
  have a1 := agg_el f i
  have a2 := agg_el g u
  have c1 : decide ((u : Int) < ((m : Nat) : Int)) = true := decide_eq_true (by omega)
  have d1 : 0 + ((u : Int)).toNat * 3 + 3 ≤ y := by omega
  have d2 : 0 + ((i : Int)).toNat * 3 + 3 ≤ z := by omega
  have d3 : (0 : Int) ≤ (u : Int) := by omega
  have d4 : (u : Int) < (m : Int) := by omega
  have d5 : (0 : Int) ≤ (i : Int) := by omega
  have d6 : (i : Int) < (n : Int) := by omega
  have hq : ∀ h : AHeap, binA P h BinOp.eql 35 (isConstO (Operand.tmp 44) || isConstO (Operand.tmp 48)) (AV.agg [AV.str (g u).1, AV.int IntKind.i64 (g u).2.1, AV.int IntKind.i64 (g u).2.2]) (AV.agg [AV.str (f i).1, AV.int IntKind.i64 (f i).2.1, AV.int IntKind.i64 (f i).2.2]) = some (AV.bool true) := fun h => by rw [eq35, decide_eq_true he]
  rw [← up1 i (by omega)] at h
  exact Obl.goal (K := Goal P 1 13 _) mix (fun _ h => h) (cast (rCyny (R) (el f) (el g) (el zf) (el zf) ((f i).1) ((g u).1) ((f i).2.1) ((f i).2.2) ((g u).2.1) ((g u).2.2) ((i : Int)) (u) (n) (m) (z) (y) 0 0 0 false (false) (true) GW _).symm ⟨c1, ⟨d3, d4⟩, d1, a2, ⟨d5, d6⟩, d2, a1, hless, rfl, c1, ⟨d3, d4⟩, d1, a2, ⟨d5, d6⟩, d2, a1, hq, rfl, el_plain _, el_plain _, h⟩)

theorem rci_step {i m y u : Nat} {g : Nat → Dg} {R : AV → AHeap → Prop} (hz : n * 3 ≤ z) (hn : n < 100000) (hi : i < n) (hm : m ≤ i) (hy : m * 3 ≤ y) (hu : u < m) (hu0 : ¬ u = 0) (hless : Goal P 0 46 (fun v _ => v = .bool false) (startM P 46 [.agg [.str (g u).1, .int .i64 (g u).2.1, .int .i64 (g u).2.2], .agg [.str (f i).1, .int .i64 (f i).2.1, .int .i64 (f i).2.2]] GW)) (he : ¬ g u = f i)
    (h : Goal P 1 13 R (RsB (el f) (el (ins g u (f i))) ((i + 1 : Nat) : Int) n ((u : Int).toNat - 0 + 1 + (m - (u : Int).toNat)) z (0 + ((u : Int).toNat - 0 + 1) * 3 + (m - (u : Int).toNat) * 3) GW)) : Goal P 1 13 R (RsC (el f) (el g) (i : Int) (u : Int) n m z y GW) := by
  have hD := DS_eq
  have a1 := agg_el f i
  have a2 := agg_el g u
  have c1 : decide ((u : Int) < ((m : Nat) : Int)) = true := decide_eq_true (by omega)
  have d1 : 0 + ((u : Int)).toNat * 3 + 3 ≤ y := by omega
  have d2 : 0 + ((i : Int)).toNat * 3 + 3 ≤ z := by omega
  have d3 : (0 : Int) ≤ (u : Int) := by omega
  have d4 : (u : Int) < (m : Int) := by omega
  have d5 : (0 : Int) ≤ (i : Int) := by omega
  have d6 : (i : Int) < (n : Int) := by omega
  have hq : ∀ h : AHeap, binA P h BinOp.eql 35 (isConstO (Operand.tmp 44) || isConstO (Operand.tmp 48)) (AV.agg [AV.str (g u).1, AV.int IntKind.i64 (g u).2.1, AV.int IntKind.i64 (g u).2.2]) (AV.agg [AV.str (f i).1, AV.int IntKind.i64 (f i).2.1, AV.int IntKind.i64 (f i).2.2]) = some (AV.bool false) := fun h => by rw [eq35, decide_eq_false he]
  have b2 : ∀ k, k < 1 * DS → ∃ v, ((T.leaf.node (some (AV.int IntKind.i64 (f i).2.1)) T.leaf).node (some (AV.str (f i).1)) (T.leaf.node (some (AV.int IntKind.i64 (f i).2.2)) T.leaf)).get (0 + k) = some v ∧ v.one = true := fun k hk => rec_one (f i) k (by rw [hD] at hk; omega)
  have c3 : 0 + 1 * DS ≤ 3 := by rw [hD]; omega
  have c5 : 0 = 0 * DS := (Nat.zero_mul _).symm
  have t1 := ins_el (D := DS) (Z := 0 + ((u : Int).toNat - 0 + 1) * 3 + (m - (u : Int).toNat) * 3) g u m (f i) (U := (u : Int).toNat) (by omega) DS_eq (by omega) (by omega)
  have b1 : ∀ k, k < ((u : Int).toNat - 0) * DS → ∃ v, (T.fn fun c => some (el g c)).get (0 + k) = some v ∧ v.one = true := fun k _ => ⟨_, rfl, el_one g _⟩
  have b3 : ∀ k, k < (m - (u : Int).toNat) * DS → ∃ v, (T.fn fun c => some (el g c)).get (0 + (u : Int).toNat * 3 + k) = some v ∧ v.one = true := fun k _ => ⟨_, rfl, el_one g _⟩
  have r1 := roomd ((u : Int).toNat - 0) (by omega)
  have r2 := roomd ((u : Int).toNat - 0 + 1) (by omega)
  have r3 := roomd ((u : Int).toNat - 0 + 1 + (m - (u : Int).toNat)) (by omega)
  rw [← up1 i (by omega)] at h
  exact Obl.goal (K := Goal P 1 13 _) mix (fun _ h => h) (cast (rCynn (R) (el f) (el g) (el (ins g u (f i))) (el zf) ((f i).1) ((g u).1) ((f i).2.1) ((f i).2.2) ((g u).2.1) ((g u).2.2) ((i : Int)) (u) (n) (m) (z) (y) (0 + ((u : Int).toNat - 0 + 1) * 3 + (m - (u : Int).toNat) * 3) 0 0 false (false) (false) GW _).symm ⟨c1, ⟨d3, d4⟩, d1, a2, ⟨d5, d6⟩, d2, a1, hless, rfl, c1, ⟨d3, d4⟩, d1, a2, ⟨d5, d6⟩, d2, a1, hq, rfl, ⟨d3, by omega⟩, ⟨⟨by omega, b1⟩, by omega, r1⟩, ⟨d5, d6⟩, d2, a1, ⟨⟨c3, b2⟩, by omega, by omega, by omega, c5, r2, by omega⟩, ⟨d3, by omega⟩, ⟨⟨by omega, b3⟩, by omega, by omega, by omega, c5, r3, by omega⟩, t1, rfl, el_plain _, el_plain _, h⟩)

theorem rco_step {i m y : Nat} {g : Nat → Dg} {R : AV → AHeap → Prop} (hz : n * 3 ≤ z) (hn : n < 100000) (hi : i < n) (h0 : 0 < m) (hm : m ≤ i) (hy : m * 3 ≤ y)  (hless : Goal P 0 46 (fun v _ => v = .bool false) (startM P 46 [.agg [.str (g 0).1, .int .i64 (g 0).2.1, .int .i64 (g 0).2.2], .agg [.str (f i).1, .int .i64 (f i).2.1, .int .i64 (f i).2.2]] GW)) (he : ¬ g 0 = f i)
    (h : Goal P 1 13 R (RsB (el f) (el (ins g 0 (f i))) ((i + 1 : Nat) : Int) n (1 + m) z (3 + m * 3) GW)) : Goal P 1 13 R (RsC (el f) (el g) (i : Int) ((0 : Nat) : Int) n m z y GW) := by
  have hD := DS_eq
  have a1 := agg_el f i
  have a2 := agg_el g 0
  have c1 : decide (((0 : Nat) : Int) < ((m : Nat) : Int)) = true := decide_eq_true (by omega)
  have d2 : 0 + ((i : Int)).toNat * 3 + 3 ≤ z := by omega
  have d4 : ((0 : Nat) : Int) < (m : Int) := by omega
  have d5 : (0 : Int) ≤ (i : Int) := by omega
  have d6 : (i : Int) < (n : Int) := by omega
  have hq : ∀ h : AHeap, binA P h BinOp.eql 35 (isConstO (Operand.tmp 44) || isConstO (Operand.tmp 48)) (AV.agg [AV.str (g 0).1, AV.int IntKind.i64 (g 0).2.1, AV.int IntKind.i64 (g 0).2.2]) (AV.agg [AV.str (f i).1, AV.int IntKind.i64 (f i).2.1, AV.int IntKind.i64 (f i).2.2]) = some (AV.bool false) := fun h => by rw [eq35, decide_eq_false he]
  have b2 : ∀ k, k < 1 * DS → ∃ v, ((T.leaf.node (some (AV.int IntKind.i64 (f i).2.1)) T.leaf).node (some (AV.str (f i).1)) (T.leaf.node (some (AV.int IntKind.i64 (f i).2.2)) T.leaf)).get (0 + k) = some v ∧ v.one = true := fun k hk => rec_one (f i) k (by rw [hD] at hk; omega)
  have c3 : 0 + 1 * DS ≤ 3 := by rw [hD]; omega
  have c5 : 0 = 0 * DS := (Nat.zero_mul _).symm
  have t1 := ins0_el (D := DS) (Z := 3 + m * 3) g m (f i) DS_eq (by omega)
  have b3 : ∀ k, k < m * DS → ∃ v, (T.fn fun c => some (el g c)).get (0 + k) = some v ∧ v.one = true := fun k _ => ⟨_, rfl, el_one g _⟩
  have r1 := roomd (1 + m) (by omega)
  rw [← up1 i (by omega)] at h
  exact Obl.goal (K := Goal P 1 13 _) mix (fun _ h => h) (cast (rC0ynn (R) (el f) (el g) (el (ins g 0 (f i))) (el zf) ((f i).1) ((g 0).1) ((f i).2.1) ((f i).2.2) ((g 0).2.1) ((g 0).2.2) ((i : Int)) 0 (n) (m) (z) (y) (3 + m * 3) 0 0 false (false) (false) GW _).symm ⟨c1, ⟨Int.le_refl _, d4⟩, by omega, a2, ⟨d5, d6⟩, d2, a1, hless, rfl, c1, ⟨Int.le_refl _, d4⟩, by omega, a2, ⟨d5, d6⟩, d2, a1, hq, rfl, ⟨d5, d6⟩, d2, a1, ⟨⟨by omega, b3⟩, by omega, c3, Nat.zero_le _, c5, r1, by omega⟩, t1, rfl, el_plain _, el_plain _, h⟩)

theorem rc_loop {i m y : Nat} {g : Nat → Dg} (hz : n * 3 ≤ z) (hn : n < 100000) (hi : i < n) (h0 : 0 < m) (hm : m ≤ i) (hy : m * 3 ≤ y) (hd : mayB (f i) = true) (hg : So (sl f 0 i) (sl g 0 m)) (hl : ∀ t, t < m → (g t).1.length ≤ 200)
    (next : ∀ g' m' y', 0 < m' → m' ≤ i + 1 → m' * 3 ≤ y' → So (sl f 0 (i + 1)) (sl g' 0 m') → SoD f n z (RsB (el f) (el g') ((i + 1 : Nat) : Int) n m' z y' GW)) :
    ∀ s u, u + s = m → (∀ t, t < u → Lt (g t) (f i)) → SoD f n z (RsC (el f) (el g) (i : Int) (u : Int) n m z y GW)
  | 0, u, hu, h1 => by
    have hum : u = m := by omega
    have hs := so_ins (u := u) hg hd (by omega) h1 (fun h => absurd h (by omega))
    have e : sl f 0 (i + 1) = sl f 0 i ++ [f i] := by rw [sl_snoc, Nat.zero_add]
    rw [← e] at hs
    exact (next (ins g u (f i)) ((u : Int).toNat - 0 + 1) (u * 3 + 3) (by omega) (by omega) (by omega) (so_len hs (by omega))).of fun R h => rcz_step hz hn hi h0 hm hy hum h
  | s + 1, u, hu, h1 => by
    have hless := lt_ok (g u) (f i) (by have := hl u (by omega); omega)
    have e : sl f 0 (i + 1) = sl f 0 i ++ [f i] := by rw [sl_snoc, Nat.zero_add]
    by_cases hb : Lt (g u) (f i)
    · rw [decide_eq_true hb] at hless
      exact (rc_loop hz hn hi h0 hm hy hd hg hl next s (u + 1) (by omega) (fun t ht => by
        by_cases e : t = u
        · subst e; exact hb
        · exact h1 t (by omega))).of fun R h => rcy_step hz hn hi hm hy (by omega) hless h
    · rw [decide_eq_false hb] at hless
      by_cases he : g u = f i
      · have hs : So (sl f 0 (i + 1)) (sl g 0 m) := by
          rw [e]
          exact so_skip hg fun _ => he ▸ sl_at g m 0 u (by omega) (by omega)
        exact (next g m y h0 (by omega) hy hs).of fun R h => rck_step hz hn hi hm hy (by omega) hless he h
      · have hlt : Lt (f i) (g u) := by
          rcases Lt.tri (g u) (f i) with a | a | a
          · exact absurd a hb
          · exact absurd a he
          · exact a
        have hs := so_ins (u := u) hg hd (by omega) h1 (fun _ => hlt)
        rw [← e] at hs
        by_cases hu0 : u = 0
        · subst hu0
          exact (next (ins g 0 (f i)) (1 + m) (3 + m * 3) (by omega) (by omega) (by omega) (so_len hs (by omega))).of fun R h => rco_step hz hn hi h0 hm hy hless he h
        · exact (next (ins g u (f i)) ((u : Int).toNat - 0 + 1 + (m - (u : Int).toNat)) (0 + ((u : Int).toNat - 0 + 1) * 3 + (m - (u : Int).toNat) * 3) (by omega) (by omega) (by omega) (so_len hs (by omega))).of fun R h => rci_step hz hn hi hm hy (by omega) hu0 hless he h

theorem rb_loop (hz : n * 3 ≤ z) (hn : n < 100000) :
    ∀ r i m y (g : Nat → Dg), i + r = n → 0 < m → m ≤ i → m * 3 ≤ y → So (sl f 0 i) (sl g 0 m) → SoD f n z (RsB (el f) (el g) (i : Int) n m z y GW)
  | 0, i, m, y, g, hi, h0, hm, hy, hg => by
    obtain rfl : i = n := by omega
    exact .inr ⟨g, m, y, h0, hm, hy, hg, Obl.goal (K := Goal P 1 13 _) mix (fun _ h => h) (cast (rBn (fun v h => v = .slg 1 0 0 m 0 ∧ h = HCw f g 0 z y) (el f) (el g) (el zf) (el zf) [] [] 0 0 0 0 ((i : Int)) 0 (i) (m) (z) (y) 0 0 0 false false false GW _).symm ⟨decide_eq_false (by omega), rfl, rfl⟩)⟩
  | r + 1, i, m, y, g, hi, h0, hm, hy, hg => by
    have a1 := agg_el f i
    have hw := up1 i (by omega)
    have hmay := may_ok' (f i)
    have c1 : decide ((i : Int) < ((n : Nat) : Int)) = true := decide_eq_true (by omega)
    have d2 : 0 + ((i : Int)).toNat * 3 + 3 ≤ z := by omega
    have d5 : (0 : Int) ≤ (i : Int) := by omega
    have d6 : (i : Int) < (n : Int) := by omega
    have e : sl f 0 (i + 1) = sl f 0 i ++ [f i] := by rw [sl_snoc, Nat.zero_add]
    by_cases hb : mayB (f i) = true
    · rw [hb] at hmay
      refine (rc_loop hz hn (by omega) h0 hm hy hb hg (fun t ht => ?_) (fun g' m' y' k1 k2 k3 k4 => rb_loop hz hn r (i + 1) m' y' g' (by omega) k1 k2 k3 k4) m 0 (by omega) (fun t ht => absurd ht (by omega))).of fun R h => ?_
      · have k := ((hg.2 _).1 (sl_at g m 0 t (by omega) (by omega))).2
        have k := of_decide_eq_true k
        omega
      · refine Obl.goal (K := Goal P 1 13 _) mix (fun _ h => h) (cast (rByn (R) (el f) (el g) (el zf) (el zf) ((f i).1) [] ((f i).2.1) ((f i).2.2) 0 0 ((i : Int)) 0 (n) (m) (z) (y) 0 0 0 (true) false false GW _).symm ?_)
        repeat' apply And.intro
        all_goals first | assumption | exact a1 | exact el_plain _ | rfl
    · have hb' := hb
      rw [Bool.not_eq_true] at hb
      rw [hb] at hmay
      refine (rb_loop hz hn r (i + 1) m y g (by omega) h0 (by omega) hy (by rw [e]; exact so_skip hg fun h => absurd h hb')).of fun R h => ?_
      rw [← hw] at h
      refine Obl.goal (K := Goal P 1 13 _) mix (fun _ h => h) (cast (rByy (R) (el f) (el g) (el zf) (el zf) ((f i).1) [] ((f i).2.1) ((f i).2.2) 0 0 ((i : Int)) 0 (n) (m) (z) (y) 0 0 0 (false) false false GW _).symm ?_)
      repeat' apply And.intro
      all_goals first | assumption | exact a1 | exact el_plain _ | rfl

theorem ra_loop (hz : n * 3 ≤ z) (hn : n < 100000) :
    ∀ r i, i + r = n → So (sl f 0 i) [] → SoD f n z (RsA (el f) (i : Int) n z GW)
  | 0, i, hi, hg => by
    obtain rfl : i = n := by omega
    exact .inl ⟨hg, Obl.goal (K := Goal P 1 13 _) mix (fun _ h => h) (cast (rAn (fun v h => v = .nils 0 0 ∧ h = HCo f 0 z) (el f) (el zf) (el zf) (el zf) [] [] 0 0 0 0 ((i : Int)) 0 (i) 0 (z) 0 0 0 0 false false false GW _).symm ⟨decide_eq_false (by omega), rfl, rfl⟩)⟩
  | r + 1, i, hi, hg => by
    have a1 := agg_el f i
    have hw := up1 i (by omega)
    have hmay := may_ok' (f i)
    have c1 : decide ((i : Int) < ((n : Nat) : Int)) = true := decide_eq_true (by omega)
    have d2 : 0 + ((i : Int)).toNat * 3 + 3 ≤ z := by omega
    have d5 : (0 : Int) ≤ (i : Int) := by omega
    have d6 : (i : Int) < (n : Int) := by omega
    have e : sl f 0 (i + 1) = sl f 0 i ++ [f i] := by rw [sl_snoc, Nat.zero_add]
    by_cases hb : mayB (f i) = true
    · rw [hb] at hmay
      have hs : So (sl f 0 (i + 1)) (sl (fun _ => f i) 0 1) := by
        rw [e]
        refine ⟨List.pairwise_singleton _ _, fun x => ?_⟩
        show x ∈ [f i] ↔ _
        rw [List.mem_append, List.mem_singleton]
        constructor
        · rintro rfl
          exact ⟨.inr rfl, hb⟩
        · rintro ⟨a | a, b⟩
          · exact absurd ((hg.2 x).2 ⟨a, b⟩) (by simp)
          · exact a
      refine (rb_loop hz hn r (i + 1) 1 3 (fun _ => f i) (by omega) (by omega) (by omega) (by omega) hs).of fun R h => ?_
      rw [← hw] at h
      have t1 := fst_el (f i).1 (f i).2.1 (f i).2.2
      have hd : Goal P 1 13 R (RsD (el f) (i : Int) n z GW) := by
        refine Obl.goal (K := Goal P 1 13 _) mix (fun _ h => h) (cast (rD (R) (el f) (el zf) (el fun _ => f i) (el zf) ((f i).1) [] ((f i).2.1) ((f i).2.2) 0 0 ((i : Int)) 0 (n) 0 (z) 0 (3) 0 0 false false false GW _).symm ?_)
        repeat' apply And.intro
        all_goals first | assumption | exact a1 | exact el_plain _ | rfl
      refine Obl.goal (K := Goal P 1 13 _) mix (fun _ h => h) (cast (rAyn (R) (el f) (el zf) (el zf) (el zf) ((f i).1) [] ((f i).2.1) ((f i).2.2) 0 0 ((i : Int)) 0 (n) 0 (z) 0 0 0 0 (true) false false GW _).symm ?_)
      repeat' apply And.intro
      all_goals first | assumption | exact a1 | exact el_plain _ | rfl
    · have hb' := hb
      rw [Bool.not_eq_true] at hb
      rw [hb] at hmay
      refine (ra_loop hz hn r (i + 1) (by omega) (by rw [e]; exact so_skip hg fun h => absurd h hb')).of fun R h => ?_
      rw [← hw] at h
      refine Obl.goal (K := Goal P 1 13 _) mix (fun _ h => h) (cast (rAyy (R) (el f) (el zf) (el zf) (el zf) ((f i).1) [] ((f i).2.1) ((f i).2.2) 0 0 ((i : Int)) 0 (n) 0 (z) 0 0 0 0 (false) false false GW _).symm ?_)
      repeat' apply And.intro
      all_goals first | assumption | exact a1 | exact el_plain _ | rfl

theorem rsort_ok (hz : n * 3 ≤ z) (hn : n < 100000) : SoD f n z (startH P 13 [.slg 0 0 0 n 0] (HCo f 0 z)) := by
  refine (ra_loop (f := f) hz hn n 0 (by omega) ⟨.nil, fun x => by simp [sl]⟩).of fun R h => ?_
  exact Obl.goal (K := Goal P 1 13 _) mix (fun _ h => h) (cast (rs (R) (el f) (el zf) (el zf) (el zf) [] [] 0 0 0 0 0 0 (n) 0 (z) 0 0 0 0 false false false GW _).symm ⟨el_plain _, h⟩)
end

theorem rsort_nil : Goal P 0 13 (fun v h => v = .nils 0 0 ∧ h = ⟨.leaf, 0, GW⟩) (startM P 13 [.nils 0 0] GW) :=
  Obl.goal (K := Goal P 0 13 _) mix (fun _ h => h) (cast (rn (fun v h => v = .nils 0 0 ∧ h = ⟨.leaf, 0, GW⟩) (el zf) (el zf) (el zf) (el zf) [] [] 0 0 0 0 0 0 0 0 0 0 0 0 0 false false false GW _).symm ⟨rfl, rfl⟩)

/-! ## Bytes -/

theorem rput0 (n : Int) : Goal P 0 51 (fun x _ => x = .str ([] ++ row (IntKind.u64.wrap n))) (startM P 51 [.str [], .int .u64 (IntKind.u64.wrap n)] GW) :=
  rputs [] _ (u64_may n).1 (u64_may n).2 (by show 0 + 9 < _; omega)

theorem er_loop {m z y : Nat} {f f' : Nat → Dg} (hy : m * 3 ≤ y) (hm : m < 100000) (hmay : ∀ i, i < m → mayB (f' i) = true) {S : List UInt8} :
    ∀ r i (s : List UInt8), i + r = m → s.length ≤ 9 + i * 227 → s ++ (sl f' i r).flatMap one = S →
      Goal P 1 15 (fun v h => v = .str S ∧ h = HCo f 0 z) (Er (el f) (el f') s (i : Int) m z y GW)
  | 0, i, s, hi, hs, hS => by
    obtain rfl : i = m := by omega
    obtain rfl : s = S := by rw [← hS]; exact (List.append_nil s).symm
    exact Obl.goal (K := Goal P 1 15 _) mix (fun _ h => h) (cast (edn (fun v h => v = .str s ∧ h = HCo f 0 z) (el f) (el f') (el zf) (el zf) [] [] (s) [] [] [] 0 0 0 0 ((i : Int)) 0 0 (i) 0 (z) (y) 0 0 0 0 false false false GW _).symm ⟨decide_eq_false (by omega), el_plain _, rfl, rfl⟩)
  | r + 1, i, s, hi, hs, hS => by
    have hd := hmay i (by omega)
    have hlen := one_len hd
    have e1 : s ++ row (IntKind.u64.wrap (f' i).1.length) ++ (f' i).1 ++ row (IntKind.u64.wrap (f' i).2.1) ++ row (IntKind.u64.wrap (f' i).2.2) = s ++ one (f' i) := by
      unfold one one2 one1
      simp only [List.append_assoc, List.nil_append]
    have ih := er_loop (z := z) (f := f) hy hm hmay (S := S) r (i + 1) (s ++ one (f' i)) (by omega) (by rw [List.length_append]; omega) (by
      rw [← hS, List.append_assoc]
      congr 1)
    rw [← e1, ← up1 i (by omega)] at ih
    have hb := of_decide_eq_true hd
    have l1 := row_length (IntKind.u64.wrap (f' i).1.length)
    have l2 := row_length (IntKind.u64.wrap (f' i).2.1)
    have p1 := rputt s (f' i).1 (by omega)
    have p2 := rputs (s ++ row (IntKind.u64.wrap (f' i).1.length) ++ (f' i).1) _ (u64_may (f' i).2.1).1 (u64_may (f' i).2.1).2 (by simp only [List.length_append]; omega)
    have p3 := rputs (s ++ row (IntKind.u64.wrap (f' i).1.length) ++ (f' i).1 ++ row (IntKind.u64.wrap (f' i).2.1)) _ (u64_may (f' i).2.2).1 (u64_may (f' i).2.2).2 (by simp only [List.length_append]; omega)
    have c0 := el0 f' i
    have c1 := el1 f' i
    have c2 := el2 f' i
    have d0 : decide ((i : Int) < ((m : Nat) : Int)) = true := decide_eq_true (by omega)
    have d1 : 0 + ((i : Int)).toNat * 3 + 1 ≤ y := by omega
    have d2 : 0 + ((i : Int)).toNat * 3 + 1 + 1 ≤ y := by omega
    have d3 : 0 + ((i : Int)).toNat * 3 + 2 + 1 ≤ y := by omega
    have d5 : (0 : Int) ≤ (i : Int) := by omega
    have d6 : (i : Int) < (m : Int) := by omega
    refine Obl.goal (K := Goal P 1 15 _) mix (fun _ h => h) (cast (er (fun v h => v = .str S ∧ h = HCo f 0 z) (el f) (el f') (el zf) (el zf) ((f' i).1) [] (s) (s ++ row (IntKind.u64.wrap (f' i).1.length) ++ (f' i).1) (s ++ row (IntKind.u64.wrap (f' i).1.length) ++ (f' i).1 ++ row (IntKind.u64.wrap (f' i).2.1)) (s ++ row (IntKind.u64.wrap (f' i).1.length) ++ (f' i).1 ++ row (IntKind.u64.wrap (f' i).2.1) ++ row (IntKind.u64.wrap (f' i).2.2)) ((f' i).2.1) ((f' i).2.2) 0 0 ((i : Int)) 0 0 (m) 0 (z) (y) 0 0 0 0 false false false GW _).symm ?_)
    repeat' apply And.intro
    all_goals first | assumption | exact c0 | exact c1 | exact c2 | exact el_plain _ | rfl

theorem renc_ok {z n : Nat} {f : Nat → Dg} (hz : n * 3 ≤ z) (hn : n < 100000) {l : List Dg} (hl : So (sl f 0 n) l) :
    Goal P 1 15 (fun v h => v = .str (encL l) ∧ h = HCo f 0 z) (startH P 15 [.slg 0 0 0 n 0] (HCo f 0 z)) := by
  rcases rsort_ok (z := z) (n := n) (f := f) hz hn with ⟨h1, h2⟩ | ⟨f', k, y, h1, h2, h3, h4, h5⟩
  · obtain rfl : l = [] := So.uniq hl h1 fun _ => Iff.rfl
    have e : encL [] = [] ++ row 0 := by unfold encL; rw [List.flatMap_nil, List.append_nil]; rfl
    have h51 := rputs [] 0 (by omega) (by omega) (by show 0 + 9 < _; omega)
    rw [e]
    have hk : Goal P 1 15 (fun v h => v = .str ([] ++ row 0) ∧ h = HCo f 0 z) (Ez (el f) ([] ++ row 0) z GW) := Obl.goal (K := Goal P 1 15 _) mix (fun _ h => h) (cast (ezd (fun v h => v = .str ([] ++ row 0) ∧ h = HCo f 0 z) (el f) (el zf) (el zf) (el zf) [] [] ([] ++ row 0) [] [] [] 0 0 0 0 0 0 0 0 0 (z) 0 0 0 0 0 false false false GW _).symm ⟨el_plain _, rfl, rfl⟩)
    refine Obl.goal (K := Goal P 1 15 _) mix (fun _ h => h) (cast (ez (fun v h => v = .str ([] ++ row 0) ∧ h = HCo f 0 z) (el f) (el zf) (el zf) (el zf) [] [] [] ([] ++ row 0) [] [] 0 0 0 0 0 0 (n) 0 0 (z) 0 0 0 0 0 false false false GW _).symm ?_)
    repeat' apply And.intro
    all_goals first | assumption | exact el_plain _ | rfl
  · obtain rfl : l = sl f' 0 k := So.uniq hl h4 fun _ => Iff.rfl
    have h51 := rput0 (k : Nat)
    have hlr := row_length (IntKind.u64.wrap (k : Nat))
    have hloop := er_loop (z := z) (y := y) (f := f) (f' := f') (m := k) h3 (by omega) (fun i hi => ((h4.2 _).1 (sl_at f' k 0 i (by omega) (by omega))).2) (S := encL (sl f' 0 k)) k 0 ([] ++ row (IntKind.u64.wrap (k : Nat))) (by omega) (by rw [List.length_append]; show 0 + _ ≤ _; omega) (by
      unfold encL
      rw [sl_len, natw k (by omega)])
    refine Obl.goal (K := Goal P 1 15 _) mix (fun _ h => h) (cast (es (fun v h => v = .str (encL (sl f' 0 k)) ∧ h = HCo f 0 z) (el f) (el f') (el zf) (el zf) [] [] [] ([] ++ row (IntKind.u64.wrap (k : Nat))) [] [] 0 0 0 0 0 0 (n) (k) 0 (z) (y) 0 0 0 0 false false false GW _).symm ?_)
    repeat' apply And.intro
    all_goals first | assumption | exact el_plain _ | rfl

theorem renc_nil : Goal P 0 15 (fun v h => v = .str (encL []) ∧ h = ⟨.leaf, 0, GW⟩) (startM P 15 [.nils 0 0] GW) := by
  have e : encL [] = [] ++ row 0 := by unfold encL; rw [List.flatMap_nil, List.append_nil]; rfl
  rw [e]
  exact Obl.goal (K := Goal P 0 15 _) mix (fun _ h => h) (cast (en (fun v h => v = .str ([] ++ row 0) ∧ h = ⟨.leaf, 0, GW⟩) (el zf) (el zf) (el zf) (el zf) [] [] [] ([] ++ row 0) [] [] 0 0 0 0 0 0 0 0 0 0 0 0 0 0 0 false false false GW _).symm ⟨rsort_nil, rputs [] 0 (by omega) (by omega) (by show 0 + 9 < _; omega), rfl, rfl⟩)

/-! ## Alike -/

theorem ne_raw {a b : AV} {x y : Dg} {t : Bool} (ha : a = .agg [.str x.1, .int .i64 x.2.1, .int .i64 x.2.2]) (hb : b = .agg [.str y.1, .int .i64 y.2.1, .int .i64 y.2.2]) (e : x = y) (h : AHeap) : binA P h .neq 35 t a b = some (.bool false) := by
  rw [ha, hb, ne35, decide_eq_true e]
  rfl

theorem alike_loop {z y n : Nat} {f g : Nat → Dg} (hz : n * 3 ≤ z) (hy : n * 3 ≤ y) (hn : n < 100000) (he : ∀ i, i < n → f i = g i) :
    ∀ r i, i + r = n → Goal P 2 11 (fun v h => v = .bool true ∧ h = HS f g z y) (Sc (el f) (el g) (i : Int) n n z y GW)
  | 0, i, hi => by
    obtain rfl : i = n := by omega
    exact Obl.goal (K := Goal P 2 11 _) mix (fun _ h => h) (cast (scln (fun v h => v = .bool true ∧ h = HS f g z y) (el f) (el g) (el zf) (el zf) [] [] [] [] [] [] 0 0 0 0 ((i : Int)) 0 (i) (i) 0 (z) (y) 0 0 0 0 false false false GW _).symm ⟨decide_eq_false (by omega), rfl, rfl⟩)
  | r + 1, i, hi => by
    have ih := alike_loop (f := f) (g := g) hz hy hn he r (i + 1) (by omega)
    rw [← up1 i (by omega)] at ih
    have d0 : decide ((i : Int) < ((n : Nat) : Int)) = true := decide_eq_true (by omega)
    have d1 : 0 + ((i : Int)).toNat * 3 + 3 ≤ z := by omega
    have d2 : 0 + ((i : Int)).toNat * 3 + 3 ≤ y := by omega
    have d5 : (0 : Int) ≤ (i : Int) := by omega
    have d6 : (i : Int) < (n : Int) := by omega
    have a1 := agg_el f i
    have a2 := agg_el g i
    refine Obl.goal (K := Goal P 2 11 _) mix (fun _ h => h) (cast (sclyn (fun v h => v = .bool true ∧ h = HS f g z y) (el f) (el g) (el zf) (el zf) [] [] [] [] [] [] 0 0 0 0 ((i : Int)) 0 (n) (n) 0 (z) (y) 0 0 0 0 (false) false false GW _).symm ?_)
    repeat' apply And.intro
    all_goals first | assumption | exact el_plain _ | exact fun h => ne_raw a1 a2 (he i (by omega)) h | rfl

theorem alike_ok {z y n : Nat} {f g : Nat → Dg} (hz : n * 3 ≤ z) (hy : n * 3 ≤ y) (hn : n < 100000) (he : sl f 0 n = sl g 0 n) :
    Goal P 2 11 (fun v h => v = .bool true ∧ h = HS f g z y) (startH P 11 [.slg 0 0 0 n 0, .slg 1 0 0 n 0] (HS f g z y)) := by
  have hl := alike_loop (z := z) (y := y) (f := f) (g := g) hz hy hn (fun i hi => by
      have h1 := sl_get f n 0 i hi
      rw [he, sl_get g n 0 i hi, Nat.zero_add] at h1
      exact (Option.some.inj h1).symm) n 0 (by omega)
  have d0 : (((n : Nat) : Int) != ((n : Nat) : Int)) = false := by simp
  refine Obl.goal (K := Goal P 2 11 _) mix (fun _ h => h) (cast (scn (fun v h => v = .bool true ∧ h = HS f g z y) (el f) (el g) (el zf) (el zf) [] [] [] [] [] [] 0 0 0 0 0 0 (n) (n) 0 (z) (y) 0 0 0 0 false false false GW _).symm ?_)
  repeat' apply And.intro
  all_goals first | assumption | exact el_plain _ | rfl

noncomputable def HM (f g : Nat → Dg) (off z y : Nat) : AHeap := ⟨(.node (.node .leaf (some (.cells (.fn fun c => some (el g c)) y 35 0 0 1 0 false .leaf)) .leaf) (some (.ro (.fn fun c => some (elo f off c)) off z)) .leaf), 2, GW⟩

theorem same_row_loop {off z y n cp : Nat} {f g : Nat → Dg} (hz : off + n * 3 ≤ z) (hy : n * 3 ≤ y) (hn : n < 100000) (he : ∀ i, i < n → f i = g i) :
    ∀ r i, i + r = n → Goal P 2 11 (fun v h => v = .bool true ∧ h = HM f g off z y) (Sr (elo f off) (el g) (i : Int) n n cp z y off off GW)
  | 0, i, hi => by
    obtain rfl : i = n := by omega
    exact Obl.goal (K := Goal P 2 11 _) mix (fun _ h => h) (cast (srln (fun v h => v = .bool true ∧ h = HM f g off z y) (elo f off) (el g) (el zf) (el zf) [] [] [] [] [] [] 0 0 0 0 ((i : Int)) 0 (i) (i) (cp) (z) (y) 0 (off) (off) 0 false false false GW _).symm ⟨decide_eq_false (by omega), rfl, rfl⟩)
  | r + 1, i, hi => by
    have ih := same_row_loop (f := f) (g := g) (cp := cp) hz hy hn he r (i + 1) (by omega)
    rw [← up1 i (by omega)] at ih
    have d0 : decide ((i : Int) < ((n : Nat) : Int)) = true := decide_eq_true (by omega)
    have d1 : off + ((i : Int)).toNat * 3 + 3 ≤ z := by omega
    have d2 : 0 + ((i : Int)).toNat * 3 + 3 ≤ y := by omega
    have d3 : off ≤ off + ((i : Int)).toNat * 3 := by omega
    have d5 : (0 : Int) ≤ (i : Int) := by omega
    have d6 : (i : Int) < (n : Int) := by omega
    have a1 := agg_elo f off i
    have a2 := agg_el g i
    refine Obl.goal (K := Goal P 2 11 _) mix (fun _ h => h) (cast (srlyn (fun v h => v = .bool true ∧ h = HM f g off z y) (elo f off) (el g) (el zf) (el zf) [] [] [] [] [] [] 0 0 0 0 ((i : Int)) 0 (n) (n) (cp) (z) (y) 0 (off) (off) 0 (false) false false GW _).symm ?_)
    repeat' apply And.intro
    all_goals first | assumption | exact el_plain _ | exact fun h => ne_raw a1 a2 (he i (by omega)) h | rfl

theorem same_row {off z y n cp : Nat} {f g : Nat → Dg} (hz : off + n * 3 ≤ z) (hy : n * 3 ≤ y) (hn : n < 100000) (he : ∀ i, i < n → f i = g i) :
    Goal P 2 11 (fun v h => v = .bool true ∧ h = HM f g off z y) (startH P 11 [.slc 0 0 off n cp, .slg 1 0 0 n 0] (HM f g off z y)) := by
  have hl := same_row_loop (off := off) (z := z) (y := y) (cp := cp) (f := f) (g := g) hz hy hn he n 0 (by omega)
  have d0 : (((n : Nat) : Int) != ((n : Nat) : Int)) = false := by simp
  refine Obl.goal (K := Goal P 2 11 _) mix (fun _ h => h) (cast (srn (fun v h => v = .bool true ∧ h = HM f g off z y) (elo f off) (el g) (el zf) (el zf) [] [] [] [] [] [] 0 0 0 0 0 0 (n) (n) (cp) (z) (y) 0 (off) (off) 0 false false false GW _).symm ?_)
  repeat' apply And.intro
  all_goals first | assumption | exact el_plain _ | rfl

end Go.Proofs.YtdbfpjgnlfejmaaDoor.dg
