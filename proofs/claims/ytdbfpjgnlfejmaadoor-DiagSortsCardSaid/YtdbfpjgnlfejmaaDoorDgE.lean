/- The bytes of a list of diagnostics, whatever its length. -/
import Derived.Test.YtdbfpjgnlfejmaaDoorDgD
set_option maxRecDepth 100000
set_option linter.unusedVariables false
namespace Go.Proofs.YtdbfpjgnlfejmaaDoor.dg
open Go Ev mq

noncomputable def BS : Nat := P.types[5].size
theorem BS_eq : BS = 1 := by kernel_rfl

noncomputable def ERa (cell cell' : Nat → AV) (s : List UInt8) (L : Nat) (i : Int) (m lo z y N : Nat) (G : T (T AV)) : AM := ⟨⟨14, 34, (.node (.node (.node (.node (.node .leaf (some (.int .i64 (↑m : Int))) .leaf) none .leaf) none .leaf) none .leaf) none (.node (.node (.node (.node .leaf (some (.int .i64 i)) .leaf) none .leaf) (some (.ptr 1 0 0)) .leaf) none (.node .leaf none (.node .leaf (some (.slg 2 0 0 m 0)) .leaf)))),
   [.code (cd P (14 : Nat) [(1 : Nat), (1 : Nat), (1 : Nat), (1 : Nat), (0 : Nat), (1 : Nat), (0 : Nat), (0 : Nat)]), .inLoop (cd P (14 : Nat) [(1 : Nat), (1 : Nat), (1 : Nat), (1 : Nat), (0 : Nat), (1 : Nat), (0 : Nat), (0 : Nat)]), .inBlock 0, .code (cd P (14 : Nat) [(1 : Nat), (1 : Nat), (1 : Nat), (1 : Nat), (1 : Nat)])], [], .run, CallKind.normal, none⟩,
  [],
  ⟨(.node (.node (.node .leaf (some (.cells (.fn fun k => some (AV.int IntKind.u8 (↑(s.getD k (0 : UInt8)).toNat : Int))) N 5 0 0 1 0 false .leaf)) .leaf) (some (.cells (.node (.node .leaf (some (.slg 3 0 0 L 0)) .leaf) (some (.ptr 1 0 0)) .leaf) 2 69 0 0 1 0 false .leaf)) .leaf) (some (.ro (.fn fun c => some (cell c)) lo z)) (.node .leaf (some (.cells (.fn fun c => some (cell' c)) y 35 0 0 1 0 false .leaf)) .leaf)), 4, G⟩⟩
noncomputable def ERn (cell : Nat → AV) (s : List UInt8) (L lo z N : Nat) (G : T (T AV)) : AM := ⟨⟨14, 34, (.node (.node (.node (.node (.node .leaf (some (.int .i64 0)) .leaf) none .leaf) none .leaf) none .leaf) none (.node (.node (.node (.node .leaf (some (.int .i64 0)) .leaf) none .leaf) (some (.ptr 1 0 0)) .leaf) none (.node .leaf none (.node .leaf (some (.nils 0 0)) .leaf)))),
   [.code (cd P (14 : Nat) [(1 : Nat), (1 : Nat), (1 : Nat), (1 : Nat), (0 : Nat), (1 : Nat), (0 : Nat), (0 : Nat)]), .inLoop (cd P (14 : Nat) [(1 : Nat), (1 : Nat), (1 : Nat), (1 : Nat), (0 : Nat), (1 : Nat), (0 : Nat), (0 : Nat)]), .inBlock 0, .code (cd P (14 : Nat) [(1 : Nat), (1 : Nat), (1 : Nat), (1 : Nat), (1 : Nat)])], [], .run, CallKind.normal, none⟩,
  [],
  ⟨(.node (.node .leaf (some (.cells (.node (.node .leaf (some (.slg 2 0 0 L 0)) .leaf) (some (.ptr 1 0 0)) .leaf) 2 69 0 0 1 0 false .leaf)) .leaf) (some (.ro (.fn fun c => some (cell c)) lo z)) (.node .leaf (some (.cells (.fn fun k => some (AV.int IntKind.u8 (↑(s.getD k (0 : UInt8)).toNat : Int))) N 5 0 0 1 0 false .leaf)) .leaf)), 3, G⟩⟩
noncomputable def ECa (cell cell' : Nat → AV) (s : List UInt8) (L : Nat) (i : Int) (m lo z y N : Nat) (G : T (T AV)) : AM := ⟨⟨14, 34, (.node (.node (.node (.node (.node .leaf (some (.int .i64 (↑m : Int))) .leaf) none .leaf) none .leaf) none .leaf) none (.node (.node (.node (.node .leaf (some (.int .i64 i)) .leaf) none .leaf) (some (.ptr 1 0 0)) .leaf) none (.node .leaf none (.node .leaf (some (.slg 2 0 0 m 0)) .leaf)))),
   [.code (cd P (14 : Nat) [(1 : Nat), (1 : Nat), (1 : Nat), (1 : Nat), (0 : Nat), (1 : Nat), (0 : Nat), (0 : Nat)]), .inLoop (cd P (14 : Nat) [(1 : Nat), (1 : Nat), (1 : Nat), (1 : Nat), (0 : Nat), (1 : Nat), (0 : Nat), (0 : Nat)]), .inBlock 0, .code (cd P (14 : Nat) [(1 : Nat), (1 : Nat), (1 : Nat), (1 : Nat), (1 : Nat)])], [], .run, CallKind.normal, none⟩,
  [],
  ⟨(.node (.node (.node .leaf (some (.cells (.fn fun k => some (AV.int IntKind.u8 (↑(s.getD k (0 : UInt8)).toNat : Int))) N 5 0 0 1 0 false .leaf)) .leaf) (some (.cells (.node (.node .leaf (some (.slg 3 0 0 L 0)) .leaf) (some (.ptr 1 0 0)) .leaf) 2 69 0 0 1 0 false .leaf)) .leaf) (some (.cells (.fn fun c => some (cell c)) z 35 0 0 1 0 false .leaf)) (.node .leaf (some (.cells (.fn fun c => some (cell' c)) y 35 0 0 1 0 false .leaf)) .leaf)), 4, G⟩⟩
noncomputable def ECn (cell : Nat → AV) (s : List UInt8) (L lo z N : Nat) (G : T (T AV)) : AM := ⟨⟨14, 34, (.node (.node (.node (.node (.node .leaf (some (.int .i64 0)) .leaf) none .leaf) none .leaf) none .leaf) none (.node (.node (.node (.node .leaf (some (.int .i64 0)) .leaf) none .leaf) (some (.ptr 1 0 0)) .leaf) none (.node .leaf none (.node .leaf (some (.nils 0 0)) .leaf)))),
   [.code (cd P (14 : Nat) [(1 : Nat), (1 : Nat), (1 : Nat), (1 : Nat), (0 : Nat), (1 : Nat), (0 : Nat), (0 : Nat)]), .inLoop (cd P (14 : Nat) [(1 : Nat), (1 : Nat), (1 : Nat), (1 : Nat), (0 : Nat), (1 : Nat), (0 : Nat), (0 : Nat)]), .inBlock 0, .code (cd P (14 : Nat) [(1 : Nat), (1 : Nat), (1 : Nat), (1 : Nat), (1 : Nat)])], [], .run, CallKind.normal, none⟩,
  [],
  ⟨(.node (.node .leaf (some (.cells (.node (.node .leaf (some (.slg 2 0 0 L 0)) .leaf) (some (.ptr 1 0 0)) .leaf) 2 69 0 0 1 0 false .leaf)) .leaf) (some (.cells (.fn fun c => some (cell c)) z 35 0 0 1 0 false .leaf)) (.node .leaf (some (.cells (.fn fun k => some (AV.int IntKind.u8 (↑(s.getD k (0 : UInt8)).toNat : Int))) N 5 0 0 1 0 false .leaf)) .leaf)), 3, G⟩⟩

theorem esR (R : AV → AHeap → Prop) (cell cell' : Nat → AV) (u u' : Nat → Int) (s p w t t2 : List UInt8) (a c i : Int) (n m cp z y lo off N L : Nat) (b : Bool) (G : T (T AV)) (K : AM → Prop) : Obl P 14 (fun v h => R v h) 1 K [.run 8, (.callh [(0, 0, [])] [0] (.slg 1 0 0 m 0) ⟨(.node (.node .leaf (some (.cells (.fn fun c => some (cell' c)) y 35 0 0 1 0 false .leaf)) .leaf) (some (.ro (.fn fun c => some (cell c)) lo z)) .leaf), 2, G⟩), .run 12, (.callv [0, 1] (.str w)), .run 40, .opw false, .run 23, .can 1 [0, 2, 1, 3] [4, 14, 15, 16] []] ((startH P 14 [.slc 0 0 off n cp] ⟨(.node .leaf (some (.ro (.fn fun c => some (cell c)) lo z)) .leaf), 1, G⟩)) = ((PlainFn fun c => some (cell' c)) ∧ (Goal P (1) 12 (fun x k => x = AV.slg 1 0 0 m 0 ∧ k = { objs := (T.leaf.node (some (AObj.cells (T.fn fun c => some (cell' c)) y (35 : TypeId) 0 0 1 0 false T.leaf)) T.leaf).node (some (AObj.ro (T.fn fun c => some (cell c)) lo z)) T.leaf, next := 2, glob := G }) (startH P 12 [.slc 0 0 off n cp] ⟨(.node .leaf (some (.ro (.fn fun c => some (cell c)) lo z)) .leaf), 1, G⟩)) ∧ (Goal P (0) 48 (fun x _ => x = AV.str w) (startM P 48 [.str [], .int .u64 (IntKind.u64.wrap (↑m : Int))] G)) ∧ (w.length ≤ w.length ∧ 0 < w.length ∧ roomA w.length (1) = true) ∧ (PlainFn fun c => some (cell' c)) ∧ (PlainFn fun k => some (AV.int IntKind.u8 (↑(w.getD k (0 : UInt8)).toNat : Int))) ∧ K (ERa cell cell' w w.length (Int.ofNat (0)) m lo z y (w.length * 1) G)) := by kernel_rfl

theorem ezR (R : AV → AHeap → Prop) (cell cell' : Nat → AV) (u u' : Nat → Int) (s p w t t2 : List UInt8) (a c i : Int) (n m cp z y lo off N L : Nat) (b : Bool) (G : T (T AV)) (K : AM → Prop) : Obl P 14 (fun v h => R v h) 1 K [.run 8, (.callh [(0, 0, [])] [0] (.nils 0 0) ⟨(.node .leaf (some (.ro (.fn fun c => some (cell c)) lo z)) .leaf), 1, G⟩), .run 12, (.callv [0, 1] (.str w)), .run 40, .opw false, .run 23, .can 1 [0, 1, 2] [4, 14, 15, 16] []] ((startH P 14 [.slc 0 0 off n cp] ⟨(.node .leaf (some (.ro (.fn fun c => some (cell c)) lo z)) .leaf), 1, G⟩)) = ((Goal P (1) 12 (fun x k => x = AV.nils 0 0 ∧ k = { objs := T.leaf.node (some (AObj.ro (T.fn fun c => some (cell c)) lo z)) T.leaf, next := 1, glob := G }) (startH P 12 [.slc 0 0 off n cp] ⟨(.node .leaf (some (.ro (.fn fun c => some (cell c)) lo z)) .leaf), 1, G⟩)) ∧ (Goal P (0) 48 (fun x _ => x = AV.str w) (startM P 48 [.str [], .int .u64 0] G)) ∧ (w.length ≤ w.length ∧ 0 < w.length ∧ roomA w.length (1) = true) ∧ (PlainFn fun k => some (AV.int IntKind.u8 (↑(w.getD k (0 : UInt8)).toNat : Int))) ∧ K (ERn cell w w.length lo z (w.length * 1) G)) := by kernel_rfl

theorem eyRy (R : AV → AHeap → Prop) (cell cell' : Nat → AV) (u u' : Nat → Int) (s p w t t2 : List UInt8) (a c i : Int) (n m cp z y lo off N L : Nat) (b : Bool) (G : T (T AV)) (K : AM → Prop) : Obl P 14 (fun v h => R v h) 1 K [.run 5, .know 17 true, .run 6, .op, .op, .slot 19 (.agg [.str p, .int .i64 a, .int .i64 c]), .run 13, (.callv [0, 1] (.str w)), .run 1, (.callv [0, 1] (.str t)), .run 1, (.callv [0, 1] (.str t2)), .run 41, .opw false, .run 20, .told 3 (.fn fun k => some (AV.int IntKind.u8 (↑((s ++ t2).getD k (0 : UInt8)).toNat : Int))) (s ++ t2).length, .can 1 [0, 1, 2, 3] [4, 14, 15, 16] []] ((ERa cell cell' s L i m lo z y N G)) = ((decide (i < (↑m : Int)) = true) ∧ ((0 : Int) ≤ i ∧ i < (↑m : Int)) ∧ (0 + i.toNat * 3 + 3 ≤ y) ∧ (AV.agg [cell' (0 + i.toNat * 3), cell' (0 + i.toNat * 3 + 1), cell' (0 + i.toNat * 3 + 2)] = AV.agg [AV.str p, AV.int IntKind.i64 a, AV.int IntKind.i64 c]) ∧ (Goal P (0) 49 (fun x _ => x = AV.str w) (startM P 49 [.str [], .str p] G)) ∧ (some (AV.int IntKind.u64 (IntKind.u64.wrap c)) = some (AV.int IntKind.u64 (IntKind.u64.wrap c))) ∧ (some (AV.int IntKind.i64 c) = some (AV.int IntKind.i64 c)) ∧ (some (AV.int IntKind.u64 (IntKind.u64.wrap a)) = some (AV.int IntKind.u64 (IntKind.u64.wrap a))) ∧ (some (AV.int IntKind.i64 a) = some (AV.int IntKind.i64 a)) ∧ (Goal P (0) 48 (fun x _ => x = AV.str t) (startM P 48 [.str w, .int .u64 (IntKind.u64.wrap a)] G)) ∧ (some (AV.int IntKind.u64 (IntKind.u64.wrap c)) = some (AV.int IntKind.u64 (IntKind.u64.wrap c))) ∧ (some (AV.int IntKind.i64 c) = some (AV.int IntKind.i64 c)) ∧ (Goal P (0) 48 (fun x _ => x = AV.str t2) (startM P 48 [.str t, .int .u64 (IntKind.u64.wrap c)] G)) ∧ (t2.length ≤ t2.length ∧ 0 < t2.length ∧ 0 + L * 1 ≤ N ∧ 0 ≤ 0 + L * 1 ∧ 0 = 0 * BS ∧ roomA (L + t2.length) (1) = true ∧ N < 0 + (L + t2.length) * 1) ∧ (Tells ((s ++ t2).length) ((.fn fun k => some (AV.int IntKind.u8 (↑((s ++ t2).getD k (0 : UInt8)).toNat : Int)))) ((.fn fun k => bif (0 + L * BS).ble k && k.blt (0 + L * BS + t2.length * BS) then (fun k => some (AV.int IntKind.u8 (↑(t2.getD k (0 : UInt8)).toNat : Int))) (k - (0 + L * BS)) else (T.fn fun k => some (AV.int IntKind.u8 (↑(s.getD k (0 : UInt8)).toNat : Int))).get k))) ∧ ((s ++ t2).length = 0 + L * 1 + t2.length * 1) ∧ (PlainFn fun c => some (cell' c)) ∧ (PlainFn fun k => some (AV.int IntKind.u8 (↑((s ++ t2).getD k (0 : UInt8)).toNat : Int))) ∧ K (ERa cell cell' (s ++ t2) (L + t2.length) (IntKind.i64.wrap (i + (1 : Int))) m lo z y (s ++ t2).length G)) := by kernel_rfl

theorem exRn (R : AV → AHeap → Prop) (cell cell' : Nat → AV) (u u' : Nat → Int) (s p w t t2 : List UInt8) (a c i : Int) (n m cp z y lo off N L : Nat) (b : Bool) (G : T (T AV)) (_K : AM → Prop) : Obl P 14 (fun v h => R v h) 1 _K [.run 5, .know 17 false, .run 15, .slot 6 (.slg 3 0 0 (n + 1) 0), .run 6, .ext s, .run 7, .can 1 [0] [2] [], .done] ((ERa cell cell' s L i m lo z y N G)) = ((decide (i < (↑m : Int)) = false) ∧ (AV.slg (3) (0) (0) L (0) = AV.slg (3) (0) (0) (n + 1) (0)) ∧ ((0 : Int) < (↑L : Int) ∧ (↑L : Int) < (2 : Int) ^ 40 ∧ (↑L : Int).toNat ≤ N ∧ P.cellsOf (5) = 1 ∧ cellsStr (loadList (T.fn fun k => some (AV.int IntKind.u8 (↑(s.getD k (0 : UInt8)).toNat : Int))) 0 (↑L : Int).toNat) = some (AV.str s)) ∧ (R (.str s) (⟨(.node .leaf (some (.ro (.fn fun c => some (cell c)) lo z)) .leaf), 1, G⟩))) := by kernel_rfl

theorem enR (R : AV → AHeap → Prop) (cell cell' : Nat → AV) (u u' : Nat → Int) (s p w t t2 : List UInt8) (a c i : Int) (n m cp z y lo off N L : Nat) (b : Bool) (G : T (T AV)) (_K : AM → Prop) : Obl P 14 (fun v h => R v h) 1 _K [.run 20, .slot 6 (.slg 2 0 0 (n + 1) 0), .run 6, .ext s, .run 7, .can 1 [0] [2] [], .done] ((ERn cell s L lo z N G)) = ((AV.slg (2) (0) (0) L (0) = AV.slg (2) (0) (0) (n + 1) (0)) ∧ ((0 : Int) < (↑L : Int) ∧ (↑L : Int) < (2 : Int) ^ 40 ∧ (↑L : Int).toNat ≤ N ∧ P.cellsOf (5) = 1 ∧ cellsStr (loadList (T.fn fun k => some (AV.int IntKind.u8 (↑(s.getD k (0 : UInt8)).toNat : Int))) 0 (↑L : Int).toNat) = some (AV.str s)) ∧ (R (.str s) (⟨(.node .leaf (some (.ro (.fn fun c => some (cell c)) lo z)) .leaf), 1, G⟩))) := by kernel_rfl

theorem esC (R : AV → AHeap → Prop) (cell cell' : Nat → AV) (u u' : Nat → Int) (s p w t t2 : List UInt8) (a c i : Int) (n m cp z y lo off N L : Nat) (b : Bool) (G : T (T AV)) (K : AM → Prop) : Obl P 14 (fun v h => R v h) 1 K [.run 8, (.callh [(0, 0, [])] [0] (.slg 1 0 0 m 0) ⟨(.node (.node .leaf (some (.cells (.fn fun c => some (cell' c)) y 35 0 0 1 0 false .leaf)) .leaf) (some (.cells (.fn fun c => some (cell c)) z 35 0 0 1 0 false .leaf)) .leaf), 2, G⟩), .run 12, (.callv [0, 1] (.str w)), .run 40, .opw false, .run 23, .can 1 [0, 2, 1, 3] [4, 14, 15, 16] []] ((startH P 14 [.slg 0 0 0 n 0] ⟨(.node .leaf (some (.cells (.fn fun c => some (cell c)) z 35 0 0 1 0 false .leaf)) .leaf), 1, G⟩)) = ((PlainFn fun c => some (cell c)) ∧ (PlainFn fun c => some (cell c)) ∧ (PlainFn fun c => some (cell' c)) ∧ (Goal P (1) 12 (fun x k => x = AV.slg 1 0 0 m 0 ∧ k = { objs := (T.leaf.node (some (AObj.cells (T.fn fun c => some (cell' c)) y (35 : TypeId) 0 0 1 0 false T.leaf)) T.leaf).node (some (AObj.cells (T.fn fun c => some (cell c)) z (35 : TypeId) 0 0 1 0 false T.leaf)) T.leaf, next := 2, glob := G }) (startH P 12 [.slg 0 0 0 n 0] ⟨(.node .leaf (some (.cells (.fn fun c => some (cell c)) z 35 0 0 1 0 false .leaf)) .leaf), 1, G⟩)) ∧ (Goal P (0) 48 (fun x _ => x = AV.str w) (startM P 48 [.str [], .int .u64 (IntKind.u64.wrap (↑m : Int))] G)) ∧ (w.length ≤ w.length ∧ 0 < w.length ∧ roomA w.length (1) = true) ∧ (PlainFn fun c => some (cell c)) ∧ (PlainFn fun c => some (cell' c)) ∧ (PlainFn fun k => some (AV.int IntKind.u8 (↑(w.getD k (0 : UInt8)).toNat : Int))) ∧ K (ECa cell cell' w w.length (Int.ofNat (0)) m cp z y (w.length * 1) G)) := by kernel_rfl

theorem ezC (R : AV → AHeap → Prop) (cell cell' : Nat → AV) (u u' : Nat → Int) (s p w t t2 : List UInt8) (a c i : Int) (n m cp z y lo off N L : Nat) (b : Bool) (G : T (T AV)) (K : AM → Prop) : Obl P 14 (fun v h => R v h) 1 K [.run 8, (.callh [(0, 0, [])] [0] (.nils 0 0) ⟨(.node .leaf (some (.cells (.fn fun c => some (cell c)) z 35 0 0 1 0 false .leaf)) .leaf), 1, G⟩), .run 12, (.callv [0, 1] (.str w)), .run 40, .opw false, .run 23, .can 1 [0, 1, 2] [4, 14, 15, 16] []] ((startH P 14 [.slg 0 0 0 n 0] ⟨(.node .leaf (some (.cells (.fn fun c => some (cell c)) z 35 0 0 1 0 false .leaf)) .leaf), 1, G⟩)) = ((PlainFn fun c => some (cell c)) ∧ (PlainFn fun c => some (cell c)) ∧ (Goal P (1) 12 (fun x k => x = AV.nils 0 0 ∧ k = { objs := T.leaf.node (some (AObj.cells (T.fn fun c => some (cell c)) z (35 : TypeId) 0 0 1 0 false T.leaf)) T.leaf, next := 1, glob := G }) (startH P 12 [.slg 0 0 0 n 0] ⟨(.node .leaf (some (.cells (.fn fun c => some (cell c)) z 35 0 0 1 0 false .leaf)) .leaf), 1, G⟩)) ∧ (Goal P (0) 48 (fun x _ => x = AV.str w) (startM P 48 [.str [], .int .u64 0] G)) ∧ (w.length ≤ w.length ∧ 0 < w.length ∧ roomA w.length (1) = true) ∧ (PlainFn fun c => some (cell c)) ∧ (PlainFn fun k => some (AV.int IntKind.u8 (↑(w.getD k (0 : UInt8)).toNat : Int))) ∧ K (ECn cell w w.length cp z (w.length * 1) G)) := by kernel_rfl

theorem eyCy (R : AV → AHeap → Prop) (cell cell' : Nat → AV) (u u' : Nat → Int) (s p w t t2 : List UInt8) (a c i : Int) (n m cp z y lo off N L : Nat) (b : Bool) (G : T (T AV)) (K : AM → Prop) : Obl P 14 (fun v h => R v h) 1 K [.run 5, .know 17 true, .run 6, .op, .op, .slot 19 (.agg [.str p, .int .i64 a, .int .i64 c]), .run 13, (.callv [0, 1] (.str w)), .run 1, (.callv [0, 1] (.str t)), .run 1, (.callv [0, 1] (.str t2)), .run 41, .opw false, .run 20, .told 3 (.fn fun k => some (AV.int IntKind.u8 (↑((s ++ t2).getD k (0 : UInt8)).toNat : Int))) (s ++ t2).length, .can 1 [0, 1, 2, 3] [4, 14, 15, 16] []] ((ECa cell cell' s L i m lo z y N G)) = ((decide (i < (↑m : Int)) = true) ∧ ((0 : Int) ≤ i ∧ i < (↑m : Int)) ∧ (0 + i.toNat * 3 + 3 ≤ y) ∧ (AV.agg [cell' (0 + i.toNat * 3), cell' (0 + i.toNat * 3 + 1), cell' (0 + i.toNat * 3 + 2)] = AV.agg [AV.str p, AV.int IntKind.i64 a, AV.int IntKind.i64 c]) ∧ (Goal P (0) 49 (fun x _ => x = AV.str w) (startM P 49 [.str [], .str p] G)) ∧ (some (AV.int IntKind.u64 (IntKind.u64.wrap c)) = some (AV.int IntKind.u64 (IntKind.u64.wrap c))) ∧ (some (AV.int IntKind.i64 c) = some (AV.int IntKind.i64 c)) ∧ (some (AV.int IntKind.u64 (IntKind.u64.wrap a)) = some (AV.int IntKind.u64 (IntKind.u64.wrap a))) ∧ (some (AV.int IntKind.i64 a) = some (AV.int IntKind.i64 a)) ∧ (Goal P (0) 48 (fun x _ => x = AV.str t) (startM P 48 [.str w, .int .u64 (IntKind.u64.wrap a)] G)) ∧ (some (AV.int IntKind.u64 (IntKind.u64.wrap c)) = some (AV.int IntKind.u64 (IntKind.u64.wrap c))) ∧ (some (AV.int IntKind.i64 c) = some (AV.int IntKind.i64 c)) ∧ (Goal P (0) 48 (fun x _ => x = AV.str t2) (startM P 48 [.str t, .int .u64 (IntKind.u64.wrap c)] G)) ∧ (t2.length ≤ t2.length ∧ 0 < t2.length ∧ 0 + L * 1 ≤ N ∧ 0 ≤ 0 + L * 1 ∧ 0 = 0 * BS ∧ roomA (L + t2.length) (1) = true ∧ N < 0 + (L + t2.length) * 1) ∧ (Tells ((s ++ t2).length) ((.fn fun k => some (AV.int IntKind.u8 (↑((s ++ t2).getD k (0 : UInt8)).toNat : Int)))) ((.fn fun k => bif (0 + L * BS).ble k && k.blt (0 + L * BS + t2.length * BS) then (fun k => some (AV.int IntKind.u8 (↑(t2.getD k (0 : UInt8)).toNat : Int))) (k - (0 + L * BS)) else (T.fn fun k => some (AV.int IntKind.u8 (↑(s.getD k (0 : UInt8)).toNat : Int))).get k))) ∧ ((s ++ t2).length = 0 + L * 1 + t2.length * 1) ∧ (PlainFn fun c => some (cell c)) ∧ (PlainFn fun c => some (cell' c)) ∧ (PlainFn fun k => some (AV.int IntKind.u8 (↑((s ++ t2).getD k (0 : UInt8)).toNat : Int))) ∧ K (ECa cell cell' (s ++ t2) (L + t2.length) (IntKind.i64.wrap (i + (1 : Int))) m cp z y (s ++ t2).length G)) := by kernel_rfl

theorem exCn (R : AV → AHeap → Prop) (cell cell' : Nat → AV) (u u' : Nat → Int) (s p w t t2 : List UInt8) (a c i : Int) (n m cp z y lo off N L : Nat) (b : Bool) (G : T (T AV)) (_K : AM → Prop) : Obl P 14 (fun v h => R v h) 1 _K [.run 5, .know 17 false, .run 15, .slot 6 (.slg 3 0 0 (n + 1) 0), .run 6, .ext s, .run 7, .can 1 [0] [2] [], .done] ((ECa cell cell' s L i m lo z y N G)) = ((decide (i < (↑m : Int)) = false) ∧ (AV.slg (3) (0) (0) L (0) = AV.slg (3) (0) (0) (n + 1) (0)) ∧ ((0 : Int) < (↑L : Int) ∧ (↑L : Int) < (2 : Int) ^ 40 ∧ (↑L : Int).toNat ≤ N ∧ P.cellsOf (5) = 1 ∧ cellsStr (loadList (T.fn fun k => some (AV.int IntKind.u8 (↑(s.getD k (0 : UInt8)).toNat : Int))) 0 (↑L : Int).toNat) = some (AV.str s)) ∧ (PlainFn fun c => some (cell c)) ∧ (R (.str s) (⟨(.node .leaf (some (.cells (.fn fun c => some (cell c)) z 35 0 0 1 0 false .leaf)) .leaf), 1, G⟩))) := by kernel_rfl

theorem enC (R : AV → AHeap → Prop) (cell cell' : Nat → AV) (u u' : Nat → Int) (s p w t t2 : List UInt8) (a c i : Int) (n m cp z y lo off N L : Nat) (b : Bool) (G : T (T AV)) (_K : AM → Prop) : Obl P 14 (fun v h => R v h) 1 _K [.run 20, .slot 6 (.slg 2 0 0 (n + 1) 0), .run 6, .ext s, .run 7, .can 1 [0] [2] [], .done] ((ECn cell s L lo z N G)) = ((AV.slg (2) (0) (0) L (0) = AV.slg (2) (0) (0) (n + 1) (0)) ∧ ((0 : Int) < (↑L : Int) ∧ (↑L : Int) < (2 : Int) ^ 40 ∧ (↑L : Int).toNat ≤ N ∧ P.cellsOf (5) = 1 ∧ cellsStr (loadList (T.fn fun k => some (AV.int IntKind.u8 (↑(s.getD k (0 : UInt8)).toNat : Int))) 0 (↑L : Int).toNat) = some (AV.str s)) ∧ (PlainFn fun c => some (cell c)) ∧ (R (.str s) (⟨(.node .leaf (some (.cells (.fn fun c => some (cell c)) z 35 0 0 1 0 false .leaf)) .leaf), 1, G⟩))) := by kernel_rfl

theorem ee (R : AV → AHeap → Prop) (cell cell' : Nat → AV) (u u' : Nat → Int) (s p w t t2 : List UInt8) (a c i : Int) (n m cp z y lo off N L : Nat) (b : Bool) (G : T (T AV)) (_K : AM → Prop) : Obl P 14 (fun v h => R v h) 0 _K [.run 8, (.callh [] [0] (.nils 0 0) ⟨.leaf, 0, G⟩), .run 12, (.callv [0, 1] (.str w)), .run 40, .opw false, .run 43, .slot 6 (.slg 1 0 0 (n + 1) 0), .run 6, .ext w, .run 7, .can 0 [] [2] [], .done] ((startH P 14 [.nils 0 0] ⟨.leaf, 0, G⟩)) = ((Goal P (0) 12 (fun x k => x = AV.nils 0 0 ∧ k = { objs := T.leaf, next := 0, glob := G }) (startM P 12 [.nils 0 0] G)) ∧ (Goal P (0) 48 (fun x _ => x = AV.str w) (startM P 48 [.str [], .int .u64 0] G)) ∧ (w.length ≤ w.length ∧ 0 < w.length ∧ roomA w.length (1) = true) ∧ (AV.slg (1) (0) (0) w.length (0) = AV.slg (1) (0) (0) (n + 1) (0)) ∧ ((0 : Int) < (↑w.length : Int) ∧ (↑w.length : Int) < (2 : Int) ^ 40 ∧ (↑w.length : Int).toNat ≤ w.length * 1 ∧ P.cellsOf (5) = 1 ∧ cellsStr (loadList (T.fn fun k => some (AV.int IntKind.u8 (↑(w.getD k (0 : UInt8)).toNat : Int))) 0 (↑w.length : Int).toNat) = some (AV.str w)) ∧ (R (.str w) (⟨.leaf, 0, G⟩))) := by kernel_rfl

theorem sortN (R : AV → AHeap → Prop) (G : T (T AV)) (_K : AM → Prop) : Obl P 12 (fun v h => R v h) 0 _K [.run 181, .done] ((startH P 12 [.nils 0 0] ⟨.leaf, 0, G⟩)) = ((R (.nils 0 0) (⟨.leaf, 0, G⟩))) := by kernel_rfl

/-! ## Bytes in rows -/

def bf (s : List UInt8) (k : Nat) : Option AV := some (.int .u8 ((s.getD k (0 : UInt8)).toNat : Int))

theorem bf_plain (s : List UInt8) : PlainFn fun k => some (AV.int IntKind.u8 ((s.getD k (0 : UInt8)).toNat : Int)) := by
  intro k v h
  cases h
  rfl

theorem bytes_cells : ∀ u : List UInt8, bytesA (byteCells u) = some u
  | [] => rfl
  | b :: r => by
    have ih := bytes_cells r
    unfold bytesA at ih ⊢
    rw [show byteCells (b :: r) = .int .u8 b.toNat :: byteCells r from rfl, mapO_cons, ih, show byteA (.int .u8 b.toNat) = some b from by show some (UInt8.ofNat (b.toNat : Int).toNat) = _; rw [Int.toNat_natCast, UInt8.ofNat_toNat]]

theorem row_str (u : List UInt8) (n : Nat) (hn : n = u.length) : cellsStr (loadList (T.fn fun k => some (AV.int IntKind.u8 ((u.getD k (0 : UInt8)).toNat : Int))) 0 n) = some (.str u) := by
  subst hn
  obtain ⟨l, h1, h2, h3, h4⟩ := loadList_some (c := T.fn fun k => some (AV.int IntKind.u8 ((u.getD k (0 : UInt8)).toNat : Int))) (off := 0) (n := u.length) (fun k _ => ⟨_, rfl, rfl⟩)
  have hl : l = byteCells u := by
    refine List.ext_getElem? fun i => ?_
    rcases Nat.lt_or_ge i u.length with hi | hi
    · rw [h4 i (AV.int IntKind.u8 ((u.getD i (0 : UInt8)).toNat : Int)) hi (by rw [Nat.zero_add]; rfl)]
      unfold byteCells
      rw [List.getElem?_map, List.getElem?_eq_getElem hi, List.getD_eq_getElem?_getD, List.getElem?_eq_getElem hi]
      rfl
    · rw [List.getElem?_eq_none (by omega), List.getElem?_eq_none (by unfold byteCells; simpa using hi)]
  unfold cellsStr
  rw [h1, hl]
  show strAV (bytesA (byteCells u)) = _
  rw [bytes_cells]
  rfl

theorem app_by (s t : List UInt8) (L : Nat) (hL : L = s.length) {b : Nat} (hb : b = 1) :
    Tells ((s ++ t).length) (.fn fun k => some (AV.int IntKind.u8 (((s ++ t).getD k (0 : UInt8)).toNat : Int))) (.fn fun k => bif (0 + L * b).ble k && k.blt (0 + L * b + t.length * b) then (fun k => some (AV.int IntKind.u8 ((t.getD k (0 : UInt8)).toNat : Int))) (k - (0 + L * b)) else (T.fn fun k => some (AV.int IntKind.u8 ((s.getD k (0 : UInt8)).toNat : Int))).get k) := by
  subst hL hb
  intro k v hk h
  have h : some (AV.int IntKind.u8 (((s ++ t).getD k (0 : UInt8)).toNat : Int)) = some v := h
  rw [← h]
  show (bif (0 + s.length * 1).ble k && k.blt (0 + s.length * 1 + t.length * 1) then some (AV.int IntKind.u8 ((t.getD (k - (0 + s.length * 1)) (0 : UInt8)).toNat : Int)) else some (AV.int IntKind.u8 ((s.getD k (0 : UInt8)).toNat : Int))) = _
  rw [List.length_append] at hk
  by_cases hin : s.length ≤ k
  · have e : ((0 + s.length * 1).ble k && k.blt (0 + s.length * 1 + t.length * 1)) = true := by
      rw [Bool.and_eq_true, Nat.ble_eq, Nat.blt_eq]; omega
    rw [e, cond_true, List.getD_eq_getElem?_getD, List.getD_eq_getElem?_getD, List.getElem?_append_right hin, show k - (0 + s.length * 1) = k - s.length by omega]
  · have e : ((0 + s.length * 1).ble k && k.blt (0 + s.length * 1 + t.length * 1)) = false := by
      rw [← Bool.not_eq_true, Bool.and_eq_true, Nat.ble_eq, Nat.blt_eq]; omega
    rw [e, cond_false, List.getD_eq_getElem?_getD, List.getD_eq_getElem?_getD, List.getElem?_append_left (by omega)]

/-! ## What is laid -/

noncomputable def one1 (d : Dg) : List UInt8 := [] ++ row (IntKind.u64.wrap d.1.length) ++ d.1
noncomputable def one2 (d : Dg) : List UInt8 := one1 d ++ row (IntKind.u64.wrap d.2.1)
noncomputable def one (d : Dg) : List UInt8 := one2 d ++ row (IntKind.u64.wrap d.2.2)
noncomputable def encL (l : List Dg) : List UInt8 := [] ++ row (l.length : Nat) ++ l.flatMap one

theorem row_pos (n : Int) : 0 < (row n).length := by
  unfold row
  repeat' split
  all_goals simp

theorem one_len {d : Dg} (h : mayB d = true) : (one d).length ≤ 227 := by
  have h := of_decide_eq_true h
  have h1 := row_length (IntKind.u64.wrap d.1.length)
  have h2 := row_length (IntKind.u64.wrap d.2.1)
  have h3 := row_length (IntKind.u64.wrap d.2.2)
  unfold one one2 one1
  simp only [List.length_append, List.length_nil]
  omega

theorem one_pos (d : Dg) : 0 < (one d).length := by
  have h1 := row_pos (IntKind.u64.wrap d.2.2)
  unfold one
  rw [List.length_append]
  omega

theorem u64_may (n : Int) : 0 ≤ IntKind.u64.wrap n ∧ IntKind.u64.wrap n ≤ 18446744073709551615 := by
  have : IntKind.u64.wrap n = n % 18446744073709551616 := by simp [IntKind.wrap, IntKind.bits, IntKind.signed]
  omega

theorem put0 (n : Int) : Goal P 0 48 (fun x _ => x = .str ([] ++ row (IntKind.u64.wrap n))) (startM P 48 [.str [], .int .u64 (IntKind.u64.wrap n)] GW) :=
  puts [] _ (u64_may n).1 (u64_may n).2 (by show 0 + 9 < _; omega)

theorem room (a : Nat) (h : a < 1000000000) : roomA a 1 = true := by
  unfold roomA
  rw [Bool.and_eq_true, Nat.ble_eq, Nat.blt_eq]
  constructor <;> omega

theorem natw (n : Nat) (h : n < 1000000) : IntKind.u64.wrap (n : Int) = n := IntWalk.u64_in _ (by omega)

theorem ER_loop {m lo z y off : Nat} {f f' : Nat → Dg} (hy : m * 3 ≤ y) (hm : m < 100000) (hmay : ∀ i, i < m → mayB (f' i) = true) {S : List UInt8} :
    ∀ r i (s : List UInt8) L N, i + r = m → L = s.length → N = s.length → 0 < s.length → s.length ≤ 9 + i * 227 → s ++ (sl f' i r).flatMap one = S →
      Goal P 1 14 (fun v h => v = .str S ∧ h = HRo f off z) (ERa (elo f off) (el f') s L (i : Int) m off z y N GW)
  | 0, i, s, L, N, hi, hL, hN, h0, hs, hS => by
    obtain rfl : i = m := by omega
    obtain rfl : s = S := by rw [← hS]; exact (List.append_nil s).symm
    subst hL hN
    obtain ⟨n, hn⟩ : ∃ n, s.length = n + 1 := ⟨s.length - 1, by omega⟩
    exact Obl.goal (K := Goal P 1 14 _) mix (fun _ h => h) (cast (exRn (fun v h => v = .str s ∧ h = HRo f off z) (elo f off) (el f') (fun _ => 0) (fun _ => 0) s [] [] [] [] 0 0 i n i 0 z y off 0 s.length s.length false GW _).symm
      ⟨decide_eq_false (by omega), by rw [hn], ⟨by omega, by omega, by rw [Int.toNat_natCast]; exact Nat.le_refl _, by kernel_rfl, row_str _ _ (Int.toNat_natCast _)⟩,  rfl, rfl⟩)
  | r + 1, i, s, L, N, hi, hL, hN, h0, hs, hS => by
    subst hL hN
    have hd := hmay i (by omega)
    have hlen := one_len hd
    have hpos := one_pos (f' i)
    have ih := ER_loop (lo := lo) (z := z) (off := off) (f := f) hy hm hmay (S := S) r (i + 1) (s ++ one (f' i)) (s.length + (one (f' i)).length) (s ++ one (f' i)).length (by omega) (by rw [List.length_append]) rfl (by rw [List.length_append]; omega) (by rw [List.length_append]; omega) (by
      rw [← hS, List.append_assoc]
      congr 1)
    have hb := of_decide_eq_true hd
    have l1 : (one1 (f' i)).length ≤ 209 := by
      have := row_length (IntKind.u64.wrap (f' i).1.length)
      unfold one1
      simp only [List.length_append, List.length_nil]
      omega
    have l2 : (one2 (f' i)).length ≤ 218 := by
      have := row_length (IntKind.u64.wrap (f' i).2.1)
      unfold one2
      simp only [List.length_append]
      omega
    exact Obl.goal (K := Goal P 1 14 _) mix (fun _ h => h) (cast (eyRy (fun v h => v = .str S ∧ h = HRo f off z) (elo f off) (el f') (fun _ => 0) (fun _ => 0) s _ (one1 (f' i)) (one2 (f' i)) (one (f' i)) _ _ _ 0 m 0 z y off 0 s.length s.length false GW _).symm
      ⟨decide_eq_true (by omega), ⟨by omega, by omega⟩, by rw [Int.toNat_natCast]; omega, agg_el f' i, putt [] (f' i).1 (by show 0 + _ + 9 < _; omega), rfl, rfl, rfl, rfl,
        puts (one1 (f' i)) _ (u64_may _).1 (u64_may _).2 (by omega), rfl, rfl, puts (one2 (f' i)) _ (u64_may _).1 (u64_may _).2 (by omega),
        ⟨Nat.le_refl _, hpos, by omega, by omega, by omega, room _ (by omega), by omega⟩, app_by s (one (f' i)) _ rfl BS_eq, by rw [List.length_append]; omega,  el_plain _, bf_plain _, by rw [up1 i (by omega)]; exact ih⟩)

theorem encR_ok {off z n cp : Nat} {f : Nat → Dg} (hz : off + n * 3 ≤ z) (hn : n < 100000) {l : List Dg} (hl : So (sl f 0 n) l) :
    Goal P 1 14 (fun v h => v = .str (encL l) ∧ h = HRo f off z) (startH P 14 [.slc 0 0 off n cp] (HRo f off z)) := by
  rcases sortR_ok (off := off) (z := z) (n := n) (cp := cp) (f := f) hz hn with ⟨h1, h2⟩ | ⟨f', k, y, h1, h2, h3, h4, h5⟩
  · obtain rfl : l = [] := So.uniq hl h1 fun _ => Iff.rfl
    have e : encL [] = row 0 := by unfold encL; rw [List.flatMap_nil, List.append_nil]; rfl
    have hp := row_pos 0
    have hlr := row_length 0
    have e1 : ([] ++ row 0 : List UInt8) = row 0 := List.nil_append _
    rw [e]
    obtain ⟨q, hq⟩ : ∃ q, (row 0).length = q + 1 := ⟨(row 0).length - 1, by omega⟩
    have h48 := puts [] 0 (by omega) (by omega) (by show 0 + 9 < _; omega)
    rw [e1] at h48
    exact Obl.goal (K := Goal P 1 14 _) mix (fun _ h => h) (cast (ezR (fun v h => v = .str (row 0) ∧ h = HRo f off z) (elo f off) (elo f off) (fun _ => 0) (fun _ => 0) [] [] (row 0) [] [] 0 0 0 n 0 cp z 0 off off 0 0 false GW _).symm
      ⟨ h2, h48, ⟨Nat.le_refl _, hp, room _ (by omega)⟩,  bf_plain _, Obl.goal (K := Goal P 1 14 _) mix (fun _ h => h) (cast (enR (fun v h => v = .str (row 0) ∧ h = HRo f off z) (elo f off) (elo f off) (fun _ => 0) (fun _ => 0) (row 0) [] [] [] [] 0 0 0 q 0 0 z 0 off 0 ((row 0).length * 1) (row 0).length false GW _).symm
        ⟨by rw [hq], ⟨by omega, by omega, by rw [Int.toNat_natCast]; omega, by kernel_rfl, row_str _ _ (Int.toNat_natCast _)⟩,  rfl, rfl⟩)⟩)
  · obtain rfl : l = sl f' 0 k := So.uniq hl h4 fun _ => Iff.rfl
    have hlr := row_length (k : Nat)
    have hp := row_pos (k : Nat)
    have h48 := put0 (k : Nat)
    rw [natw k (by omega), List.nil_append] at h48
    have hloop := ER_loop (lo := off) (off := off) (z := z) (y := y) (f := f) (f' := f') (m := k) h3 (by omega) (fun i hi => ((h4.2 _).1 (sl_at f' k 0 i (by omega) (by omega))).2) (S := encL (sl f' 0 k)) k 0 (row (k : Nat)) _ ((row (k : Nat)).length * 1) (by omega) rfl (by omega) hp (by omega) (by
      unfold encL
      rw [sl_len, List.nil_append])
    exact Obl.goal (K := Goal P 1 14 _) mix (fun _ h => h) (cast (esR (fun v h => v = .str (encL (sl f' 0 k)) ∧ h = HRo f off z) (elo f off) (el f') (fun _ => 0) (fun _ => 0) [] [] (row (k : Nat)) [] [] 0 0 0 n k cp z y off off 0 0 false GW _).symm
      ⟨ el_plain _, h5, by rw [natw k (by omega)]; exact h48, ⟨Nat.le_refl _, hp, room _ (by omega)⟩,  el_plain _, bf_plain _, hloop⟩)

theorem EC_loop {m lo z y off : Nat} {f f' : Nat → Dg} (hy : m * 3 ≤ y) (hm : m < 100000) (hmay : ∀ i, i < m → mayB (f' i) = true) {S : List UInt8} :
    ∀ r i (s : List UInt8) L N, i + r = m → L = s.length → N = s.length → 0 < s.length → s.length ≤ 9 + i * 227 → s ++ (sl f' i r).flatMap one = S →
      Goal P 1 14 (fun v h => v = .str S ∧ h = HCo f off z) (ECa (el f) (el f') s L (i : Int) m off z y N GW)
  | 0, i, s, L, N, hi, hL, hN, h0, hs, hS => by
    obtain rfl : i = m := by omega
    obtain rfl : s = S := by rw [← hS]; exact (List.append_nil s).symm
    subst hL hN
    obtain ⟨n, hn⟩ : ∃ n, s.length = n + 1 := ⟨s.length - 1, by omega⟩
    exact Obl.goal (K := Goal P 1 14 _) mix (fun _ h => h) (cast (exCn (fun v h => v = .str s ∧ h = HCo f off z) (el f) (el f') (fun _ => 0) (fun _ => 0) s [] [] [] [] 0 0 i n i 0 z y off 0 s.length s.length false GW _).symm
      ⟨decide_eq_false (by omega), by rw [hn], ⟨by omega, by omega, by rw [Int.toNat_natCast]; exact Nat.le_refl _, by kernel_rfl, row_str _ _ (Int.toNat_natCast _)⟩, el_plain _,  rfl, rfl⟩)
  | r + 1, i, s, L, N, hi, hL, hN, h0, hs, hS => by
    subst hL hN
    have hd := hmay i (by omega)
    have hlen := one_len hd
    have hpos := one_pos (f' i)
    have ih := EC_loop (lo := lo) (z := z) (off := off) (f := f) hy hm hmay (S := S) r (i + 1) (s ++ one (f' i)) (s.length + (one (f' i)).length) (s ++ one (f' i)).length (by omega) (by rw [List.length_append]) rfl (by rw [List.length_append]; omega) (by rw [List.length_append]; omega) (by
      rw [← hS, List.append_assoc]
      congr 1)
    have hb := of_decide_eq_true hd
    have l1 : (one1 (f' i)).length ≤ 209 := by
      have := row_length (IntKind.u64.wrap (f' i).1.length)
      unfold one1
      simp only [List.length_append, List.length_nil]
      omega
    have l2 : (one2 (f' i)).length ≤ 218 := by
      have := row_length (IntKind.u64.wrap (f' i).2.1)
      unfold one2
      simp only [List.length_append]
      omega
    exact Obl.goal (K := Goal P 1 14 _) mix (fun _ h => h) (cast (eyCy (fun v h => v = .str S ∧ h = HCo f off z) (el f) (el f') (fun _ => 0) (fun _ => 0) s _ (one1 (f' i)) (one2 (f' i)) (one (f' i)) _ _ _ 0 m 0 z y off 0 s.length s.length false GW _).symm
      ⟨decide_eq_true (by omega), ⟨by omega, by omega⟩, by rw [Int.toNat_natCast]; omega, agg_el f' i, putt [] (f' i).1 (by show 0 + _ + 9 < _; omega), rfl, rfl, rfl, rfl,
        puts (one1 (f' i)) _ (u64_may _).1 (u64_may _).2 (by omega), rfl, rfl, puts (one2 (f' i)) _ (u64_may _).1 (u64_may _).2 (by omega),
        ⟨Nat.le_refl _, hpos, by omega, by omega, by omega, room _ (by omega), by omega⟩, app_by s (one (f' i)) _ rfl BS_eq, by rw [List.length_append]; omega, el_plain _,  el_plain _, bf_plain _, by rw [up1 i (by omega)]; exact ih⟩)

theorem encC_ok {off z n cp : Nat} {f : Nat → Dg} (hz : n * 3 ≤ z) (hn : n < 100000) {l : List Dg} (hl : So (sl f 0 n) l) :
    Goal P 1 14 (fun v h => v = .str (encL l) ∧ h = HCo f off z) (startH P 14 [.slg 0 0 0 n 0] (HCo f off z)) := by
  rcases sortC_ok (off := off) (z := z) (n := n) (cp := cp) (f := f) hz hn with ⟨h1, h2⟩ | ⟨f', k, y, h1, h2, h3, h4, h5⟩
  · obtain rfl : l = [] := So.uniq hl h1 fun _ => Iff.rfl
    have e : encL [] = row 0 := by unfold encL; rw [List.flatMap_nil, List.append_nil]; rfl
    have hp := row_pos 0
    have hlr := row_length 0
    have e1 : ([] ++ row 0 : List UInt8) = row 0 := List.nil_append _
    rw [e]
    obtain ⟨q, hq⟩ : ∃ q, (row 0).length = q + 1 := ⟨(row 0).length - 1, by omega⟩
    have h48 := puts [] 0 (by omega) (by omega) (by show 0 + 9 < _; omega)
    rw [e1] at h48
    exact Obl.goal (K := Goal P 1 14 _) mix (fun _ h => h) (cast (ezC (fun v h => v = .str (row 0) ∧ h = HCo f off z) (el f) (el f) (fun _ => 0) (fun _ => 0) [] [] (row 0) [] [] 0 0 0 n 0 cp z 0 off off 0 0 false GW _).symm
      ⟨el_plain _, el_plain _,  h2, h48, ⟨Nat.le_refl _, hp, room _ (by omega)⟩, el_plain _,  bf_plain _, Obl.goal (K := Goal P 1 14 _) mix (fun _ h => h) (cast (enC (fun v h => v = .str (row 0) ∧ h = HCo f off z) (el f) (el f) (fun _ => 0) (fun _ => 0) (row 0) [] [] [] [] 0 0 0 q 0 0 z 0 off 0 ((row 0).length * 1) (row 0).length false GW _).symm
        ⟨by rw [hq], ⟨by omega, by omega, by rw [Int.toNat_natCast]; omega, by kernel_rfl, row_str _ _ (Int.toNat_natCast _)⟩, el_plain _,  rfl, rfl⟩)⟩)
  · obtain rfl : l = sl f' 0 k := So.uniq hl h4 fun _ => Iff.rfl
    have hlr := row_length (k : Nat)
    have hp := row_pos (k : Nat)
    have h48 := put0 (k : Nat)
    rw [natw k (by omega), List.nil_append] at h48
    have hloop := EC_loop (lo := off) (off := off) (z := z) (y := y) (f := f) (f' := f') (m := k) h3 (by omega) (fun i hi => ((h4.2 _).1 (sl_at f' k 0 i (by omega) (by omega))).2) (S := encL (sl f' 0 k)) k 0 (row (k : Nat)) _ ((row (k : Nat)).length * 1) (by omega) rfl (by omega) hp (by omega) (by
      unfold encL
      rw [sl_len, List.nil_append])
    exact Obl.goal (K := Goal P 1 14 _) mix (fun _ h => h) (cast (esC (fun v h => v = .str (encL (sl f' 0 k)) ∧ h = HCo f off z) (el f) (el f') (fun _ => 0) (fun _ => 0) [] [] (row (k : Nat)) [] [] 0 0 0 n k cp z y off off 0 0 false GW _).symm
      ⟨el_plain _, el_plain _,  el_plain _, h5, by rw [natw k (by omega)]; exact h48, ⟨Nat.le_refl _, hp, room _ (by omega)⟩, el_plain _,  el_plain _, bf_plain _, hloop⟩)

theorem enc_nil : Goal P 0 14 (fun v h => v = .str (encL []) ∧ h = ⟨.leaf, 0, GW⟩) (startH P 14 [.nils 0 0] ⟨.leaf, 0, GW⟩) := by
  have e : encL [] = [] ++ row 0 := by unfold encL; rw [List.flatMap_nil, List.append_nil]; rfl
  have hp := row_pos 0
  have hl := row_length 0
  have e1 : ([] ++ row 0 : List UInt8) = row 0 := List.nil_append _
  rw [e, e1]
  obtain ⟨n, hn⟩ : ∃ n, (row 0).length = n + 1 := ⟨(row 0).length - 1, by omega⟩
  have h48 := puts [] 0 (by omega) (by omega) (by show 0 + 9 < _; omega)
  rw [e1] at h48
  have h12 : Goal P 0 12 (fun x k => x = .nils 0 0 ∧ k = ⟨.leaf, 0, GW⟩) (startM P 12 [.nils 0 0] GW) := Obl.goal (K := Goal P 0 12 _) mix (fun _ h => h) (cast (sortN (fun x k => x = .nils 0 0 ∧ k = ⟨.leaf, 0, GW⟩) GW (Goal P 0 12 _)).symm ⟨rfl, rfl⟩)
  exact Obl.goal (K := Goal P 0 14 _) mix (fun _ h => h) (cast (ee (fun v h => v = .str (row 0) ∧ h = ⟨.leaf, 0, GW⟩) (el fun _ => zd) (el fun _ => zd) (fun _ => 0) (fun _ => 0) [] [] (row 0) [] [] 0 0 0 n 0 0 0 0 0 0 0 0 false GW _).symm
    ⟨h12, h48, ⟨Nat.le_refl _, hp, room _ (by omega)⟩, by rw [hn], ⟨by omega, by omega, by rw [Int.toNat_natCast]; omega, by kernel_rfl, row_str _ _ (Int.toNat_natCast _)⟩, rfl, rfl⟩)

end Go.Proofs.YtdbfpjgnlfejmaaDoor.dg
