import Derived.Test.YtdbfpjgnlfejmaaDoorE00
import Derived.Test.YtdbfpjgnlfejmaaDoorE01
import Derived.Test.YtdbfpjgnlfejmaaDoorE02
import Derived.Test.YtdbfpjgnlfejmaaDoorE03
import Derived.Test.YtdbfpjgnlfejmaaDoorE04
import Derived.Test.YtdbfpjgnlfejmaaDoorE05
section
set_option maxRecDepth 100000
set_option linter.unusedVariables false
namespace Go.Proofs.YtdbfpjgnlfejmaaDoor.dg
open Go Ev mq
noncomputable def AwP (pc : Nat → AV) (s t : List UInt8) (n nu i : Int) (q z L N : Nat) (G : T (T AV)) : AM := ⟨⟨30, 48, (.node (.node (.node (.node (.node (.node .leaf (some (.int .i64 i)) .leaf) none .leaf) none .leaf) (some (.ptr 2 0 0)) .leaf) (some (.ptr 1 0 0)) (.node .leaf none (.node .leaf none (.node .leaf (some (.slg 0 0 0 q 0)) .leaf)))) none (.node .leaf none (.node .leaf none (.node .leaf none (.node .leaf (some (.int .i64 (q : Int))) .leaf))))),
 [.code (cd P (30 : Nat) [(1 : Nat), (1 : Nat), (1 : Nat), (1 : Nat), (1 : Nat), (0 : Nat), (1 : Nat), (0 : Nat), (0 : Nat)]), .inLoop (cd P (30 : Nat) [(1 : Nat), (1 : Nat), (1 : Nat), (1 : Nat), (1 : Nat), (0 : Nat), (1 : Nat), (0 : Nat), (0 : Nat)]), .inBlock 0, .code (cd P (30 : Nat) [(1 : Nat), (1 : Nat), (1 : Nat), (1 : Nat), (1 : Nat), (1 : Nat)])], [], .run, CallKind.normal, none⟩,
 [],
 ⟨(.node (.node (.node .leaf (some (.cells (.fn fun k => some (.int .u8 ((s.getD k (0 : UInt8)).toNat : Int))) N 5 0 0 1 0 false .leaf)) .leaf) (some (.cells (.node (.node (.node .leaf (some (.nils 0 0)) .leaf) (some (.str t)) .leaf) (some (.int .i64 n)) (.node (.node .leaf (some (.int .u64 nu)) .leaf) (some (.slg 0 0 0 q 0)) .leaf)) 5 45 0 0 1 0 false .leaf)) .leaf) (some (.cells (.fn fun c => some (pc c)) z 9 0 0 1 0 false .leaf)) (.node .leaf (some (.cells (.node (.node .leaf (some (.slg 3 0 0 L 0)) .leaf) (some (.ptr 2 0 0)) .leaf) 2 69 0 0 1 0 false .leaf)) .leaf)), 4, G⟩⟩
noncomputable def AwB (pc cell : Nat → AV) (s t : List UInt8) (n nu i : Int) (m q z zd L N : Nat) (G : T (T AV)) : AM := ⟨⟨30, 48, (.node (.node (.node (.node (.node (.node .leaf (some (.int .i64 i)) .leaf) none .leaf) none .leaf) (some (.ptr 3 0 0)) .leaf) (some (.ptr 2 0 0)) (.node .leaf none (.node .leaf none (.node .leaf (some (.slg 0 0 0 q 0)) .leaf)))) none (.node .leaf none (.node .leaf none (.node .leaf none (.node .leaf (some (.int .i64 (q : Int))) .leaf))))),
 [.code (cd P (30 : Nat) [(1 : Nat), (1 : Nat), (1 : Nat), (1 : Nat), (1 : Nat), (0 : Nat), (1 : Nat), (0 : Nat), (0 : Nat)]), .inLoop (cd P (30 : Nat) [(1 : Nat), (1 : Nat), (1 : Nat), (1 : Nat), (1 : Nat), (0 : Nat), (1 : Nat), (0 : Nat), (0 : Nat)]), .inBlock 0, .code (cd P (30 : Nat) [(1 : Nat), (1 : Nat), (1 : Nat), (1 : Nat), (1 : Nat), (1 : Nat)])], [], .run, CallKind.normal, none⟩,
 [],
 ⟨(.node (.node (.node .leaf (some (.cells (.node (.node .leaf (some (.slg 4 0 0 L 0)) .leaf) (some (.ptr 3 0 0)) .leaf) 2 69 0 0 1 0 false .leaf)) .leaf) (some (.cells (.fn fun c => some (cell c)) zd 35 0 0 1 0 false .leaf)) .leaf) (some (.cells (.fn fun c => some (pc c)) z 9 0 0 1 0 false .leaf)) (.node (.node .leaf (some (.cells (.fn fun k => some (.int .u8 ((s.getD k (0 : UInt8)).toNat : Int))) N 5 0 0 1 0 false .leaf)) .leaf) (some (.cells (.node (.node (.node .leaf (some (.slg 1 0 0 m 0)) .leaf) (some (.str t)) .leaf) (some (.int .i64 n)) (.node (.node .leaf (some (.int .u64 nu)) .leaf) (some (.slg 0 0 0 q 0)) .leaf)) 5 45 0 0 1 0 false .leaf)) .leaf)), 5, G⟩⟩
noncomputable def Aen (s : List UInt8) (L N : Nat) (G : T (T AV)) : AM := ⟨⟨30, 48, (.node (.node (.node .leaf (some (.ptr 0 0 0)) .leaf) none .leaf) none .leaf),
 [.code (cd P (30 : Nat) [(1 : Nat), (1 : Nat), (1 : Nat), (1 : Nat), (1 : Nat), (1 : Nat), (1 : Nat)])], [], .run, CallKind.normal, none⟩,
 [],
 ⟨(.node (.node .leaf (some (.cells (.fn fun k => some (.int .u8 ((s.getD k (0 : UInt8)).toNat : Int))) N 5 0 0 1 0 false .leaf)) .leaf) (some (.cells (.node (.node .leaf (some (.slg 1 0 0 L 0)) .leaf) (some (.ptr 0 0 0)) .leaf) 2 69 0 0 1 0 false .leaf)) .leaf), 2, G⟩⟩
noncomputable def Aed (cell : Nat → AV) (s : List UInt8) (zd L N : Nat) (G : T (T AV)) : AM := ⟨⟨30, 48, (.node (.node (.node .leaf (some (.ptr 1 0 0)) .leaf) none .leaf) none .leaf),
 [.code (cd P (30 : Nat) [(1 : Nat), (1 : Nat), (1 : Nat), (1 : Nat), (1 : Nat), (1 : Nat), (1 : Nat)])], [], .run, CallKind.normal, none⟩,
 [],
 ⟨(.node (.node .leaf (some (.cells (.node (.node .leaf (some (.slg 2 0 0 L 0)) .leaf) (some (.ptr 1 0 0)) .leaf) 2 69 0 0 1 0 false .leaf)) .leaf) (some (.cells (.fn fun c => some (cell c)) zd 35 0 0 1 0 false .leaf)) (.node .leaf (some (.cells (.fn fun k => some (.int .u8 ((s.getD k (0 : UInt8)).toNat : Int))) N 5 0 0 1 0 false .leaf)) .leaf)), 3, G⟩⟩
noncomputable def Aep (pc : Nat → AV) (s : List UInt8) (z L N : Nat) (G : T (T AV)) : AM := ⟨⟨30, 48, (.node (.node (.node .leaf (some (.ptr 1 0 0)) .leaf) none .leaf) none .leaf),
 [.code (cd P (30 : Nat) [(1 : Nat), (1 : Nat), (1 : Nat), (1 : Nat), (1 : Nat), (1 : Nat), (1 : Nat)])], [], .run, CallKind.normal, none⟩,
 [],
 ⟨(.node (.node .leaf (some (.cells (.node (.node .leaf (some (.slg 2 0 0 L 0)) .leaf) (some (.ptr 1 0 0)) .leaf) 2 69 0 0 1 0 false .leaf)) .leaf) (some (.cells (.fn fun c => some (pc c)) z 9 0 0 1 0 false .leaf)) (.node .leaf (some (.cells (.fn fun k => some (.int .u8 ((s.getD k (0 : UInt8)).toNat : Int))) N 5 0 0 1 0 false .leaf)) .leaf)), 3, G⟩⟩
noncomputable def Aeb (pc cell : Nat → AV) (s : List UInt8) (z zd L N : Nat) (G : T (T AV)) : AM := ⟨⟨30, 48, (.node (.node (.node .leaf (some (.ptr 2 0 0)) .leaf) none .leaf) none .leaf),
 [.code (cd P (30 : Nat) [(1 : Nat), (1 : Nat), (1 : Nat), (1 : Nat), (1 : Nat), (1 : Nat), (1 : Nat)])], [], .run, CallKind.normal, none⟩,
 [],
 ⟨(.node (.node (.node .leaf (some (.cells (.fn fun k => some (.int .u8 ((s.getD k (0 : UInt8)).toNat : Int))) N 5 0 0 1 0 false .leaf)) .leaf) (some (.cells (.fn fun c => some (cell c)) zd 35 0 0 1 0 false .leaf)) .leaf) (some (.cells (.fn fun c => some (pc c)) z 9 0 0 1 0 false .leaf)) (.node .leaf (some (.cells (.node (.node .leaf (some (.slg 3 0 0 L 0)) .leaf) (some (.ptr 2 0 0)) .leaf) 2 69 0 0 1 0 false .leaf)) .leaf)), 4, G⟩⟩
theorem awne (R : AV → AHeap → Prop) (t w0 w1 w2 e : List UInt8) (n nu : Int) (w w4 : List UInt8) (G : T (T AV)) (K : AM → Prop) : Obl P 30 (fun v h => R v h) 0 K [.run 12, .know 9 false, .run 5, .know 13 false, .run 14, .callv [0, 1] (.str w0), .run 1, .callv [0, 1] (.str w1), .run 40, .opw false, .run 21, .callv [0, 1] (.str w2), .run 41, .opw false, .run 14, .told 2 (.fn fun k => some (.int .u8 (((w1 ++ w2).getD k (0 : UInt8)).toNat : Int))) (w1 ++ w2).length, .can 0 [0, 1, 2] [1, 3] [], .run 24, .callh [] [0] (.str e) ⟨.leaf, 0, G⟩, .run 1, .callv [0, 1] (.str w), .run 1, .callv [0, 1] (.str w4), .run 41, .opw false, .run 14, .told 2 (.fn fun k => some (.int .u8 ((((w1 ++ w2) ++ w4).getD k (0 : UInt8)).toNat : Int))) ((w1 ++ w2) ++ w4).length, .can 0 [1, 2] [3] []] ((zc P 30 [(.agg [.int .i64 n, .str t, .nils 0 0, .nils 0 0, .int .u64 nu])] G)) = ((decide (n < (0 : Int)) = false) ∧ (decide (n > (14 : Int)) = false) ∧ (Goal P (0) 48 (fun v _ => v = AV.str w0) (zc P 48 [.str [], .int .u64 (IntKind.u64.wrap n)] G)) ∧ (some (AV.str t) = some (AV.str t)) ∧ (Goal P (0) 49 (fun v _ => v = AV.str w1) (zc P 49 [.str w0, .str t] G)) ∧ (w1.length ≤ w1.length ∧ (0 : Nat) < w1.length ∧ zR w1.length (1) = true) ∧ (Goal P (0) 48 (fun v _ => v = AV.str w2) (zc P 48 [.str [], .int .u64 0] G)) ∧ (w2.length ≤ w2.length ∧ (0 : Nat) < w2.length ∧ 0 + w1.length * 1 ≤ w1.length * 1 ∧ 0 ≤ 0 + w1.length * 1 ∧ 0 = 0 * 1 ∧ zR (w1.length + w2.length) (1) = true ∧ w1.length * 1 < 0 + (w1.length + w2.length) * 1) ∧ (zY ((w1 ++ w2).length) ((.fn fun k => some (AV.int IntKind.u8 (↑((w1 ++ w2).getD k (0 : UInt8)).toNat : Int)))) ((.fn fun k => bif (0 + w1.length * 1).ble k && k.blt (0 + w1.length * 1 + w2.length * 1) then (fun k => some (AV.int IntKind.u8 (↑(w2.getD k (0 : UInt8)).toNat : Int))) (k - (0 + w1.length * 1)) else (T.fn fun k => some (AV.int IntKind.u8 (↑(w1.getD k (0 : UInt8)).toNat : Int))).get k))) ∧ ((w1 ++ w2).length = 0 + w1.length * 1 + w2.length * 1) ∧ (za fun k => some (AV.int IntKind.u8 (↑((w1 ++ w2).getD k (0 : UInt8)).toNat : Int))) ∧ (Goal P (0) 14 (fun v h => v = AV.str e ∧ h = { objs := T.leaf, next := (0 : Nat), glob := G }) (zc P 14 [.nils 0 0] G)) ∧ (some (AV.int IntKind.u64 nu) = some (AV.int IntKind.u64 nu)) ∧ (Goal P (0) 49 (fun v _ => v = AV.str w) (zc P 49 [.str [], .str e] G)) ∧ (some (AV.int IntKind.u64 nu) = some (AV.int IntKind.u64 nu)) ∧ (Goal P (0) 48 (fun v _ => v = AV.str w4) (zc P 48 [.str w, .int .u64 nu] G)) ∧ (w4.length ≤ w4.length ∧ (0 : Nat) < w4.length ∧ 0 + (w1.length + w2.length) * 1 ≤ (w1 ++ w2).length ∧ 0 ≤ 0 + (w1.length + w2.length) * 1 ∧ 0 = 0 * 1 ∧ zR (w1.length + w2.length + w4.length) (1) = true ∧ (w1 ++ w2).length < 0 + (w1.length + w2.length + w4.length) * 1) ∧ (zY ((w1 ++ w2 ++ w4).length) ((.fn fun k => some (AV.int IntKind.u8 (↑((w1 ++ w2 ++ w4).getD k (0 : UInt8)).toNat : Int)))) ((.fn fun k => bif (0 + (w1.length + w2.length) * 1).ble k && k.blt (0 + (w1.length + w2.length) * 1 + w4.length * 1) then (fun k => some (AV.int IntKind.u8 (↑(w4.getD k (0 : UInt8)).toNat : Int))) (k - (0 + (w1.length + w2.length) * 1)) else (T.fn fun k => some (AV.int IntKind.u8 (↑((w1 ++ w2).getD k (0 : UInt8)).toNat : Int))).get k))) ∧ ((w1 ++ w2 ++ w4).length = 0 + (w1.length + w2.length) * 1 + w4.length * 1) ∧ (za fun k => some (AV.int IntKind.u8 (↑((w1 ++ w2 ++ w4).getD k (0 : UInt8)).toNat : Int))) ∧ K (Aen (w1 ++ w2 ++ w4) (w1.length + w2.length + w4.length) (w1 ++ w2 ++ w4).length G)) := by kernel_rfl
theorem awde (R : AV → AHeap → Prop) (cell : Nat → AV) (t w0 w1 w2 e : List UInt8) (n nu : Int) (w w4 : List UInt8) (m zd : Nat) (G : T (T AV)) (K : AM → Prop) : Obl P 30 (fun v h => R v h) 1 K [.run 12, .know 9 false, .run 5, .know 13 false, .run 14, .callv [0, 1] (.str w0), .run 1, .callv [0, 1] (.str w1), .run 40, .opw false, .run 21, .callv [0, 1] (.str w2), .run 41, .opw false, .run 14, .told 3 (.fn fun k => some (.int .u8 (((w1 ++ w2).getD k (0 : UInt8)).toNat : Int))) (w1 ++ w2).length, .can 1 [0, 1, 2, 3] [1, 3] [], .run 24, .callh [(0, 0, [])] [0] (.str e) ⟨(.node .leaf (some (.cells (.fn fun j => some (cell j)) zd 35 0 0 1 0 false .leaf)) .leaf), 1, G⟩, .run 1, .callv [0, 1] (.str w), .run 1, .callv [0, 1] (.str w4), .run 41, .opw false, .run 14, .told 3 (.fn fun k => some (.int .u8 ((((w1 ++ w2) ++ w4).getD k (0 : UInt8)).toNat : Int))) ((w1 ++ w2) ++ w4).length, .can 1 [0, 2, 3] [3] []] ((zg P 30 [(.agg [.int .i64 n, .str t, .nils 0 0, .slg 0 0 0 m 0, .int .u64 nu])] ⟨(.node .leaf (some (.cells (.fn fun j => some (cell j)) zd 35 0 0 1 0 false .leaf)) .leaf), 1, G⟩)) = ((decide (n < (0 : Int)) = false) ∧ (decide (n > (14 : Int)) = false) ∧ (Goal P (0) 48 (fun v _ => v = AV.str w0) (zc P 48 [.str [], .int .u64 (IntKind.u64.wrap n)] G)) ∧ (some (AV.str t) = some (AV.str t)) ∧ (Goal P (0) 49 (fun v _ => v = AV.str w1) (zc P 49 [.str w0, .str t] G)) ∧ (w1.length ≤ w1.length ∧ (0 : Nat) < w1.length ∧ zR w1.length (1) = true) ∧ (Goal P (0) 48 (fun v _ => v = AV.str w2) (zc P 48 [.str [], .int .u64 0] G)) ∧ (w2.length ≤ w2.length ∧ (0 : Nat) < w2.length ∧ 0 + w1.length * 1 ≤ w1.length * 1 ∧ 0 ≤ 0 + w1.length * 1 ∧ 0 = 0 * 1 ∧ zR (w1.length + w2.length) (1) = true ∧ w1.length * 1 < 0 + (w1.length + w2.length) * 1) ∧ (zY ((w1 ++ w2).length) ((.fn fun k => some (AV.int IntKind.u8 (↑((w1 ++ w2).getD k (0 : UInt8)).toNat : Int)))) ((.fn fun k => bif (0 + w1.length * 1).ble k && k.blt (0 + w1.length * 1 + w2.length * 1) then (fun k => some (AV.int IntKind.u8 (↑(w2.getD k (0 : UInt8)).toNat : Int))) (k - (0 + w1.length * 1)) else (T.fn fun k => some (AV.int IntKind.u8 (↑(w1.getD k (0 : UInt8)).toNat : Int))).get k))) ∧ ((w1 ++ w2).length = 0 + w1.length * 1 + w2.length * 1) ∧ (za fun j => some (cell j)) ∧ (za fun k => some (AV.int IntKind.u8 (↑((w1 ++ w2).getD k (0 : UInt8)).toNat : Int))) ∧ (za fun j => some (cell j)) ∧ (za fun j => some (cell j)) ∧ (Goal P (1) 14 (fun v h => v = AV.str e ∧ h = { objs := T.leaf.node (some (AObj.cells (T.fn fun j => some (cell j)) zd (35 : TypeId) (0 : Nat) (0 : Nat) (1 : Nat) (0 : Nat) false T.leaf)) T.leaf, next := (1 : Nat), glob := G }) (zg P 14 [.slg 0 0 0 m 0] ⟨(.node .leaf (some (.cells (.fn fun j => some (cell j)) zd 35 0 0 1 0 false .leaf)) .leaf), 1, G⟩)) ∧ (some (AV.int IntKind.u64 nu) = some (AV.int IntKind.u64 nu)) ∧ (Goal P (0) 49 (fun v _ => v = AV.str w) (zc P 49 [.str [], .str e] G)) ∧ (some (AV.int IntKind.u64 nu) = some (AV.int IntKind.u64 nu)) ∧ (Goal P (0) 48 (fun v _ => v = AV.str w4) (zc P 48 [.str w, .int .u64 nu] G)) ∧ (w4.length ≤ w4.length ∧ (0 : Nat) < w4.length ∧ 0 + (w1.length + w2.length) * 1 ≤ (w1 ++ w2).length ∧ 0 ≤ 0 + (w1.length + w2.length) * 1 ∧ 0 = 0 * 1 ∧ zR (w1.length + w2.length + w4.length) (1) = true ∧ (w1 ++ w2).length < 0 + (w1.length + w2.length + w4.length) * 1) ∧ (zY ((w1 ++ w2 ++ w4).length) ((.fn fun k => some (AV.int IntKind.u8 (↑((w1 ++ w2 ++ w4).getD k (0 : UInt8)).toNat : Int)))) ((.fn fun k => bif (0 + (w1.length + w2.length) * 1).ble k && k.blt (0 + (w1.length + w2.length) * 1 + w4.length * 1) then (fun k => some (AV.int IntKind.u8 (↑(w4.getD k (0 : UInt8)).toNat : Int))) (k - (0 + (w1.length + w2.length) * 1)) else (T.fn fun k => some (AV.int IntKind.u8 (↑((w1 ++ w2).getD k (0 : UInt8)).toNat : Int))).get k))) ∧ ((w1 ++ w2 ++ w4).length = 0 + (w1.length + w2.length) * 1 + w4.length * 1) ∧ (za fun j => some (cell j)) ∧ (za fun k => some (AV.int IntKind.u8 (↑((w1 ++ w2 ++ w4).getD k (0 : UInt8)).toNat : Int))) ∧ K (Aed cell (w1 ++ w2 ++ w4) zd (w1.length + w2.length + w4.length) (w1 ++ w2 ++ w4).length G)) := by kernel_rfl
theorem awps (R : AV → AHeap → Prop) (pc : Nat → AV) (t w0 w1 w2 : List UInt8) (n nu : Int) (q z : Nat) (G : T (T AV)) (K : AM → Prop) : Obl P 30 (fun v h => R v h) 1 K [.run 12, .know 9 false, .run 5, .know 13 false, .run 14, .callv [0, 1] (.str w0), .run 1, .callv [0, 1] (.str w1), .run 40, .opw false, .run 21, .callv [0, 1] (.str w2), .run 41, .opw false, .run 24, .told 3 (.fn fun k => some (.int .u8 (((w1 ++ w2).getD k (0 : UInt8)).toNat : Int))) (w1 ++ w2).length, .can 1 [0, 1, 2, 3] [1, 3, 29, 30, 31] []] ((zg P 30 [(.agg [.int .i64 n, .str t, .slg 0 0 0 q 0, .nils 0 0, .int .u64 nu])] ⟨(.node .leaf (some (.cells (.fn fun c => some (pc c)) z 9 0 0 1 0 false .leaf)) .leaf), 1, G⟩)) = ((decide (n < (0 : Int)) = false) ∧ (decide (n > (14 : Int)) = false) ∧ (Goal P (0) 48 (fun v _ => v = AV.str w0) (zc P 48 [.str [], .int .u64 (IntKind.u64.wrap n)] G)) ∧ (some (AV.str t) = some (AV.str t)) ∧ (Goal P (0) 49 (fun v _ => v = AV.str w1) (zc P 49 [.str w0, .str t] G)) ∧ (w1.length ≤ w1.length ∧ (0 : Nat) < w1.length ∧ zR w1.length (1) = true) ∧ (Goal P (0) 48 (fun v _ => v = AV.str w2) (zc P 48 [.str [], .int .u64 (IntKind.u64.wrap (↑q : Int))] G)) ∧ (w2.length ≤ w2.length ∧ (0 : Nat) < w2.length ∧ 0 + w1.length * 1 ≤ w1.length * 1 ∧ 0 ≤ 0 + w1.length * 1 ∧ 0 = 0 * 1 ∧ zR (w1.length + w2.length) (1) = true ∧ w1.length * 1 < 0 + (w1.length + w2.length) * 1) ∧ (zY ((w1 ++ w2).length) ((.fn fun k => some (AV.int IntKind.u8 (↑((w1 ++ w2).getD k (0 : UInt8)).toNat : Int)))) ((.fn fun k => bif (0 + w1.length * 1).ble k && k.blt (0 + w1.length * 1 + w2.length * 1) then (fun k => some (AV.int IntKind.u8 (↑(w2.getD k (0 : UInt8)).toNat : Int))) (k - (0 + w1.length * 1)) else (T.fn fun k => some (AV.int IntKind.u8 (↑(w1.getD k (0 : UInt8)).toNat : Int))).get k))) ∧ ((w1 ++ w2).length = 0 + w1.length * 1 + w2.length * 1) ∧ (za fun c => some (pc c)) ∧ (za fun k => some (AV.int IntKind.u8 (↑((w1 ++ w2).getD k (0 : UInt8)).toNat : Int))) ∧ K (AwP pc (w1 ++ w2) t n nu (Int.ofNat (0)) q z (w1.length + w2.length) (w1 ++ w2).length G)) := by kernel_rfl
theorem awpl (R : AV → AHeap → Prop) (pc : Nat → AV) (s t p : List UInt8) (n nu i : Int) (w : List UInt8) (q z L N : Nat) (G : T (T AV)) (K : AM → Prop) : Obl P 30 (fun v h => R v h) 1 K [.run 5, .know 32 true, .run 6, .op, .op, .slot 34 (.str p), .run 5, .callv [0, 1] (.str w), .run 41, .opw false, .run 20, .told 3 (.fn fun k => some (.int .u8 (((s ++ w).getD k (0 : UInt8)).toNat : Int))) (s ++ w).length, .can 1 [0, 1, 2, 3] [1, 3, 29, 30, 31] []] ((AwP pc s t n nu i q z L N G)) = ((decide (i < (↑q : Int)) = true) ∧ ((0 : Int) ≤ i ∧ i < (↑q : Int)) ∧ (0 + i.toNat * 1 + (1 : Nat) ≤ z) ∧ (pc (0 + i.toNat * 1) = AV.str p) ∧ (Goal P (0) 49 (fun v _ => v = AV.str w) (zc P 49 [.str [], .str p] G)) ∧ (w.length ≤ w.length ∧ (0 : Nat) < w.length ∧ 0 + L * 1 ≤ N ∧ 0 ≤ 0 + L * 1 ∧ 0 = 0 * 1 ∧ zR (L + w.length) (1) = true ∧ N < 0 + (L + w.length) * 1) ∧ (zY ((s ++ w).length) ((.fn fun k => some (AV.int IntKind.u8 (↑((s ++ w).getD k (0 : UInt8)).toNat : Int)))) ((.fn fun k => bif (0 + L * 1).ble k && k.blt (0 + L * 1 + w.length * 1) then (fun k => some (AV.int IntKind.u8 (↑(w.getD k (0 : UInt8)).toNat : Int))) (k - (0 + L * 1)) else (T.fn fun k => some (AV.int IntKind.u8 (↑(s.getD k (0 : UInt8)).toNat : Int))).get k))) ∧ ((s ++ w).length = 0 + L * 1 + w.length * 1) ∧ (za fun c => some (pc c)) ∧ (za fun k => some (AV.int IntKind.u8 (↑((s ++ w).getD k (0 : UInt8)).toNat : Int))) ∧ K (AwP pc (s ++ w) t n nu (IntKind.i64.wrap (i + (1 : Int))) q z (L + w.length) (s ++ w).length G)) := by kernel_rfl
theorem awpe (R : AV → AHeap → Prop) (pc : Nat → AV) (s t e : List UInt8) (n nu i : Int) (w w4 : List UInt8) (q z L N : Nat) (G : T (T AV)) (K : AM → Prop) : Obl P 30 (fun v h => R v h) 1 K [.run 5, .know 32 false, .run 9, .callh [] [0] (.str e) ⟨.leaf, 0, G⟩, .run 1, .callv [0, 1] (.str w), .run 1, .callv [0, 1] (.str w4), .run 41, .opw false, .run 14, .told 3 (.fn fun k => some (.int .u8 (((s ++ w4).getD k (0 : UInt8)).toNat : Int))) (s ++ w4).length, .can 1 [0, 2, 3] [3] []] ((AwP pc s t n nu i q z L N G)) = ((decide (i < (↑q : Int)) = false) ∧ (Goal P (0) 14 (fun v h => v = AV.str e ∧ h = { objs := T.leaf, next := (0 : Nat), glob := G }) (zc P 14 [.nils 0 0] G)) ∧ (some (AV.int IntKind.u64 nu) = some (AV.int IntKind.u64 nu)) ∧ (Goal P (0) 49 (fun v _ => v = AV.str w) (zc P 49 [.str [], .str e] G)) ∧ (some (AV.int IntKind.u64 nu) = some (AV.int IntKind.u64 nu)) ∧ (Goal P (0) 48 (fun v _ => v = AV.str w4) (zc P 48 [.str w, .int .u64 nu] G)) ∧ (w4.length ≤ w4.length ∧ (0 : Nat) < w4.length ∧ 0 + L * 1 ≤ N ∧ 0 ≤ 0 + L * 1 ∧ 0 = 0 * 1 ∧ zR (L + w4.length) (1) = true ∧ N < 0 + (L + w4.length) * 1) ∧ (zY ((s ++ w4).length) ((.fn fun k => some (AV.int IntKind.u8 (↑((s ++ w4).getD k (0 : UInt8)).toNat : Int)))) ((.fn fun k => bif (0 + L * 1).ble k && k.blt (0 + L * 1 + w4.length * 1) then (fun k => some (AV.int IntKind.u8 (↑(w4.getD k (0 : UInt8)).toNat : Int))) (k - (0 + L * 1)) else (T.fn fun k => some (AV.int IntKind.u8 (↑(s.getD k (0 : UInt8)).toNat : Int))).get k))) ∧ ((s ++ w4).length = 0 + L * 1 + w4.length * 1) ∧ (za fun c => some (pc c)) ∧ (za fun k => some (AV.int IntKind.u8 (↑((s ++ w4).getD k (0 : UInt8)).toNat : Int))) ∧ K (Aep pc (s ++ w4) z (L + w4.length) (s ++ w4).length G)) := by kernel_rfl
theorem awbs (R : AV → AHeap → Prop) (pc cell : Nat → AV) (t w0 w1 w2 : List UInt8) (n nu : Int) (m q z zd : Nat) (G : T (T AV)) (K : AM → Prop) : Obl P 30 (fun v h => R v h) 2 K [.run 12, .know 9 false, .run 5, .know 13 false, .run 14, .callv [0, 1] (.str w0), .run 1, .callv [0, 1] (.str w1), .run 40, .opw false, .run 21, .callv [0, 1] (.str w2), .run 41, .opw false, .run 24, .told 4 (.fn fun k => some (.int .u8 (((w1 ++ w2).getD k (0 : UInt8)).toNat : Int))) (w1 ++ w2).length, .can 2 [0, 1, 2, 3, 4] [1, 3, 29, 30, 31] []] ((zg P 30 [(.agg [.int .i64 n, .str t, .slg 0 0 0 q 0, .slg 1 0 0 m 0, .int .u64 nu])] ⟨(.node (.node .leaf (some (.cells (.fn fun j => some (cell j)) zd 35 0 0 1 0 false .leaf)) .leaf) (some (.cells (.fn fun c => some (pc c)) z 9 0 0 1 0 false .leaf)) .leaf), 2, G⟩)) = ((decide (n < (0 : Int)) = false) ∧ (decide (n > (14 : Int)) = false) ∧ (Goal P (0) 48 (fun v _ => v = AV.str w0) (zc P 48 [.str [], .int .u64 (IntKind.u64.wrap n)] G)) ∧ (some (AV.str t) = some (AV.str t)) ∧ (Goal P (0) 49 (fun v _ => v = AV.str w1) (zc P 49 [.str w0, .str t] G)) ∧ (w1.length ≤ w1.length ∧ (0 : Nat) < w1.length ∧ zR w1.length (1) = true) ∧ (Goal P (0) 48 (fun v _ => v = AV.str w2) (zc P 48 [.str [], .int .u64 (IntKind.u64.wrap (↑q : Int))] G)) ∧ (w2.length ≤ w2.length ∧ (0 : Nat) < w2.length ∧ 0 + w1.length * 1 ≤ w1.length * 1 ∧ 0 ≤ 0 + w1.length * 1 ∧ 0 = 0 * 1 ∧ zR (w1.length + w2.length) (1) = true ∧ w1.length * 1 < 0 + (w1.length + w2.length) * 1) ∧ (zY ((w1 ++ w2).length) ((.fn fun k => some (AV.int IntKind.u8 (↑((w1 ++ w2).getD k (0 : UInt8)).toNat : Int)))) ((.fn fun k => bif (0 + w1.length * 1).ble k && k.blt (0 + w1.length * 1 + w2.length * 1) then (fun k => some (AV.int IntKind.u8 (↑(w2.getD k (0 : UInt8)).toNat : Int))) (k - (0 + w1.length * 1)) else (T.fn fun k => some (AV.int IntKind.u8 (↑(w1.getD k (0 : UInt8)).toNat : Int))).get k))) ∧ ((w1 ++ w2).length = 0 + w1.length * 1 + w2.length * 1) ∧ (za fun c => some (pc c)) ∧ (za fun j => some (cell j)) ∧ (za fun k => some (AV.int IntKind.u8 (↑((w1 ++ w2).getD k (0 : UInt8)).toNat : Int))) ∧ K (AwB pc cell (w1 ++ w2) t n nu (Int.ofNat (0)) m q z zd (w1.length + w2.length) (w1 ++ w2).length G)) := by kernel_rfl
theorem awbl (R : AV → AHeap → Prop) (pc cell : Nat → AV) (s t p : List UInt8) (n nu i : Int) (w : List UInt8) (m q z zd L N : Nat) (G : T (T AV)) (K : AM → Prop) : Obl P 30 (fun v h => R v h) 2 K [.run 5, .know 32 true, .run 6, .op, .op, .slot 34 (.str p), .run 5, .callv [0, 1] (.str w), .run 41, .opw false, .run 20, .told 4 (.fn fun k => some (.int .u8 (((s ++ w).getD k (0 : UInt8)).toNat : Int))) (s ++ w).length, .can 2 [0, 1, 2, 3, 4] [1, 3, 29, 30, 31] []] ((AwB pc cell s t n nu i m q z zd L N G)) = ((decide (i < (↑q : Int)) = true) ∧ ((0 : Int) ≤ i ∧ i < (↑q : Int)) ∧ (0 + i.toNat * 1 + (1 : Nat) ≤ z) ∧ (pc (0 + i.toNat * 1) = AV.str p) ∧ (Goal P (0) 49 (fun v _ => v = AV.str w) (zc P 49 [.str [], .str p] G)) ∧ (w.length ≤ w.length ∧ (0 : Nat) < w.length ∧ 0 + L * 1 ≤ N ∧ 0 ≤ 0 + L * 1 ∧ 0 = 0 * 1 ∧ zR (L + w.length) (1) = true ∧ N < 0 + (L + w.length) * 1) ∧ (zY ((s ++ w).length) ((.fn fun k => some (AV.int IntKind.u8 (↑((s ++ w).getD k (0 : UInt8)).toNat : Int)))) ((.fn fun k => bif (0 + L * 1).ble k && k.blt (0 + L * 1 + w.length * 1) then (fun k => some (AV.int IntKind.u8 (↑(w.getD k (0 : UInt8)).toNat : Int))) (k - (0 + L * 1)) else (T.fn fun k => some (AV.int IntKind.u8 (↑(s.getD k (0 : UInt8)).toNat : Int))).get k))) ∧ ((s ++ w).length = 0 + L * 1 + w.length * 1) ∧ (za fun c => some (pc c)) ∧ (za fun j => some (cell j)) ∧ (za fun k => some (AV.int IntKind.u8 (↑((s ++ w).getD k (0 : UInt8)).toNat : Int))) ∧ K (AwB pc cell (s ++ w) t n nu (IntKind.i64.wrap (i + (1 : Int))) m q z zd (L + w.length) (s ++ w).length G)) := by kernel_rfl
theorem awbe (R : AV → AHeap → Prop) (pc cell : Nat → AV) (s t e : List UInt8) (n nu i : Int) (w w4 : List UInt8) (m q z zd L N : Nat) (G : T (T AV)) (K : AM → Prop) : Obl P 30 (fun v h => R v h) 2 K [.run 5, .know 32 false, .run 9, .callh [(1, 0, [])] [0] (.str e) ⟨(.node .leaf (some (.cells (.fn fun j => some (cell j)) zd 35 0 0 1 0 false .leaf)) .leaf), 1, G⟩, .run 1, .callv [0, 1] (.str w), .run 1, .callv [0, 1] (.str w4), .run 41, .opw false, .run 14, .told 4 (.fn fun k => some (.int .u8 (((s ++ w4).getD k (0 : UInt8)).toNat : Int))) (s ++ w4).length, .can 2 [0, 1, 3, 4] [3] []] ((AwB pc cell s t n nu i m q z zd L N G)) = ((decide (i < (↑q : Int)) = false) ∧ (za fun j => some (cell j)) ∧ (za fun j => some (cell j)) ∧ (Goal P (1) 14 (fun v h => v = AV.str e ∧ h = { objs := T.leaf.node (some (AObj.cells (T.fn fun j => some (cell j)) zd (35 : TypeId) (0 : Nat) (0 : Nat) (1 : Nat) (0 : Nat) false T.leaf)) T.leaf, next := (1 : Nat), glob := G }) (zg P 14 [.slg 0 0 0 m 0] ⟨(.node .leaf (some (.cells (.fn fun j => some (cell j)) zd 35 0 0 1 0 false .leaf)) .leaf), 1, G⟩)) ∧ (some (AV.int IntKind.u64 nu) = some (AV.int IntKind.u64 nu)) ∧ (Goal P (0) 49 (fun v _ => v = AV.str w) (zc P 49 [.str [], .str e] G)) ∧ (some (AV.int IntKind.u64 nu) = some (AV.int IntKind.u64 nu)) ∧ (Goal P (0) 48 (fun v _ => v = AV.str w4) (zc P 48 [.str w, .int .u64 nu] G)) ∧ (w4.length ≤ w4.length ∧ (0 : Nat) < w4.length ∧ 0 + L * 1 ≤ N ∧ 0 ≤ 0 + L * 1 ∧ 0 = 0 * 1 ∧ zR (L + w4.length) (1) = true ∧ N < 0 + (L + w4.length) * 1) ∧ (zY ((s ++ w4).length) ((.fn fun k => some (AV.int IntKind.u8 (↑((s ++ w4).getD k (0 : UInt8)).toNat : Int)))) ((.fn fun k => bif (0 + L * 1).ble k && k.blt (0 + L * 1 + w4.length * 1) then (fun k => some (AV.int IntKind.u8 (↑(w4.getD k (0 : UInt8)).toNat : Int))) (k - (0 + L * 1)) else (T.fn fun k => some (AV.int IntKind.u8 (↑(s.getD k (0 : UInt8)).toNat : Int))).get k))) ∧ ((s ++ w4).length = 0 + L * 1 + w4.length * 1) ∧ (za fun c => some (pc c)) ∧ (za fun j => some (cell j)) ∧ (za fun k => some (AV.int IntKind.u8 (↑((s ++ w4).getD k (0 : UInt8)).toNat : Int))) ∧ K (Aeb pc cell (s ++ w4) z zd (L + w4.length) (s ++ w4).length G)) := by kernel_rfl
theorem awzn (R : AV → AHeap → Prop) (s : List UInt8) (L N r0 : Nat) (G : T (T AV)) (_K : AM → Prop) : Obl P 30 (fun v h => R v h) 0 _K [.run 13, .slot 6 (.slg 1 0 0 (r0 + 1) 0), .run 6, .ext s, .run 7, .can 0 [] [2] [], .done] ((Aen s L N G)) = ((AV.slg (1) (0) (0) L (0) = AV.slg (1) (0) (0) (r0 + (1 : Nat)) (0)) ∧ ((0 : Int) < (↑L : Int) ∧ (↑L : Int) < (2 : Int) ^ (40 : Nat) ∧ (↑L : Int).toNat ≤ N ∧ P.cellsOf (5) = (1 : Nat) ∧ zK (zy (T.fn fun k => some (AV.int IntKind.u8 (↑(s.getD k (0 : UInt8)).toNat : Int))) (0 : Nat) (↑L : Int).toNat) = some (AV.str s)) ∧ (R (.str s) (⟨.leaf, 0, G⟩))) := by kernel_rfl
theorem awzd (R : AV → AHeap → Prop) (cell : Nat → AV) (s : List UInt8) (zd L N r0 : Nat) (G : T (T AV)) (_K : AM → Prop) : Obl P 30 (fun v h => R v h) 1 _K [.run 13, .slot 6 (.slg 2 0 0 (r0 + 1) 0), .run 6, .ext s, .run 7, .can 1 [0] [2] [], .done] ((Aed cell s zd L N G)) = ((AV.slg (2) (0) (0) L (0) = AV.slg (2) (0) (0) (r0 + (1 : Nat)) (0)) ∧ ((0 : Int) < (↑L : Int) ∧ (↑L : Int) < (2 : Int) ^ (40 : Nat) ∧ (↑L : Int).toNat ≤ N ∧ P.cellsOf (5) = (1 : Nat) ∧ zK (zy (T.fn fun k => some (AV.int IntKind.u8 (↑(s.getD k (0 : UInt8)).toNat : Int))) (0 : Nat) (↑L : Int).toNat) = some (AV.str s)) ∧ (za fun j => some (cell j)) ∧ (R (.str s) (⟨(.node .leaf (some (.cells (.fn fun j => some (cell j)) zd 35 0 0 1 0 false .leaf)) .leaf), 1, G⟩))) := by kernel_rfl
theorem awzp (R : AV → AHeap → Prop) (pc : Nat → AV) (s : List UInt8) (z L N r0 : Nat) (G : T (T AV)) (_K : AM → Prop) : Obl P 30 (fun v h => R v h) 1 _K [.run 13, .slot 6 (.slg 2 0 0 (r0 + 1) 0), .run 6, .ext s, .run 7, .can 1 [0] [2] [], .done] ((Aep pc s z L N G)) = ((AV.slg (2) (0) (0) L (0) = AV.slg (2) (0) (0) (r0 + (1 : Nat)) (0)) ∧ ((0 : Int) < (↑L : Int) ∧ (↑L : Int) < (2 : Int) ^ (40 : Nat) ∧ (↑L : Int).toNat ≤ N ∧ P.cellsOf (5) = (1 : Nat) ∧ zK (zy (T.fn fun k => some (AV.int IntKind.u8 (↑(s.getD k (0 : UInt8)).toNat : Int))) (0 : Nat) (↑L : Int).toNat) = some (AV.str s)) ∧ (za fun c => some (pc c)) ∧ (R (.str s) (⟨(.node .leaf (some (.cells (.fn fun c => some (pc c)) z 9 0 0 1 0 false .leaf)) .leaf), 1, G⟩))) := by kernel_rfl
theorem awzb (R : AV → AHeap → Prop) (pc cell : Nat → AV) (s : List UInt8) (z zd L N r0 : Nat) (G : T (T AV)) (_K : AM → Prop) : Obl P 30 (fun v h => R v h) 2 _K [.run 13, .slot 6 (.slg 3 0 0 (r0 + 1) 0), .run 6, .ext s, .run 7, .can 2 [0, 1] [2] [], .done] ((Aeb pc cell s z zd L N G)) = ((AV.slg (3) (0) (0) L (0) = AV.slg (3) (0) (0) (r0 + (1 : Nat)) (0)) ∧ ((0 : Int) < (↑L : Int) ∧ (↑L : Int) < (2 : Int) ^ (40 : Nat) ∧ (↑L : Int).toNat ≤ N ∧ P.cellsOf (5) = (1 : Nat) ∧ zK (zy (T.fn fun k => some (AV.int IntKind.u8 (↑(s.getD k (0 : UInt8)).toNat : Int))) (0 : Nat) (↑L : Int).toNat) = some (AV.str s)) ∧ (za fun c => some (pc c)) ∧ (za fun j => some (cell j)) ∧ (R (.str s) (⟨(.node (.node .leaf (some (.cells (.fn fun j => some (cell j)) zd 35 0 0 1 0 false .leaf)) .leaf) (some (.cells (.fn fun c => some (pc c)) z 9 0 0 1 0 false .leaf)) .leaf), 2, G⟩))) := by kernel_rfl
theorem awnx (R : AV → AHeap → Prop) (t : List UInt8) (n nu : Int) (G : T (T AV)) (_K : AM → Prop) : Obl P 30 (fun v h => R v h) 0 _K [.run 12, .know 9 true, .run 10, .can 0 [] [2] [], .run 1, .done] ((zc P 30 [(.agg [.int .i64 n, .str t, .nils 0 0, .nils 0 0, .int .u64 nu])] G)) = ((decide (n < (0 : Int)) = true) ∧ (R (.str []) (⟨.leaf, 0, G⟩))) := by kernel_rfl
theorem awny (R : AV → AHeap → Prop) (t : List UInt8) (n nu : Int) (G : T (T AV)) (_K : AM → Prop) : Obl P 30 (fun v h => R v h) 0 _K [.run 12, .know 9 false, .run 5, .know 13 true, .run 5, .can 0 [] [2] [], .run 1, .done] ((zc P 30 [(.agg [.int .i64 n, .str t, .nils 0 0, .nils 0 0, .int .u64 nu])] G)) = ((decide (n < (0 : Int)) = false) ∧ (decide (n > (14 : Int)) = true) ∧ (R (.str []) (⟨.leaf, 0, G⟩))) := by kernel_rfl
theorem awdx (R : AV → AHeap → Prop) (cell : Nat → AV) (t : List UInt8) (n nu : Int) (m zd : Nat) (G : T (T AV)) (_K : AM → Prop) : Obl P 30 (fun v h => R v h) 1 _K [.run 12, .know 9 true, .run 10, .can 1 [0] [2] [], .run 1, .done] ((zg P 30 [(.agg [.int .i64 n, .str t, .nils 0 0, .slg 0 0 0 m 0, .int .u64 nu])] ⟨(.node .leaf (some (.cells (.fn fun j => some (cell j)) zd 35 0 0 1 0 false .leaf)) .leaf), 1, G⟩)) = ((decide (n < (0 : Int)) = true) ∧ (za fun j => some (cell j)) ∧ (R (.str []) (⟨(.node .leaf (some (.cells (.fn fun j => some (cell j)) zd 35 0 0 1 0 false .leaf)) .leaf), 1, G⟩))) := by kernel_rfl
theorem awdy (R : AV → AHeap → Prop) (cell : Nat → AV) (t : List UInt8) (n nu : Int) (m zd : Nat) (G : T (T AV)) (_K : AM → Prop) : Obl P 30 (fun v h => R v h) 1 _K [.run 12, .know 9 false, .run 5, .know 13 true, .run 5, .can 1 [0] [2] [], .run 1, .done] ((zg P 30 [(.agg [.int .i64 n, .str t, .nils 0 0, .slg 0 0 0 m 0, .int .u64 nu])] ⟨(.node .leaf (some (.cells (.fn fun j => some (cell j)) zd 35 0 0 1 0 false .leaf)) .leaf), 1, G⟩)) = ((decide (n < (0 : Int)) = false) ∧ (decide (n > (14 : Int)) = true) ∧ (za fun j => some (cell j)) ∧ (R (.str []) (⟨(.node .leaf (some (.cells (.fn fun j => some (cell j)) zd 35 0 0 1 0 false .leaf)) .leaf), 1, G⟩))) := by kernel_rfl
theorem awpx (R : AV → AHeap → Prop) (pc : Nat → AV) (t : List UInt8) (n nu : Int) (q z : Nat) (G : T (T AV)) (_K : AM → Prop) : Obl P 30 (fun v h => R v h) 1 _K [.run 12, .know 9 true, .run 10, .can 1 [0] [2] [], .run 1, .done] ((zg P 30 [(.agg [.int .i64 n, .str t, .slg 0 0 0 q 0, .nils 0 0, .int .u64 nu])] ⟨(.node .leaf (some (.cells (.fn fun c => some (pc c)) z 9 0 0 1 0 false .leaf)) .leaf), 1, G⟩)) = ((decide (n < (0 : Int)) = true) ∧ (za fun c => some (pc c)) ∧ (R (.str []) (⟨(.node .leaf (some (.cells (.fn fun c => some (pc c)) z 9 0 0 1 0 false .leaf)) .leaf), 1, G⟩))) := by kernel_rfl
theorem awpy (R : AV → AHeap → Prop) (pc : Nat → AV) (t : List UInt8) (n nu : Int) (q z : Nat) (G : T (T AV)) (_K : AM → Prop) : Obl P 30 (fun v h => R v h) 1 _K [.run 12, .know 9 false, .run 5, .know 13 true, .run 5, .can 1 [0] [2] [], .run 1, .done] ((zg P 30 [(.agg [.int .i64 n, .str t, .slg 0 0 0 q 0, .nils 0 0, .int .u64 nu])] ⟨(.node .leaf (some (.cells (.fn fun c => some (pc c)) z 9 0 0 1 0 false .leaf)) .leaf), 1, G⟩)) = ((decide (n < (0 : Int)) = false) ∧ (decide (n > (14 : Int)) = true) ∧ (za fun c => some (pc c)) ∧ (R (.str []) (⟨(.node .leaf (some (.cells (.fn fun c => some (pc c)) z 9 0 0 1 0 false .leaf)) .leaf), 1, G⟩))) := by kernel_rfl
theorem awbx (R : AV → AHeap → Prop) (pc cell : Nat → AV) (t : List UInt8) (n nu : Int) (m q z zd : Nat) (G : T (T AV)) (_K : AM → Prop) : Obl P 30 (fun v h => R v h) 2 _K [.run 12, .know 9 true, .run 10, .can 2 [0, 1] [2] [], .run 1, .done] ((zg P 30 [(.agg [.int .i64 n, .str t, .slg 0 0 0 q 0, .slg 1 0 0 m 0, .int .u64 nu])] ⟨(.node (.node .leaf (some (.cells (.fn fun j => some (cell j)) zd 35 0 0 1 0 false .leaf)) .leaf) (some (.cells (.fn fun c => some (pc c)) z 9 0 0 1 0 false .leaf)) .leaf), 2, G⟩)) = ((decide (n < (0 : Int)) = true) ∧ (za fun c => some (pc c)) ∧ (za fun j => some (cell j)) ∧ (R (.str []) (⟨(.node (.node .leaf (some (.cells (.fn fun j => some (cell j)) zd 35 0 0 1 0 false .leaf)) .leaf) (some (.cells (.fn fun c => some (pc c)) z 9 0 0 1 0 false .leaf)) .leaf), 2, G⟩))) := by kernel_rfl
theorem awby (R : AV → AHeap → Prop) (pc cell : Nat → AV) (t : List UInt8) (n nu : Int) (m q z zd : Nat) (G : T (T AV)) (_K : AM → Prop) : Obl P 30 (fun v h => R v h) 2 _K [.run 12, .know 9 false, .run 5, .know 13 true, .run 5, .can 2 [0, 1] [2] [], .run 1, .done] ((zg P 30 [(.agg [.int .i64 n, .str t, .slg 0 0 0 q 0, .slg 1 0 0 m 0, .int .u64 nu])] ⟨(.node (.node .leaf (some (.cells (.fn fun j => some (cell j)) zd 35 0 0 1 0 false .leaf)) .leaf) (some (.cells (.fn fun c => some (pc c)) z 9 0 0 1 0 false .leaf)) .leaf), 2, G⟩)) = ((decide (n < (0 : Int)) = false) ∧ (decide (n > (14 : Int)) = true) ∧ (za fun c => some (pc c)) ∧ (za fun j => some (cell j)) ∧ (R (.str []) (⟨(.node (.node .leaf (some (.cells (.fn fun j => some (cell j)) zd 35 0 0 1 0 false .leaf)) .leaf) (some (.cells (.fn fun c => some (pc c)) z 9 0 0 1 0 false .leaf)) .leaf), 2, G⟩))) := by kernel_rfl
noncomputable def HPp (g : Nat → List UInt8) (z : Nat) : AHeap := ⟨(.node .leaf (some (.cells (.fn fun c => some (es g c)) z 9 0 0 1 0 false .leaf)) .leaf), 1, GW⟩
noncomputable def HPb (g : Nat → List UInt8) (z : Nat) (f : Nat → Dg) (zd : Nat) : AHeap := ⟨(.node (.node .leaf (some (.cells (.fn fun c => some (el f c)) zd 35 0 0 1 0 false .leaf)) .leaf) (some (.cells (.fn fun c => some (es g c)) z 9 0 0 1 0 false .leaf)) .leaf), 2, GW⟩
theorem zfD (p : List UInt8) (h : p.length < 1000000) : Goal P 0 49 (fun x _ => x = .str (zk p)) (zc P 49 [.str [], .str p] GW) := by
 have := putt [] p (by show 0 + _ + 9 < _; omega)
 rw [zlD _ h, List.nil_append] at this
 exact this
theorem zju (n : Int) (t : List UInt8) (h : t.length < 1000000) : Goal P 0 49 (fun x _ => x = .str (row n ++ zk t)) (zc P 49 [.str (row n), .str t] GW) := by
 have hr := zh n
 have := putt (row n) t (by omega)
 rw [zlD _ h, List.append_assoc] at this
 exact this
theorem ziL (g : Nat → List UInt8) (i : Nat) : es g (0 + ((i : Nat) : Int).toNat * 1) = AV.str (g i) := by
 rw [Int.toNat_natCast, Nat.zero_add, Nat.mul_one]
 rfl
theorem aw_p {q z : Nat} {g : Nat → List UInt8} (hz : q * 1 ≤ z) {n nu : Int} (v0 : 0 ≤ nu) (v1 : nu ≤ 18446744073709551615) {t : List UInt8} {S : List UInt8} (hq : q ≤ 100000) (hS : S.length ≤ 100000000) (hb : ∀ j, j < q → (g j).length < 1000000) (he : (zS []).length < 1000000) :
 ∀ r i (s : List UInt8) L N, i + r = q → L = s.length → N = s.length → 0 < s.length → s ++ (sl g i r).flatMap zk ++ (zk (zS []) ++ row nu) = S →
  Goal P 1 30 (fun v h => v = .str S ∧ h = HPp g z) (AwP (es g) s t n nu (i : Int) q z L N GW)
 | 0, i, s, L, N, hi, hL, hN, h0, hs => by
  obtain rfl : q = i := by omega
  subst hL hN
  have hlen := congrArg List.length hs
  have hs' : s ++ (zk (zS []) ++ row nu) = S := by rw [← hs]; show _ = s ++ [] ++ _; rw [List.append_nil]
  have hp := xn nu
  rw [← hs'] at hS ⊢
  simp only [List.length_append] at hS
  obtain ⟨r0, hr0⟩ : ∃ r0, s.length + (zk (zS []) ++ row nu).length = r0 + 1 := ⟨s.length + (zk (zS []) ++ row nu).length - 1, by simp only [List.length_append]; omega⟩
  have h4 : (zk (zS []) ++ row nu).length = (zk (zS [])).length + (row nu).length := List.length_append
  have h5 : (s ++ (zk (zS []) ++ row nu)).length = s.length + (zk (zS []) ++ row nu).length := List.length_append
  exact Obl.goal (K := Goal P 1 30 _) mix (fun _ h => h) (cast (awpe _ (es g) _ _ (zS []) _ _ _ (zk (zS [])) (zk (zS []) ++ row nu) (q) (z) _ _ GW _).symm ⟨decide_eq_false (by omega), zgk, rfl, zfD _ he, rfl, zcU _ _ v0 v1 (by omega), ⟨Nat.le_refl _, by omega, by omega, by omega, by omega, room _ (by omega), by omega⟩, qI s _ _ rfl rfl, by rw [List.length_append]; omega, zE _, xB _, Obl.goal (K := Goal P 1 30 _) mix (fun _ h => h) (cast (awzp _ (es g) _ (z) _ _ (r0) GW _).symm ⟨by rw [hr0], ⟨by omega, by omega, by rw [Int.toNat_natCast]; omega, by kernel_rfl, w9 _ _ (by rw [Int.toNat_natCast]; simp only [List.length_append])⟩, zE _, rfl, rfl⟩)⟩)
 | r + 1, i, s, L, N, hi, hL, hN, h0, hs => by
  subst hL hN
  rw [zbv, List.flatMap_cons] at hs
  have hlen := congrArg List.length hs
  simp only [List.length_append] at hlen
  have hp : 0 < (zk (g i)).length := by unfold zk; rw [List.length_append]; have := xn ((g i).length : Nat); omega
  have ih := aw_p hz v0 v1 (t := t) (n := n) hq hS hb he r (i + 1) (s ++ zk (g i)) (s.length + (zk (g i)).length) (s ++ zk (g i)).length (by omega) (by rw [List.length_append]) rfl (by rw [List.length_append]; omega) (by rw [← hs]; simp only [List.append_assoc])
  exact Obl.goal (K := Goal P 1 30 _) mix (fun _ h => h) (cast (awpl _ (es g) _ _ (g i) _ _ _ (zk (g i)) (q) (z) _ _ GW _).symm ⟨decide_eq_true (by omega), ⟨by omega, by omega⟩, by rw [Int.toNat_natCast]; omega, ziL g i, zfD _ (hb i (by omega)), ⟨Nat.le_refl _, by omega, by omega, by omega, by omega, room _ (by omega), by omega⟩, qI s _ _ rfl rfl, by rw [List.length_append]; omega, zE _, xB _, by rw [up1 i (by omega)]; exact ih⟩)
theorem aw_b {m zd : Nat} {f : Nat → Dg} (hm : m < 100000) (hzd : m * 3 ≤ zd) {l : List Dg} (hl : So (sl f 0 m) l) {q z : Nat} {g : Nat → List UInt8} (hz : q * 1 ≤ z) {n nu : Int} (v0 : 0 ≤ nu) (v1 : nu ≤ 18446744073709551615) {t : List UInt8} {S : List UInt8} (hq : q ≤ 100000) (hS : S.length ≤ 100000000) (hb : ∀ j, j < q → (g j).length < 1000000) (he : (zS l).length < 1000000) :
 ∀ r i (s : List UInt8) L N, i + r = q → L = s.length → N = s.length → 0 < s.length → s ++ (sl g i r).flatMap zk ++ (zk (zS l) ++ row nu) = S →
  Goal P 2 30 (fun v h => v = .str S ∧ h = HPb g z f zd) (AwB (es g) (el f) s t n nu (i : Int) m q z zd L N GW)
 | 0, i, s, L, N, hi, hL, hN, h0, hs => by
  obtain rfl : q = i := by omega
  subst hL hN
  have hlen := congrArg List.length hs
  have hs' : s ++ (zk (zS l) ++ row nu) = S := by rw [← hs]; show _ = s ++ [] ++ _; rw [List.append_nil]
  have hp := xn nu
  rw [← hs'] at hS ⊢
  simp only [List.length_append] at hS
  obtain ⟨r0, hr0⟩ : ∃ r0, s.length + (zk (zS l) ++ row nu).length = r0 + 1 := ⟨s.length + (zk (zS l) ++ row nu).length - 1, by simp only [List.length_append]; omega⟩
  have h4 : (zk (zS l) ++ row nu).length = (zk (zS l)).length + (row nu).length := List.length_append
  have h5 : (s ++ (zk (zS l) ++ row nu)).length = s.length + (zk (zS l) ++ row nu).length := List.length_append
  exact Obl.goal (K := Goal P 2 30 _) mix (fun _ h => h) (cast (awbe _ (es g) (el f) _ _ (zS l) _ _ _ (zk (zS l)) (zk (zS l) ++ row nu) (m) (q) (z) (zd) _ _ GW _).symm ⟨decide_eq_false (by omega), ze _, ze _, zgB (off := 0) (cp := 0) hzd hm hl, rfl, zfD _ he, rfl, zcU _ _ v0 v1 (by omega), ⟨Nat.le_refl _, by omega, by omega, by omega, by omega, room _ (by omega), by omega⟩, qI s _ _ rfl rfl, by rw [List.length_append]; omega, zE _, ze _, xB _, Obl.goal (K := Goal P 2 30 _) mix (fun _ h => h) (cast (awzb _ (es g) (el f) _ (z) (zd) _ _ (r0) GW _).symm ⟨by rw [hr0], ⟨by omega, by omega, by rw [Int.toNat_natCast]; omega, by kernel_rfl, w9 _ _ (by rw [Int.toNat_natCast]; simp only [List.length_append])⟩, zE _, ze _, rfl, rfl⟩)⟩)
 | r + 1, i, s, L, N, hi, hL, hN, h0, hs => by
  subst hL hN
  rw [zbv, List.flatMap_cons] at hs
  have hlen := congrArg List.length hs
  simp only [List.length_append] at hlen
  have hp : 0 < (zk (g i)).length := by unfold zk; rw [List.length_append]; have := xn ((g i).length : Nat); omega
  have ih := aw_b hm hzd hl hz v0 v1 (t := t) (n := n) hq hS hb he r (i + 1) (s ++ zk (g i)) (s.length + (zk (g i)).length) (s ++ zk (g i)).length (by omega) (by rw [List.length_append]) rfl (by rw [List.length_append]; omega) (by rw [← hs]; simp only [List.append_assoc])
  exact Obl.goal (K := Goal P 2 30 _) mix (fun _ h => h) (cast (awbl _ (es g) (el f) _ _ (g i) _ _ _ (zk (g i)) (m) (q) (z) (zd) _ _ GW _).symm ⟨decide_eq_true (by omega), ⟨by omega, by omega⟩, by rw [Int.toNat_natCast]; omega, ziL g i, zfD _ (hb i (by omega)), ⟨Nat.le_refl _, by omega, by omega, by omega, by omega, room _ (by omega), by omega⟩, qI s _ _ rfl rfl, by rw [List.length_append]; omega, zE _, ze _, xB _, by rw [up1 i (by omega)]; exact ih⟩)
theorem zjf {n nu : Int} (n0 : 0 ≤ n) (n1 : n ≤ 14) (v0 : 0 ≤ nu) (v1 : nu ≤ 18446744073709551615) {t : List UInt8} (ht : t.length < 1000000) (he : (zS []).length < 1000000) (hF : (wj n t [] [] nu).length ≤ 100000000) :
 Goal P 0 30 (fun v h => v = .str (wj n t [] [] nu) ∧ h = ⟨.leaf, 0, GW⟩) (zc P 30 [.agg [.int .i64 n, .str t, .nils 0 0, .nils 0 0, .int .u64 nu]] GW) := by
 have w : IntKind.u64.wrap n = n := IntWalk.u64_in _ (by omega)
 have g48 := zcU [] n (by omega) (by omega) (by show 0 + 9 < _; omega)
 rw [List.nil_append] at g48
 have hr := zh n
 have g49 := zju n t ht
 have hpn := xn n
 have hlt : (row n ++ zk t).length = (row n).length + (row (t.length : Nat)).length + t.length := by unfold zk; simp only [List.length_append]; omega
 have hrt := zh (t.length : Nat)
 have w2 : IntKind.u64.wrap ((0 : Nat) : Int) = ((0 : Nat) : Int) := IntWalk.u64_in _ (by omega)
 have gq := zcU [] ((0 : Nat) : Int) (by omega) (by omega) (by show 0 + 9 < _; omega)
 rw [List.nil_append] at gq
 have hrq := zh ((0 : Nat) : Int)
 have hpq := xn ((0 : Nat) : Int)
 have e : row n ++ zk t ++ row ((0 : Nat) : Int) ++ (zk (zS []) ++ row nu) = wj n t [] [] nu := by
  unfold wj zk
  show _ = row n ++ (row (t.length : Nat) ++ (t ++ (row ((0 : Nat) : Int) ++ ([] ++ _))))
  simp only [List.append_assoc, List.nil_append]
 have hp := xn nu
 have h4 : (zk (zS []) ++ row nu).length = (zk (zS [])).length + (row nu).length := List.length_append
 have h5 : (row n ++ zk t ++ row ((0 : Nat) : Int)).length = (row n ++ zk t).length + (row ((0 : Nat) : Int)).length := List.length_append
 rw [← e] at hF ⊢
 have h6 : (row n ++ zk t ++ row ((0 : Nat) : Int) ++ (zk (zS []) ++ row nu)).length = (row n ++ zk t ++ row ((0 : Nat) : Int)).length + (zk (zS []) ++ row nu).length := List.length_append
 obtain ⟨r0, hr0⟩ : ∃ r0, (row n ++ zk t).length + (row ((0 : Nat) : Int)).length + (zk (zS []) ++ row nu).length = r0 + 1 := ⟨(row n ++ zk t).length + (row ((0 : Nat) : Int)).length + (zk (zS []) ++ row nu).length - 1, by omega⟩
 exact Obl.goal (K := Goal P 0 30 _) mix (fun _ h => h) (cast (awne _ _ (row n) (row n ++ zk t) (row ((0 : Nat) : Int)) (zS []) _ _ (zk (zS [])) (zk (zS []) ++ row nu) GW _).symm ⟨decide_eq_false (by omega), decide_eq_false (by omega), by rw [w]; exact g48, rfl, g49, ⟨Nat.le_refl _, by omega, room _ (by omega)⟩, gq, ⟨Nat.le_refl _, by omega, by omega, by omega, by omega, room _ (by omega), by omega⟩, qI _ _ _ rfl rfl, by rw [List.length_append]; omega, xB _, zgk, rfl, zfD _ he, rfl, zcU _ _ v0 v1 (by omega), ⟨Nat.le_refl _, by omega, by omega, by omega, by omega, room _ (by omega), by omega⟩, qI _ _ _ (by simp only [List.length_append]) rfl, by rw [List.length_append]; omega, xB _, Obl.goal (K := Goal P 0 30 _) mix (fun _ h => h) (cast (awzn _ _ _ _ (r0) GW _).symm ⟨by rw [hr0], ⟨by omega, by omega, by rw [Int.toNat_natCast]; omega, by kernel_rfl, w9 _ _ (by rw [Int.toNat_natCast]; simp only [List.length_append])⟩, rfl, rfl⟩)⟩)
theorem zhf {n nu : Int} (h : n < 0) {t : List UInt8} : Goal P 0 30 (fun v h => v = .str [] ∧ h = ⟨.leaf, 0, GW⟩) (zc P 30 [.agg [.int .i64 n, .str t, .nils 0 0, .nils 0 0, .int .u64 nu]] GW) :=
 Obl.goal (K := Goal P 0 30 _) mix (fun _ h => h) (cast (awnx _ _ _ _ GW _).symm ⟨decide_eq_true h, rfl, rfl⟩)
theorem zhi {n nu : Int} (h0 : 0 ≤ n) (h : 14 < n) {t : List UInt8} : Goal P 0 30 (fun v h => v = .str [] ∧ h = ⟨.leaf, 0, GW⟩) (zc P 30 [.agg [.int .i64 n, .str t, .nils 0 0, .nils 0 0, .int .u64 nu]] GW) :=
 Obl.goal (K := Goal P 0 30 _) mix (fun _ h => h) (cast (awny _ _ _ _ GW _).symm ⟨decide_eq_false (by omega), decide_eq_true h, rfl, rfl⟩)
theorem ziQ {m zd : Nat} {f : Nat → Dg} (hm : m < 100000) (hzd : m * 3 ≤ zd) {l : List Dg} (hl : So (sl f 0 m) l) {n nu : Int} (n0 : 0 ≤ n) (n1 : n ≤ 14) (v0 : 0 ≤ nu) (v1 : nu ≤ 18446744073709551615) {t : List UInt8} (ht : t.length < 1000000) (he : (zS l).length < 1000000) (hF : (wj n t [] l nu).length ≤ 100000000) :
 Goal P 1 30 (fun v h => v = .str (wj n t [] l nu) ∧ h = HCo f 0 zd) (zg P 30 [.agg [.int .i64 n, .str t, .nils 0 0, .slg 0 0 0 m 0, .int .u64 nu]] (HCo f 0 zd)) := by
 have w : IntKind.u64.wrap n = n := IntWalk.u64_in _ (by omega)
 have g48 := zcU [] n (by omega) (by omega) (by show 0 + 9 < _; omega)
 rw [List.nil_append] at g48
 have hr := zh n
 have g49 := zju n t ht
 have hpn := xn n
 have hlt : (row n ++ zk t).length = (row n).length + (row (t.length : Nat)).length + t.length := by unfold zk; simp only [List.length_append]; omega
 have hrt := zh (t.length : Nat)
 have w2 : IntKind.u64.wrap ((0 : Nat) : Int) = ((0 : Nat) : Int) := IntWalk.u64_in _ (by omega)
 have gq := zcU [] ((0 : Nat) : Int) (by omega) (by omega) (by show 0 + 9 < _; omega)
 rw [List.nil_append] at gq
 have hrq := zh ((0 : Nat) : Int)
 have hpq := xn ((0 : Nat) : Int)
 have e : row n ++ zk t ++ row ((0 : Nat) : Int) ++ (zk (zS l) ++ row nu) = wj n t [] l nu := by
  unfold wj zk
  show _ = row n ++ (row (t.length : Nat) ++ (t ++ (row ((0 : Nat) : Int) ++ ([] ++ _))))
  simp only [List.append_assoc, List.nil_append]
 have hp := xn nu
 have h4 : (zk (zS l) ++ row nu).length = (zk (zS l)).length + (row nu).length := List.length_append
 have h5 : (row n ++ zk t ++ row ((0 : Nat) : Int)).length = (row n ++ zk t).length + (row ((0 : Nat) : Int)).length := List.length_append
 rw [← e] at hF ⊢
 have h6 : (row n ++ zk t ++ row ((0 : Nat) : Int) ++ (zk (zS l) ++ row nu)).length = (row n ++ zk t ++ row ((0 : Nat) : Int)).length + (zk (zS l) ++ row nu).length := List.length_append
 obtain ⟨r0, hr0⟩ : ∃ r0, (row n ++ zk t).length + (row ((0 : Nat) : Int)).length + (zk (zS l) ++ row nu).length = r0 + 1 := ⟨(row n ++ zk t).length + (row ((0 : Nat) : Int)).length + (zk (zS l) ++ row nu).length - 1, by omega⟩
 exact Obl.goal (K := Goal P 1 30 _) mix (fun _ h => h) (cast (awde _ (el f) _ (row n) (row n ++ zk t) (row ((0 : Nat) : Int)) (zS l) _ _ (zk (zS l)) (zk (zS l) ++ row nu) (m) (zd) GW _).symm ⟨decide_eq_false (by omega), decide_eq_false (by omega), by rw [w]; exact g48, rfl, g49, ⟨Nat.le_refl _, by omega, room _ (by omega)⟩, gq, ⟨Nat.le_refl _, by omega, by omega, by omega, by omega, room _ (by omega), by omega⟩, qI _ _ _ rfl rfl, by rw [List.length_append]; omega, ze _, xB _, ze _, ze _, zgB (off := 0) (cp := 0) hzd hm hl, rfl, zfD _ he, rfl, zcU _ _ v0 v1 (by omega), ⟨Nat.le_refl _, by omega, by omega, by omega, by omega, room _ (by omega), by omega⟩, qI _ _ _ (by simp only [List.length_append]) rfl, by rw [List.length_append]; omega, ze _, xB _, Obl.goal (K := Goal P 1 30 _) mix (fun _ h => h) (cast (awzd _ (el f) _ (zd) _ _ (r0) GW _).symm ⟨by rw [hr0], ⟨by omega, by omega, by rw [Int.toNat_natCast]; omega, by kernel_rfl, w9 _ _ (by rw [Int.toNat_natCast]; simp only [List.length_append])⟩, ze _, rfl, rfl⟩)⟩)
theorem zh0 {m zd : Nat} {f : Nat → Dg} {n nu : Int} (h : n < 0) {t : List UInt8} : Goal P 1 30 (fun v h => v = .str [] ∧ h = HCo f 0 zd) (zg P 30 [.agg [.int .i64 n, .str t, .nils 0 0, .slg 0 0 0 m 0, .int .u64 nu]] (HCo f 0 zd)) :=
 Obl.goal (K := Goal P 1 30 _) mix (fun _ h => h) (cast (awdx _ (el f) _ _ _ (m) (zd) GW _).symm ⟨decide_eq_true h, ze _, rfl, rfl⟩)
theorem zgt {m zd : Nat} {f : Nat → Dg} {n nu : Int} (h0 : 0 ≤ n) (h : 14 < n) {t : List UInt8} : Goal P 1 30 (fun v h => v = .str [] ∧ h = HCo f 0 zd) (zg P 30 [.agg [.int .i64 n, .str t, .nils 0 0, .slg 0 0 0 m 0, .int .u64 nu]] (HCo f 0 zd)) :=
 Obl.goal (K := Goal P 1 30 _) mix (fun _ h => h) (cast (awdy _ (el f) _ _ _ (m) (zd) GW _).symm ⟨decide_eq_false (by omega), decide_eq_true h, ze _, rfl, rfl⟩)
theorem zjz {q z : Nat} {g : Nat → List UInt8} (hz : q * 1 ≤ z) (hq : q ≤ 100000) (hb : ∀ j, j < q → (g j).length < 1000000) {n nu : Int} (n0 : 0 ≤ n) (n1 : n ≤ 14) (v0 : 0 ≤ nu) (v1 : nu ≤ 18446744073709551615) {t : List UInt8} (ht : t.length < 1000000) (he : (zS []).length < 1000000) (hF : (wj n t (sl g 0 q) [] nu).length ≤ 100000000) :
 Goal P 1 30 (fun v h => v = .str (wj n t (sl g 0 q) [] nu) ∧ h = HPp g z) (zg P 30 [.agg [.int .i64 n, .str t, .slg 0 0 0 q 0, .nils 0 0, .int .u64 nu]] (HPp g z)) := by
 have w : IntKind.u64.wrap n = n := IntWalk.u64_in _ (by omega)
 have g48 := zcU [] n (by omega) (by omega) (by show 0 + 9 < _; omega)
 rw [List.nil_append] at g48
 have hr := zh n
 have g49 := zju n t ht
 have hpn := xn n
 have hlt : (row n ++ zk t).length = (row n).length + (row (t.length : Nat)).length + t.length := by unfold zk; simp only [List.length_append]; omega
 have hrt := zh (t.length : Nat)
 have w2 : IntKind.u64.wrap ((q : Nat) : Int) = ((q : Nat) : Int) := IntWalk.u64_in _ (by omega)
 have gq := zcU [] ((q : Nat) : Int) (by omega) (by omega) (by show 0 + 9 < _; omega)
 rw [List.nil_append] at gq
 have hrq := zh ((q : Nat) : Int)
 have hpq := xn ((q : Nat) : Int)
 have hS := hF
 have e : row n ++ zk t ++ row ((q : Nat) : Int) ++ (sl g 0 q).flatMap zk ++ (zk (zS []) ++ row nu) = wj n t (sl g 0 q) [] nu := by
  unfold wj zk
  rw [x7]
  simp only [List.append_assoc]
 exact Obl.goal (K := Goal P 1 30 _) mix (fun _ h => h) (cast (awps _ (es g) _ (row n) (row n ++ zk t) (row ((q : Nat) : Int)) _ _ (q) (z) GW _).symm ⟨decide_eq_false (by omega), decide_eq_false (by omega), by rw [w]; exact g48, rfl, g49, ⟨Nat.le_refl _, by omega, room _ (by omega)⟩, by rw [w2]; exact gq, ⟨Nat.le_refl _, by omega, by omega, by omega, by omega, room _ (by omega), by omega⟩, qI _ _ _ rfl rfl, by rw [List.length_append]; omega, zE _, xB _, aw_p hz v0 v1 hq hF hb he q 0 _ _ _ (by omega) (by simp only [List.length_append]) rfl (by simp only [List.length_append]; omega) e⟩)
theorem ziw {q z : Nat} {g : Nat → List UInt8} {n nu : Int} (h : n < 0) {t : List UInt8} : Goal P 1 30 (fun v h => v = .str [] ∧ h = HPp g z) (zg P 30 [.agg [.int .i64 n, .str t, .slg 0 0 0 q 0, .nils 0 0, .int .u64 nu]] (HPp g z)) :=
 Obl.goal (K := Goal P 1 30 _) mix (fun _ h => h) (cast (awpx _ (es g) _ _ _ (q) (z) GW _).symm ⟨decide_eq_true h, zE _, rfl, rfl⟩)
theorem zhw {q z : Nat} {g : Nat → List UInt8} {n nu : Int} (h0 : 0 ≤ n) (h : 14 < n) {t : List UInt8} : Goal P 1 30 (fun v h => v = .str [] ∧ h = HPp g z) (zg P 30 [.agg [.int .i64 n, .str t, .slg 0 0 0 q 0, .nils 0 0, .int .u64 nu]] (HPp g z)) :=
 Obl.goal (K := Goal P 1 30 _) mix (fun _ h => h) (cast (awpy _ (es g) _ _ _ (q) (z) GW _).symm ⟨decide_eq_false (by omega), decide_eq_true h, zE _, rfl, rfl⟩)
theorem ziN {m zd : Nat} {f : Nat → Dg} (hm : m < 100000) (hzd : m * 3 ≤ zd) {l : List Dg} (hl : So (sl f 0 m) l) {q z : Nat} {g : Nat → List UInt8} (hz : q * 1 ≤ z) (hq : q ≤ 100000) (hb : ∀ j, j < q → (g j).length < 1000000) {n nu : Int} (n0 : 0 ≤ n) (n1 : n ≤ 14) (v0 : 0 ≤ nu) (v1 : nu ≤ 18446744073709551615) {t : List UInt8} (ht : t.length < 1000000) (he : (zS l).length < 1000000) (hF : (wj n t (sl g 0 q) l nu).length ≤ 100000000) :
 Goal P 2 30 (fun v h => v = .str (wj n t (sl g 0 q) l nu) ∧ h = HPb g z f zd) (zg P 30 [.agg [.int .i64 n, .str t, .slg 0 0 0 q 0, .slg 1 0 0 m 0, .int .u64 nu]] (HPb g z f zd)) := by
 have w : IntKind.u64.wrap n = n := IntWalk.u64_in _ (by omega)
 have g48 := zcU [] n (by omega) (by omega) (by show 0 + 9 < _; omega)
 rw [List.nil_append] at g48
 have hr := zh n
 have g49 := zju n t ht
 have hpn := xn n
 have hlt : (row n ++ zk t).length = (row n).length + (row (t.length : Nat)).length + t.length := by unfold zk; simp only [List.length_append]; omega
 have hrt := zh (t.length : Nat)
 have w2 : IntKind.u64.wrap ((q : Nat) : Int) = ((q : Nat) : Int) := IntWalk.u64_in _ (by omega)
 have gq := zcU [] ((q : Nat) : Int) (by omega) (by omega) (by show 0 + 9 < _; omega)
 rw [List.nil_append] at gq
 have hrq := zh ((q : Nat) : Int)
 have hpq := xn ((q : Nat) : Int)
 have hS := hF
 have e : row n ++ zk t ++ row ((q : Nat) : Int) ++ (sl g 0 q).flatMap zk ++ (zk (zS l) ++ row nu) = wj n t (sl g 0 q) l nu := by
  unfold wj zk
  rw [x7]
  simp only [List.append_assoc]
 exact Obl.goal (K := Goal P 2 30 _) mix (fun _ h => h) (cast (awbs _ (es g) (el f) _ (row n) (row n ++ zk t) (row ((q : Nat) : Int)) _ _ (m) (q) (z) (zd) GW _).symm ⟨decide_eq_false (by omega), decide_eq_false (by omega), by rw [w]; exact g48, rfl, g49, ⟨Nat.le_refl _, by omega, room _ (by omega)⟩, by rw [w2]; exact gq, ⟨Nat.le_refl _, by omega, by omega, by omega, by omega, room _ (by omega), by omega⟩, qI _ _ _ rfl rfl, by rw [List.length_append]; omega, zE _, ze _, xB _, aw_b hm hzd hl hz v0 v1 hq hF hb he q 0 _ _ _ (by omega) (by simp only [List.length_append]) rfl (by simp only [List.length_append]; omega) e⟩)
theorem zhJ {m zd : Nat} {f : Nat → Dg} {q z : Nat} {g : Nat → List UInt8} {n nu : Int} (h : n < 0) {t : List UInt8} : Goal P 2 30 (fun v h => v = .str [] ∧ h = HPb g z f zd) (zg P 30 [.agg [.int .i64 n, .str t, .slg 0 0 0 q 0, .slg 1 0 0 m 0, .int .u64 nu]] (HPb g z f zd)) :=
 Obl.goal (K := Goal P 2 30 _) mix (fun _ h => h) (cast (awbx _ (es g) (el f) _ _ _ (m) (q) (z) (zd) GW _).symm ⟨decide_eq_true h, zE _, ze _, rfl, rfl⟩)
theorem zgy {m zd : Nat} {f : Nat → Dg} {q z : Nat} {g : Nat → List UInt8} {n nu : Int} (h0 : 0 ≤ n) (h : 14 < n) {t : List UInt8} : Goal P 2 30 (fun v h => v = .str [] ∧ h = HPb g z f zd) (zg P 30 [.agg [.int .i64 n, .str t, .slg 0 0 0 q 0, .slg 1 0 0 m 0, .int .u64 nu]] (HPb g z f zd)) :=
 Obl.goal (K := Goal P 2 30 _) mix (fun _ h => h) (cast (awby _ (es g) (el f) _ _ _ (m) (q) (z) (zd) GW _).symm ⟨decide_eq_false (by omega), decide_eq_true h, zE _, ze _, rfl, rfl⟩)
end Go.Proofs.YtdbfpjgnlfejmaaDoor.dg
end
section
set_option maxRecDepth 100000
set_option linter.unusedVariables false
namespace Go.Proofs.YtdbfpjgnlfejmaaDoor.dg
open Go Ev mq
def zlK (r : Option (AV × AHeap)) : Option AR := match r with
 | none => none
 | some (v, h) => some (.val v h)
theorem zbD {f g : Nat → Dg} {i j : Nat} (h : i % 3 = j % 3) (e : f (i / 3) = g (j / 3)) : el f i = el g j := by
 unfold el
 rw [h, e]
theorem beqF {α : Type} [BEq α] [LawfulBEq α] {a b : α} (h : ¬ a = b) : (a == b) = false := by rw [← Bool.not_eq_true, beq_iff_eq]; exact h
section
variable {off z m cp : Nat} {f : Nat → Dg} {tn : Int}
theorem get_one (c : Nat → AV) (hc : ∀ k, (c k).one = true) (o q : Nat) : ∀ k, k < q → ∃ v, (T.fn fun c' => some (c c')).get (o + k) = some v ∧ v.one = true := fun k _ => ⟨c (o + k), rfl, hc _⟩
end
end Go.Proofs.YtdbfpjgnlfejmaaDoor.dg
end
section
set_option maxRecDepth 100000
set_option linter.unusedVariables false
namespace Go.Proofs.YtdbfpjgnlfejmaaDoor.dg
open Go Ev mq
def zf : Nat → Dg := fun _ => zd
noncomputable def RsA (cell : Nat → AV) (i : Int) (n z : Nat) (G : T (T AV)) : AM := ⟨⟨13, 69, (.node (.node (.node .leaf (some (.nils 0 0)) .leaf) none .leaf) (some (.slg 0 0 0 n 0)) (.node (.node .leaf (some (.int .i64 i)) .leaf) none .leaf)),
 [.code (cd P (13 : Nat) [(1 : Nat), (1 : Nat), (0 : Nat), (1 : Nat), (0 : Nat), (0 : Nat)]), .inLoop (cd P (13 : Nat) [(1 : Nat), (1 : Nat), (0 : Nat), (1 : Nat), (0 : Nat), (0 : Nat)]), .inBlock 0, .code (cd P (13 : Nat) [(1 : Nat), (1 : Nat), (1 : Nat)])], [], .run, CallKind.normal, none⟩,
 [],
 ⟨(.node .leaf (some (.cells (.fn fun c => some (cell c)) z 35 0 0 1 0 false .leaf)) .leaf), 1, G⟩⟩
noncomputable def RsB (cell cell' : Nat → AV) (i : Int) (n m z y : Nat) (G : T (T AV)) : AM := ⟨⟨13, 69, (.node (.node (.node .leaf (some (.slg 1 0 0 m 0)) .leaf) none .leaf) (some (.slg 0 0 0 n 0)) (.node (.node .leaf (some (.int .i64 i)) .leaf) none .leaf)),
 [.code (cd P (13 : Nat) [(1 : Nat), (1 : Nat), (0 : Nat), (1 : Nat), (0 : Nat), (0 : Nat)]), .inLoop (cd P (13 : Nat) [(1 : Nat), (1 : Nat), (0 : Nat), (1 : Nat), (0 : Nat), (0 : Nat)]), .inBlock 0, .code (cd P (13 : Nat) [(1 : Nat), (1 : Nat), (1 : Nat)])], [], .run, CallKind.normal, none⟩,
 [],
 ⟨(.node (.node .leaf (some (.cells (.fn fun c => some (cell' c)) y 35 0 0 1 0 false .leaf)) .leaf) (some (.cells (.fn fun c => some (cell c)) z 35 0 0 1 0 false .leaf)) .leaf), 2, G⟩⟩
noncomputable def RsD (cell : Nat → AV) (i : Int) (n z : Nat) (G : T (T AV)) : AM := ⟨⟨13, 69, (.node (.node (.node .leaf (some (.nils 0 0)) .leaf) none (.node .leaf (some (.int .i64 0)) .leaf)) (some (.slg 0 0 0 n 0)) (.node (.node .leaf (some (.int .i64 i)) .leaf) none .leaf)),
 [.code (cd P (13 : Nat) [(1 : Nat), (1 : Nat), (0 : Nat), (1 : Nat), (0 : Nat), (0 : Nat), (1 : Nat), (0 : Nat), (0 : Nat), (1 : Nat), (1 : Nat), (0 : Nat), (0 : Nat), (0 : Nat)]), .inLoop (cd P (13 : Nat) [(1 : Nat), (1 : Nat), (0 : Nat), (1 : Nat), (0 : Nat), (0 : Nat), (1 : Nat), (0 : Nat), (0 : Nat), (1 : Nat), (1 : Nat), (0 : Nat), (0 : Nat), (0 : Nat)]), .inBlock 2, .code (cd P (13 : Nat) [(1 : Nat), (1 : Nat), (0 : Nat), (1 : Nat), (0 : Nat), (0 : Nat), (1 : Nat), (0 : Nat), (0 : Nat), (1 : Nat), (1 : Nat), (1 : Nat)]), .inBlock 1, .code (cd P (13 : Nat) [(1 : Nat), (1 : Nat), (0 : Nat), (1 : Nat), (0 : Nat), (0 : Nat), (1 : Nat), (1 : Nat)]), .inLoop (cd P (13 : Nat) [(1 : Nat), (1 : Nat), (0 : Nat), (1 : Nat), (0 : Nat), (0 : Nat)]), .inBlock 0, .code (cd P (13 : Nat) [(1 : Nat), (1 : Nat), (1 : Nat)])], [], .run, CallKind.normal, none⟩,
 [],
 ⟨(.node .leaf (some (.cells (.fn fun c => some (cell c)) z 35 0 0 1 0 false .leaf)) .leaf), 1, G⟩⟩
noncomputable def RsC (cell cell' : Nat → AV) (i u : Int) (n m z y : Nat) (G : T (T AV)) : AM := ⟨⟨13, 69, (.node (.node (.node .leaf (some (.slg 1 0 0 m 0)) .leaf) none (.node .leaf (some (.int .i64 u)) .leaf)) (some (.slg 0 0 0 n 0)) (.node (.node .leaf (some (.int .i64 i)) .leaf) none .leaf)),
 [.code (cd P (13 : Nat) [(1 : Nat), (1 : Nat), (0 : Nat), (1 : Nat), (0 : Nat), (0 : Nat), (1 : Nat), (0 : Nat), (0 : Nat), (1 : Nat), (1 : Nat), (0 : Nat), (0 : Nat), (0 : Nat)]), .inLoop (cd P (13 : Nat) [(1 : Nat), (1 : Nat), (0 : Nat), (1 : Nat), (0 : Nat), (0 : Nat), (1 : Nat), (0 : Nat), (0 : Nat), (1 : Nat), (1 : Nat), (0 : Nat), (0 : Nat), (0 : Nat)]), .inBlock 2, .code (cd P (13 : Nat) [(1 : Nat), (1 : Nat), (0 : Nat), (1 : Nat), (0 : Nat), (0 : Nat), (1 : Nat), (0 : Nat), (0 : Nat), (1 : Nat), (1 : Nat), (1 : Nat)]), .inBlock 1, .code (cd P (13 : Nat) [(1 : Nat), (1 : Nat), (0 : Nat), (1 : Nat), (0 : Nat), (0 : Nat), (1 : Nat), (1 : Nat)]), .inLoop (cd P (13 : Nat) [(1 : Nat), (1 : Nat), (0 : Nat), (1 : Nat), (0 : Nat), (0 : Nat)]), .inBlock 0, .code (cd P (13 : Nat) [(1 : Nat), (1 : Nat), (1 : Nat)])], [], .run, CallKind.normal, none⟩,
 [],
 ⟨(.node (.node .leaf (some (.cells (.fn fun c => some (cell' c)) y 35 0 0 1 0 false .leaf)) .leaf) (some (.cells (.fn fun c => some (cell c)) z 35 0 0 1 0 false .leaf)) .leaf), 2, G⟩⟩
noncomputable def Ls (p q : List UInt8) (i : Int) (G : T (T AV)) : AM := ⟨⟨72, 37, (.node (.node .leaf (some (.str q)) (.node .leaf (some (.int .i64 i)) .leaf)) (some (.str p)) .leaf),
 [.code (cd P (72 : Nat) [(1 : Nat), (0 : Nat), (1 : Nat), (0 : Nat), (0 : Nat)]), .inLoop (cd P (72 : Nat) [(1 : Nat), (0 : Nat), (1 : Nat), (0 : Nat), (0 : Nat)]), .inBlock 0, .code (cd P (72 : Nat) [(1 : Nat), (1 : Nat)])], [], .run, CallKind.normal, none⟩,
 [],
 ⟨.leaf, 0, G⟩⟩
noncomputable def Er (cell cell' : Nat → AV) (s : List UInt8) (i : Int) (m z y : Nat) (G : T (T AV)) : AM := ⟨⟨15, 41, (.node (.node (.node .leaf (some (.str s)) .leaf) none .leaf) (some (.slg 1 0 0 m 0)) (.node (.node .leaf (some (.int .i64 i)) .leaf) none .leaf)),
 [.code (cd P (15 : Nat) [(1 : Nat), (1 : Nat), (1 : Nat), (0 : Nat), (1 : Nat), (0 : Nat), (0 : Nat)]), .inLoop (cd P (15 : Nat) [(1 : Nat), (1 : Nat), (1 : Nat), (0 : Nat), (1 : Nat), (0 : Nat), (0 : Nat)]), .inBlock 0, .code (cd P (15 : Nat) [(1 : Nat), (1 : Nat), (1 : Nat), (1 : Nat)])], [], .run, CallKind.normal, none⟩,
 [],
 ⟨(.node (.node .leaf (some (.cells (.fn fun c => some (cell' c)) y 35 0 0 1 0 false .leaf)) .leaf) (some (.cells (.fn fun c => some (cell c)) z 35 0 0 1 0 false .leaf)) .leaf), 2, G⟩⟩
noncomputable def Ez (cell : Nat → AV) (s : List UInt8) (z : Nat) (G : T (T AV)) : AM := ⟨⟨15, 41, (.node (.node (.node .leaf (some (.str s)) .leaf) none .leaf) (some (.nils 0 0)) (.node (.node .leaf (some (.int .i64 0)) .leaf) none .leaf)),
 [.code (cd P (15 : Nat) [(1 : Nat), (1 : Nat), (1 : Nat), (0 : Nat), (1 : Nat), (0 : Nat), (0 : Nat)]), .inLoop (cd P (15 : Nat) [(1 : Nat), (1 : Nat), (1 : Nat), (0 : Nat), (1 : Nat), (0 : Nat), (0 : Nat)]), .inBlock 0, .code (cd P (15 : Nat) [(1 : Nat), (1 : Nat), (1 : Nat), (1 : Nat)])], [], .run, CallKind.normal, none⟩,
 [],
 ⟨(.node .leaf (some (.cells (.fn fun c => some (cell c)) z 35 0 0 1 0 false .leaf)) .leaf), 1, G⟩⟩
section
set_option linter.unusedSectionVars false
variable (R : AV → AHeap → Prop) (cell cell' cell2 cell3 : Nat → AV) (p q : List UInt8) (a c e g i : Int) (u n m z y y2 cp off : Nat) (b b2 b3 : Bool) (G : T (T AV)) (K : AM → Prop)
include R cell cell' cell2 cell3 p q a c e g i u n m z y y2 cp off b b2 b3 G K
theorem rCz : Obl P 13 (fun v h => R v h) 1 K [.run 8, .know 23 false, .run 21, .know 40 false, .run 22, .op, .opw false, .run 7, .op, .op, .slot 60 (.agg [.str p, .int .i64 a, .int .i64 c]), .run 1, .opw false, .run 2, .told 2 (.fn fun c => some (cell2 c)) y2, .run 4, .op, .slot 66 (.slg 1 0 (0 + (u : Int).toNat * 3) 0 (0 + (u : Int).toNat)), .res (.val (.slg 2 1 0 ((u : Int).toNat - (0 : Nat) + 1) 0) ⟨(.node (.node (.node .leaf (some (.cells (.node (.node .leaf (some (.int .i64 a)) .leaf) (some (.str p)) (.node .leaf (some (.int .i64 c)) .leaf)) 3 35 0 0 1 0 false .leaf)) .leaf) (some (.cells (.fn fun c => some (cell' c)) y 35 0 0 1 0 false .leaf)) .leaf) (some (.cells (.fn fun c => some (cell c)) z 35 0 0 1 0 false .leaf)) (.node .leaf (some (.cells (.fn fun c => some (cell2 c)) y2 35 1 1 2 0 false .leaf)) .leaf)), 4, G⟩), .run 9, .can 1 [0, 2] [0, 3, 4] []] ((RsC cell cell' i (u : Int) n m z y G)) = ((decide ((↑u : Int) < (↑m : Int)) = false) ∧ (decide ((↑u : Int) < (↑m : Int)) = false) ∧ ((0 : Int) ≤ (↑u : Int) ∧ (↑u : Int) ≤ (↑m : Int)) ∧ ((0 + ((↑u : Int).toNat - (0 : Nat)) * 3 ≤ y ∧ ∀ (k : Nat), k < ((↑u : Int).toNat - (0 : Nat)) * DS → ∃ v, (T.fn fun c => some (cell' c)).get (0 + k) = some v ∧ v.one = true) ∧ (0 : Nat) < (↑u : Int).toNat - (0 : Nat) ∧ zR ((↑u : Int).toNat - (0 : Nat)) (32) = true) ∧ ((0 : Int) ≤ i ∧ i < (↑n : Int)) ∧ (0 + i.toNat * 3 + 3 ≤ z) ∧ (AV.agg [cell (0 + i.toNat * 3), cell (0 + i.toNat * 3 + 1), cell (0 + i.toNat * 3 + 2)] = AV.agg [AV.str p, AV.int IntKind.i64 a, AV.int IntKind.i64 c]) ∧ ((0 + 1 * DS ≤ 3 ∧ ∀ (k : Nat), k < 1 * DS → ∃ v, ((T.leaf.node (some (AV.int IntKind.i64 a)) T.leaf).node (some (AV.str p)) (T.leaf.node (some (AV.int IntKind.i64 c)) T.leaf)).get (0 + k) = some v ∧ v.one = true) ∧ (0 : Nat) < 1 ∧ 0 + ((↑u : Int).toNat - (0 : Nat)) * 3 ≤ ((↑u : Int).toNat - (0 : Nat)) * 3 ∧ 0 ≤ 0 + ((↑u : Int).toNat - (0 : Nat)) * 3 ∧ 0 = 0 * DS ∧ zR ((↑u : Int).toNat - (0 : Nat) + 1) (32) = true ∧ ((↑u : Int).toNat - (0 : Nat)) * 3 < 0 + ((↑u : Int).toNat - (0 : Nat) + 1) * 3) ∧ (zY (y2) ((.fn fun c => some (cell2 c))) ((.fn fun k => bif (0 + ((↑u : Int).toNat - (0 : Nat)) * DS).ble k && k.blt (0 + ((↑u : Int).toNat - (0 : Nat)) * DS + 1 * DS) then (fun k => ((T.leaf.node (some (AV.int IntKind.i64 a)) T.leaf).node (some (AV.str p)) (T.leaf.node (some (AV.int IntKind.i64 c)) T.leaf)).get (0 + k)) (k - (0 + ((↑u : Int).toNat - (0 : Nat)) * DS)) else (T.fn fun k => (T.fn fun c => some (cell' c)).get (0 + k)).get k))) ∧ (y2 = 0 + ((↑u : Int).toNat - (0 : Nat)) * 3 + 3) ∧ ((0 : Int) ≤ (↑u : Int) ∧ (↑u : Int) ≤ (↑m : Int)) ∧ (AV.slg (1) (0) (0 + (↑u : Int).toNat * 3) (m - (↑u : Int).toNat) (0 + (↑u : Int).toNat) = AV.slg (1) (0) ((0 : Nat) + (↑u : Int).toNat * (3 : Nat)) (0) ((0 : Nat) + (↑u : Int).toNat)) ∧ (zlK (qL P { objs := ((T.leaf.node (some (AObj.cells ((T.leaf.node (some (AV.int IntKind.i64 a)) T.leaf).node (some (AV.str p)) (T.leaf.node (some (AV.int IntKind.i64 c)) T.leaf)) (3) (35) (0) (0) (1) (0) false T.leaf)) T.leaf).node (some (AObj.cells (T.fn fun c => some (cell' c)) y (35) (0) (0) (1) (0) false T.leaf)) T.leaf).node (some (AObj.cells (T.fn fun c => some (cell c)) z (35) (0) (0) (1) (0) false T.leaf)) (T.leaf.node (some (AObj.cells (T.fn fun c => some (cell2 c)) y2 (35) (1) (1) (2) (0) false T.leaf)) T.leaf), next := 4, glob := G } 22 false (AV.slg (2) (1) (0) ((↑u : Int).toNat - (0 : Nat) + 1) (0)) (AV.slg (1) (0) ((0 : Nat) + (↑u : Int).toNat * (3 : Nat)) (0) ((0 : Nat) + (↑u : Int).toNat))) = some (AR.val (AV.slg (2) (1) (0) ((↑u : Int).toNat - (0 : Nat) + (1 : Nat)) (0)) { objs := ((T.leaf.node (some (AObj.cells ((T.leaf.node (some (AV.int IntKind.i64 a)) T.leaf).node (some (AV.str p)) (T.leaf.node (some (AV.int IntKind.i64 c)) T.leaf)) (3) (35) (0) (0) (1) (0) false T.leaf)) T.leaf).node (some (AObj.cells (T.fn fun c => some (cell' c)) y (35) (0) (0) (1) (0) false T.leaf)) T.leaf).node (some (AObj.cells (T.fn fun c => some (cell c)) z (35) (0) (0) (1) (0) false T.leaf)) (T.leaf.node (some (AObj.cells (T.fn fun c => some (cell2 c)) y2 (35) (1) (1) (2) (0) false T.leaf)) T.leaf), next := 4, glob := G })) ∧ (za fun c => some (cell c)) ∧ (za fun c => some (cell2 c)) ∧ K (RsB cell cell2 (IntKind.i64.wrap (i + (1 : Int))) n ((↑u : Int).toNat - (0 : Nat) + (1 : Nat)) z y2 G)) := by kernel_rfl
theorem rCyy : Obl P 13 (fun v h => R v h) 1 K [.run 8, .know 23 true, .run 2, .op, .op, .slot 27 (.agg [.str q, .int .i64 e, .int .i64 g]), .run 2, .op, .op, .slot 31 (.agg [.str p, .int .i64 a, .int .i64 c]), .run 1, (.callv [0, 1] (.bool b2)), .run 2, .know 33 true, .run 10, .can 1 [0, 1] [0, 3, 4, 5] []] ((RsC cell cell' i (u : Int) n m z y G)) = ((decide ((↑u : Int) < (↑m : Int)) = true) ∧ ((0 : Int) ≤ (↑u : Int) ∧ (↑u : Int) < (↑m : Int)) ∧ (0 + (↑u : Int).toNat * 3 + 3 ≤ y) ∧ (AV.agg [cell' (0 + (↑u : Int).toNat * 3), cell' (0 + (↑u : Int).toNat * 3 + 1), cell' (0 + (↑u : Int).toNat * 3 + 2)] = AV.agg [AV.str q, AV.int IntKind.i64 e, AV.int IntKind.i64 g]) ∧ ((0 : Int) ≤ i ∧ i < (↑n : Int)) ∧ (0 + i.toNat * 3 + 3 ≤ z) ∧ (AV.agg [cell (0 + i.toNat * 3), cell (0 + i.toNat * 3 + 1), cell (0 + i.toNat * 3 + 2)] = AV.agg [AV.str p, AV.int IntKind.i64 a, AV.int IntKind.i64 c]) ∧ (Goal P (0) 46 (fun x x_1 => x = AV.bool b2) (zc P 46 [.agg [.str q, .int .i64 e, .int .i64 g], .agg [.str p, .int .i64 a, .int .i64 c]] G)) ∧ (b2 = true) ∧ (za fun c => some (cell c)) ∧ (za fun c => some (cell' c)) ∧ K (RsC cell cell' i (IntKind.i64.wrap ((↑u : Int) + (1 : Int))) n m z y G)) := by kernel_rfl
theorem rCyny : Obl P 13 (fun v h => R v h) 1 K [.run 8, .know 23 true, .run 2, .op, .op, .slot 27 (.agg [.str q, .int .i64 e, .int .i64 g]), .run 2, .op, .op, .slot 31 (.agg [.str p, .int .i64 a, .int .i64 c]), .run 1, (.callv [0, 1] (.bool b2)), .run 2, .know 33 false, .run 10, .know 40 true, .run 2, .op, .op, .slot 44 (.agg [.str q, .int .i64 e, .int .i64 g]), .run 2, .op, .op, .slot 48 (.agg [.str p, .int .i64 a, .int .i64 c]), .isv (.bool b3), .run 2, .know 50 true, .run 8, .can 1 [0, 1] [0, 3, 4] []] ((RsC cell cell' i (u : Int) n m z y G)) = ((decide ((↑u : Int) < (↑m : Int)) = true) ∧ ((0 : Int) ≤ (↑u : Int) ∧ (↑u : Int) < (↑m : Int)) ∧ (0 + (↑u : Int).toNat * 3 + 3 ≤ y) ∧ (AV.agg [cell' (0 + (↑u : Int).toNat * 3), cell' (0 + (↑u : Int).toNat * 3 + 1), cell' (0 + (↑u : Int).toNat * 3 + 2)] = AV.agg [AV.str q, AV.int IntKind.i64 e, AV.int IntKind.i64 g]) ∧ ((0 : Int) ≤ i ∧ i < (↑n : Int)) ∧ (0 + i.toNat * 3 + 3 ≤ z) ∧ (AV.agg [cell (0 + i.toNat * 3), cell (0 + i.toNat * 3 + 1), cell (0 + i.toNat * 3 + 2)] = AV.agg [AV.str p, AV.int IntKind.i64 a, AV.int IntKind.i64 c]) ∧ (Goal P (0) 46 (fun x x_1 => x = AV.bool b2) (zc P 46 [.agg [.str q, .int .i64 e, .int .i64 g], .agg [.str p, .int .i64 a, .int .i64 c]] G)) ∧ (b2 = false) ∧ (decide ((↑u : Int) < (↑m : Int)) = true) ∧ ((0 : Int) ≤ (↑u : Int) ∧ (↑u : Int) < (↑m : Int)) ∧ (0 + (↑u : Int).toNat * 3 + 3 ≤ y) ∧ (AV.agg [cell' (0 + (↑u : Int).toNat * 3), cell' (0 + (↑u : Int).toNat * 3 + 1), cell' (0 + (↑u : Int).toNat * 3 + 2)] = AV.agg [AV.str q, AV.int IntKind.i64 e, AV.int IntKind.i64 g]) ∧ ((0 : Int) ≤ i ∧ i < (↑n : Int)) ∧ (0 + i.toNat * 3 + 3 ≤ z) ∧ (AV.agg [cell (0 + i.toNat * 3), cell (0 + i.toNat * 3 + 1), cell (0 + i.toNat * 3 + 2)] = AV.agg [AV.str p, AV.int IntKind.i64 a, AV.int IntKind.i64 c]) ∧ (∀ (h : AHeap), jU P h BinOp.eql (35 : Nat) (zo (Operand.tmp (44 : Nat)) || zo (Operand.tmp (48 : Nat))) (AV.agg [AV.str q, AV.int IntKind.i64 e, AV.int IntKind.i64 g]) (AV.agg [AV.str p, AV.int IntKind.i64 a, AV.int IntKind.i64 c]) = some (AV.bool b3)) ∧ (b3 = true) ∧ (za fun c => some (cell c)) ∧ (za fun c => some (cell' c)) ∧ K (RsB cell cell' (IntKind.i64.wrap (i + (1 : Int))) n m z y G)) := by kernel_rfl
theorem rCynn : Obl P 13 (fun v h => R v h) 1 K [.run 8, .know 23 true, .run 2, .op, .op, .slot 27 (.agg [.str q, .int .i64 e, .int .i64 g]), .run 2, .op, .op, .slot 31 (.agg [.str p, .int .i64 a, .int .i64 c]), .run 1, (.callv [0, 1] (.bool b2)), .run 2, .know 33 false, .run 10, .know 40 true, .run 2, .op, .op, .slot 44 (.agg [.str q, .int .i64 e, .int .i64 g]), .run 2, .op, .op, .slot 48 (.agg [.str p, .int .i64 a, .int .i64 c]), .isv (.bool b3), .run 2, .know 50 false, .run 11, .op, .opw false, .run 7, .op, .op, .slot 60 (.agg [.str p, .int .i64 a, .int .i64 c]), .run 1, .opw false, .run 6, .op, .opw false, .told 2 (.fn fun c => some (cell2 c)) y2, .run 9, .can 1 [0, 2] [0, 3, 4] []] ((RsC cell cell' i (u : Int) n m z y G)) = ((decide ((↑u : Int) < (↑m : Int)) = true) ∧ ((0 : Int) ≤ (↑u : Int) ∧ (↑u : Int) < (↑m : Int)) ∧ (0 + (↑u : Int).toNat * 3 + 3 ≤ y) ∧ (AV.agg [cell' (0 + (↑u : Int).toNat * 3), cell' (0 + (↑u : Int).toNat * 3 + 1), cell' (0 + (↑u : Int).toNat * 3 + 2)] = AV.agg [AV.str q, AV.int IntKind.i64 e, AV.int IntKind.i64 g]) ∧ ((0 : Int) ≤ i ∧ i < (↑n : Int)) ∧ (0 + i.toNat * 3 + 3 ≤ z) ∧ (AV.agg [cell (0 + i.toNat * 3), cell (0 + i.toNat * 3 + 1), cell (0 + i.toNat * 3 + 2)] = AV.agg [AV.str p, AV.int IntKind.i64 a, AV.int IntKind.i64 c]) ∧ (Goal P (0) 46 (fun x x_1 => x = AV.bool b2) (zc P 46 [.agg [.str q, .int .i64 e, .int .i64 g], .agg [.str p, .int .i64 a, .int .i64 c]] G)) ∧ (b2 = false) ∧ (decide ((↑u : Int) < (↑m : Int)) = true) ∧ ((0 : Int) ≤ (↑u : Int) ∧ (↑u : Int) < (↑m : Int)) ∧ (0 + (↑u : Int).toNat * 3 + 3 ≤ y) ∧ (AV.agg [cell' (0 + (↑u : Int).toNat * 3), cell' (0 + (↑u : Int).toNat * 3 + 1), cell' (0 + (↑u : Int).toNat * 3 + 2)] = AV.agg [AV.str q, AV.int IntKind.i64 e, AV.int IntKind.i64 g]) ∧ ((0 : Int) ≤ i ∧ i < (↑n : Int)) ∧ (0 + i.toNat * 3 + 3 ≤ z) ∧ (AV.agg [cell (0 + i.toNat * 3), cell (0 + i.toNat * 3 + 1), cell (0 + i.toNat * 3 + 2)] = AV.agg [AV.str p, AV.int IntKind.i64 a, AV.int IntKind.i64 c]) ∧ (∀ (h : AHeap), jU P h BinOp.eql (35 : Nat) (zo (Operand.tmp (44 : Nat)) || zo (Operand.tmp (48 : Nat))) (AV.agg [AV.str q, AV.int IntKind.i64 e, AV.int IntKind.i64 g]) (AV.agg [AV.str p, AV.int IntKind.i64 a, AV.int IntKind.i64 c]) = some (AV.bool b3)) ∧ (b3 = false) ∧ ((0 : Int) ≤ (↑u : Int) ∧ (↑u : Int) ≤ (↑m : Int)) ∧ ((0 + ((↑u : Int).toNat - (0 : Nat)) * 3 ≤ y ∧ ∀ (k : Nat), k < ((↑u : Int).toNat - (0 : Nat)) * DS → ∃ v, (T.fn fun c => some (cell' c)).get (0 + k) = some v ∧ v.one = true) ∧ (0 : Nat) < (↑u : Int).toNat - (0 : Nat) ∧ zR ((↑u : Int).toNat - (0 : Nat)) (32) = true) ∧ ((0 : Int) ≤ i ∧ i < (↑n : Int)) ∧ (0 + i.toNat * 3 + 3 ≤ z) ∧ (AV.agg [cell (0 + i.toNat * 3), cell (0 + i.toNat * 3 + 1), cell (0 + i.toNat * 3 + 2)] = AV.agg [AV.str p, AV.int IntKind.i64 a, AV.int IntKind.i64 c]) ∧ ((0 + 1 * DS ≤ 3 ∧ ∀ (k : Nat), k < 1 * DS → ∃ v, ((T.leaf.node (some (AV.int IntKind.i64 a)) T.leaf).node (some (AV.str p)) (T.leaf.node (some (AV.int IntKind.i64 c)) T.leaf)).get (0 + k) = some v ∧ v.one = true) ∧ (0 : Nat) < 1 ∧ 0 + ((↑u : Int).toNat - (0 : Nat)) * 3 ≤ ((↑u : Int).toNat - (0 : Nat)) * 3 ∧ 0 ≤ 0 + ((↑u : Int).toNat - (0 : Nat)) * 3 ∧ 0 = 0 * DS ∧ zR ((↑u : Int).toNat - (0 : Nat) + 1) (32) = true ∧ ((↑u : Int).toNat - (0 : Nat)) * 3 < 0 + ((↑u : Int).toNat - (0 : Nat) + 1) * 3) ∧ ((0 : Int) ≤ (↑u : Int) ∧ (↑u : Int) ≤ (↑m : Int)) ∧ ((0 + (↑u : Int).toNat * 3 + (m - (↑u : Int).toNat) * 3 ≤ y ∧ ∀ (k : Nat), k < (m - (↑u : Int).toNat) * DS → ∃ v, (T.fn fun c => some (cell' c)).get (0 + (↑u : Int).toNat * 3 + k) = some v ∧ v.one = true) ∧ (0 : Nat) < m - (↑u : Int).toNat ∧ 0 + ((↑u : Int).toNat - (0 : Nat) + 1) * 3 ≤ 0 + ((↑u : Int).toNat - (0 : Nat)) * 3 + 3 ∧ 0 ≤ 0 + ((↑u : Int).toNat - (0 : Nat) + 1) * 3 ∧ 0 = 0 * DS ∧ zR ((↑u : Int).toNat - (0 : Nat) + 1 + (m - (↑u : Int).toNat)) (32) = true ∧ 0 + ((↑u : Int).toNat - (0 : Nat)) * 3 + 3 < 0 + ((↑u : Int).toNat - (0 : Nat) + 1 + (m - (↑u : Int).toNat)) * 3) ∧ (zY (y2) ((.fn fun c => some (cell2 c))) ((.fn fun k => bif (0 + ((↑u : Int).toNat - (0 : Nat) + 1) * DS).ble k && k.blt (0 + ((↑u : Int).toNat - (0 : Nat) + 1) * DS + (m - (↑u : Int).toNat) * DS) then (fun k => (T.fn fun c => some (cell' c)).get (0 + (↑u : Int).toNat * 3 + k)) (k - (0 + ((↑u : Int).toNat - (0 : Nat) + 1) * DS)) else (T.fn fun k => bif (0 + ((↑u : Int).toNat - (0 : Nat)) * DS).ble k && k.blt (0 + ((↑u : Int).toNat - (0 : Nat)) * DS + 1 * DS) then (fun k => ((T.leaf.node (some (AV.int IntKind.i64 a)) T.leaf).node (some (AV.str p)) (T.leaf.node (some (AV.int IntKind.i64 c)) T.leaf)).get (0 + k)) (k - (0 + ((↑u : Int).toNat - (0 : Nat)) * DS)) else (T.fn fun k => (T.fn fun c => some (cell' c)).get (0 + k)).get k).get k))) ∧ (y2 = 0 + ((↑u : Int).toNat - (0 : Nat) + 1) * 3 + (m - (↑u : Int).toNat) * 3) ∧ (za fun c => some (cell c)) ∧ (za fun c => some (cell2 c)) ∧ K (RsB cell cell2 (IntKind.i64.wrap (i + (1 : Int))) n ((↑u : Int).toNat - (0 : Nat) + 1 + (m - (↑u : Int).toNat)) z y2 G)) := by kernel_rfl
theorem zlO : Obl P 13 (fun v h => R v h) 1 K [.run 8, .know 23 true, .run 2, .op, .op, .slot 27 (.agg [.str q, .int .i64 e, .int .i64 g]), .run 2, .op, .op, .slot 31 (.agg [.str p, .int .i64 a, .int .i64 c]), .run 1, (.callv [0, 1] (.bool b2)), .run 2, .know 33 false, .run 10, .know 40 true, .run 2, .op, .op, .slot 44 (.agg [.str q, .int .i64 e, .int .i64 g]), .run 2, .op, .op, .slot 48 (.agg [.str p, .int .i64 a, .int .i64 c]), .isv (.bool b3), .run 2, .know 50 false, .run 20, .op, .op, .slot 60 (.agg [.str p, .int .i64 a, .int .i64 c]), .run 9, .opw false, .told 3 (.fn fun c => some (cell2 c)) y2, .run 9, .can 1 [0, 3] [0, 3, 4] []] ((RsC cell cell' i 0 n m z y G)) = ((decide (Int.ofNat (0) < (↑m : Int)) = true) ∧ ((0 : Int) ≤ Int.ofNat (0) ∧ Int.ofNat (0) < (↑m : Int)) ∧ (3 ≤ y) ∧ (AV.agg [cell' (0), cell' (1), cell' (2)] = AV.agg [AV.str q, AV.int IntKind.i64 e, AV.int IntKind.i64 g]) ∧ ((0 : Int) ≤ i ∧ i < (↑n : Int)) ∧ (0 + i.toNat * 3 + 3 ≤ z) ∧ (AV.agg [cell (0 + i.toNat * 3), cell (0 + i.toNat * 3 + 1), cell (0 + i.toNat * 3 + 2)] = AV.agg [AV.str p, AV.int IntKind.i64 a, AV.int IntKind.i64 c]) ∧ (Goal P (0) 46 (fun x x_1 => x = AV.bool b2) (zc P 46 [.agg [.str q, .int .i64 e, .int .i64 g], .agg [.str p, .int .i64 a, .int .i64 c]] G)) ∧ (b2 = false) ∧ (decide (Int.ofNat (0) < (↑m : Int)) = true) ∧ ((0 : Int) ≤ Int.ofNat (0) ∧ Int.ofNat (0) < (↑m : Int)) ∧ (3 ≤ y) ∧ (AV.agg [cell' (0), cell' (1), cell' (2)] = AV.agg [AV.str q, AV.int IntKind.i64 e, AV.int IntKind.i64 g]) ∧ ((0 : Int) ≤ i ∧ i < (↑n : Int)) ∧ (0 + i.toNat * 3 + 3 ≤ z) ∧ (AV.agg [cell (0 + i.toNat * 3), cell (0 + i.toNat * 3 + 1), cell (0 + i.toNat * 3 + 2)] = AV.agg [AV.str p, AV.int IntKind.i64 a, AV.int IntKind.i64 c]) ∧ (∀ (h : AHeap), jU P h BinOp.eql (35 : Nat) (zo (Operand.tmp (44 : Nat)) || zo (Operand.tmp (48 : Nat))) (AV.agg [AV.str q, AV.int IntKind.i64 e, AV.int IntKind.i64 g]) (AV.agg [AV.str p, AV.int IntKind.i64 a, AV.int IntKind.i64 c]) = some (AV.bool b3)) ∧ (b3 = false) ∧ ((0 : Int) ≤ i ∧ i < (↑n : Int)) ∧ (0 + i.toNat * 3 + 3 ≤ z) ∧ (AV.agg [cell (0 + i.toNat * 3), cell (0 + i.toNat * 3 + 1), cell (0 + i.toNat * 3 + 2)] = AV.agg [AV.str p, AV.int IntKind.i64 a, AV.int IntKind.i64 c]) ∧ ((0 + m * 3 ≤ y ∧ ∀ (k : Nat), k < m * DS → ∃ v, (T.fn fun c => some (cell' c)).get (0 + k) = some v ∧ v.one = true) ∧ (0 : Nat) < m ∧ 0 + 1 * DS ≤ 3 ∧ 0 ≤ 0 + 1 * DS ∧ 0 = 0 * DS ∧ zR (1 + m) (32) = true ∧ 3 < 0 + (1 + m) * 3) ∧ (zY (y2) ((.fn fun c => some (cell2 c))) ((.fn fun k => bif (0 + 1 * DS).ble k && k.blt (0 + 1 * DS + m * DS) then (fun k => (T.fn fun c => some (cell' c)).get (0 + k)) (k - (0 + 1 * DS)) else ((T.leaf.node (some (AV.int IntKind.i64 a)) T.leaf).node (some (AV.str p)) (T.leaf.node (some (AV.int IntKind.i64 c)) T.leaf)).get k))) ∧ (y2 = 3 + m * 3) ∧ (za fun c => some (cell c)) ∧ (za fun c => some (cell2 c)) ∧ K (RsB cell cell2 (IntKind.i64.wrap (i + (1 : Int))) n (1 + m) z y2 G)) := by kernel_rfl
theorem rD : Obl P 13 (fun v h => R v h) 1 K [.run 60, .op, .op, .slot 60 (.agg [.str p, .int .i64 a, .int .i64 c]), .run 19, .told 2 (.fn fun c => some (cell2 c)) y2, .can 1 [0, 2] [0, 3, 4] []] ((RsD cell i n z G)) = (((0 : Int) ≤ i ∧ i < (↑n : Int)) ∧ (0 + i.toNat * 3 + 3 ≤ z) ∧ (AV.agg [cell (0 + i.toNat * 3), cell (0 + i.toNat * 3 + 1), cell (0 + i.toNat * 3 + 2)] = AV.agg [AV.str p, AV.int IntKind.i64 a, AV.int IntKind.i64 c]) ∧ (zY (y2) ((.fn fun c => some (cell2 c))) ((.node (.node .leaf (some (.int .i64 a)) .leaf) (some (.str p)) (.node .leaf (some (.int .i64 c)) .leaf)))) ∧ (y2 = 3) ∧ (za fun c => some (cell c)) ∧ (za fun c => some (cell2 c)) ∧ K (RsB cell cell2 (IntKind.i64.wrap (i + (1 : Int))) n (1) z y2 G)) := by kernel_rfl
theorem rAyy : Obl P 13 (fun v h => R v h) 1 K [.run 8, .know 10 true, .run 9, .op, .op, .slot 16 (.agg [.str p, .int .i64 a, .int .i64 c]), .run 1, (.callv [0] (.bool b)), .run 2, .know 18 true, .run 8, .can 1 [0] [0, 3, 4] []] ((RsA cell i n z G)) = ((decide (i < (↑n : Int)) = true) ∧ ((0 : Int) ≤ i ∧ i < (↑n : Int)) ∧ (0 + i.toNat * 3 + 3 ≤ z) ∧ (AV.agg [cell (0 + i.toNat * 3), cell (0 + i.toNat * 3 + 1), cell (0 + i.toNat * 3 + 2)] = AV.agg [AV.str p, AV.int IntKind.i64 a, AV.int IntKind.i64 c]) ∧ (Goal P (0) 45 (fun x x_1 => x = AV.bool b) (zc P 45 [.agg [.str p, .int .i64 a, .int .i64 c]] G)) ∧ ((!b) = true) ∧ (za fun c => some (cell c)) ∧ K (RsA cell (IntKind.i64.wrap (i + (1 : Int))) n z G)) := by kernel_rfl
theorem rAyn : Obl P 13 (fun v h => R v h) 1 K [.run 8, .know 10 true, .run 9, .op, .op, .slot 16 (.agg [.str p, .int .i64 a, .int .i64 c]), .run 1, (.callv [0] (.bool b)), .run 2, .know 18 false, .run 9, .can 1 [0] [0, 3, 4, 5] []] ((RsA cell i n z G)) = ((decide (i < (↑n : Int)) = true) ∧ ((0 : Int) ≤ i ∧ i < (↑n : Int)) ∧ (0 + i.toNat * 3 + 3 ≤ z) ∧ (AV.agg [cell (0 + i.toNat * 3), cell (0 + i.toNat * 3 + 1), cell (0 + i.toNat * 3 + 2)] = AV.agg [AV.str p, AV.int IntKind.i64 a, AV.int IntKind.i64 c]) ∧ (Goal P (0) 45 (fun x x_1 => x = AV.bool b) (zc P 45 [.agg [.str p, .int .i64 a, .int .i64 c]] G)) ∧ ((!b) = false) ∧ (za fun c => some (cell c)) ∧ K (RsD cell i n z G)) := by kernel_rfl
end
theorem rAn (R : AV → AHeap → Prop) (cell cell' cell2 cell3 : Nat → AV) (p q : List UInt8) (a c e g i : Int) (u n m z y y2 cp off : Nat) (b b2 b3 : Bool) (G : T (T AV)) (_K : AM → Prop) : Obl P 13 (fun v h => R v h) 1 _K [.run 8, .know 10 false, .run 8, .done] ((RsA cell i n z G)) = ((decide (i < (↑n : Int)) = false) ∧ (R (.nils 0 0) (⟨(.node .leaf (some (.cells (.fn fun c => some (cell c)) z 35 0 0 1 0 false .leaf)) .leaf), 1, G⟩))) := by kernel_rfl
theorem rByy (R : AV → AHeap → Prop) (cell cell' cell2 cell3 : Nat → AV) (p q : List UInt8) (a c e g i : Int) (u n m z y y2 cp off : Nat) (b b2 b3 : Bool) (G : T (T AV)) (K : AM → Prop) : Obl P 13 (fun v h => R v h) 1 K [.run 8, .know 10 true, .run 9, .op, .op, .slot 16 (.agg [.str p, .int .i64 a, .int .i64 c]), .run 1, (.callv [0] (.bool b)), .run 2, .know 18 true, .run 8, .can 1 [0, 1] [0, 3, 4] []] ((RsB cell cell' i n m z y G)) = ((decide (i < (↑n : Int)) = true) ∧ ((0 : Int) ≤ i ∧ i < (↑n : Int)) ∧ (0 + i.toNat * 3 + 3 ≤ z) ∧ (AV.agg [cell (0 + i.toNat * 3), cell (0 + i.toNat * 3 + 1), cell (0 + i.toNat * 3 + 2)] = AV.agg [AV.str p, AV.int IntKind.i64 a, AV.int IntKind.i64 c]) ∧ (Goal P (0) 45 (fun x x_1 => x = AV.bool b) (zc P 45 [.agg [.str p, .int .i64 a, .int .i64 c]] G)) ∧ ((!b) = true) ∧ (za fun c => some (cell c)) ∧ (za fun c => some (cell' c)) ∧ K (RsB cell cell' (IntKind.i64.wrap (i + (1 : Int))) n m z y G)) := by kernel_rfl
theorem rByn (R : AV → AHeap → Prop) (cell cell' cell2 cell3 : Nat → AV) (p q : List UInt8) (a c e g i : Int) (u n m z y y2 cp off : Nat) (b b2 b3 : Bool) (G : T (T AV)) (K : AM → Prop) : Obl P 13 (fun v h => R v h) 1 K [.run 8, .know 10 true, .run 9, .op, .op, .slot 16 (.agg [.str p, .int .i64 a, .int .i64 c]), .run 1, (.callv [0] (.bool b)), .run 2, .know 18 false, .run 9, .can 1 [0, 1] [0, 3, 4, 5] []] ((RsB cell cell' i n m z y G)) = ((decide (i < (↑n : Int)) = true) ∧ ((0 : Int) ≤ i ∧ i < (↑n : Int)) ∧ (0 + i.toNat * 3 + 3 ≤ z) ∧ (AV.agg [cell (0 + i.toNat * 3), cell (0 + i.toNat * 3 + 1), cell (0 + i.toNat * 3 + 2)] = AV.agg [AV.str p, AV.int IntKind.i64 a, AV.int IntKind.i64 c]) ∧ (Goal P (0) 45 (fun x x_1 => x = AV.bool b) (zc P 45 [.agg [.str p, .int .i64 a, .int .i64 c]] G)) ∧ ((!b) = false) ∧ (za fun c => some (cell c)) ∧ (za fun c => some (cell' c)) ∧ K (RsC cell cell' i (Int.ofNat (0)) n m z y G)) := by kernel_rfl
theorem rBn (R : AV → AHeap → Prop) (cell cell' cell2 cell3 : Nat → AV) (p q : List UInt8) (a c e g i : Int) (u n m z y y2 cp off : Nat) (b b2 b3 : Bool) (G : T (T AV)) (_K : AM → Prop) : Obl P 13 (fun v h => R v h) 1 _K [.run 8, .know 10 false, .run 8, .done] ((RsB cell cell' i n m z y G)) = ((decide (i < (↑n : Int)) = false) ∧ (R (.slg 1 0 0 m 0) (⟨(.node (.node .leaf (some (.cells (.fn fun c => some (cell' c)) y 35 0 0 1 0 false .leaf)) .leaf) (some (.cells (.fn fun c => some (cell c)) z 35 0 0 1 0 false .leaf)) .leaf), 2, G⟩))) := by kernel_rfl
theorem rs (R : AV → AHeap → Prop) (cell cell' cell2 cell3 : Nat → AV) (p q : List UInt8) (a c e g i : Int) (u n m z y y2 cp off : Nat) (b b2 b3 : Bool) (G : T (T AV)) (K : AM → Prop) : Obl P 13 (fun v h => R v h) 1 K [.run 15, .can 1 [0] [0, 3, 4] []] ((zg P 13 [.slg 0 0 0 n 0] ⟨(.node .leaf (some (.cells (.fn fun c => some (cell c)) z 35 0 0 1 0 false .leaf)) .leaf), 1, G⟩)) = ((za fun c => some (cell c)) ∧ K (RsA cell (Int.ofNat (0)) n z G)) := by kernel_rfl
theorem rn (R : AV → AHeap → Prop) (cell cell' cell2 cell3 : Nat → AV) (p q : List UInt8) (a c e g i : Int) (u n m z y y2 cp off : Nat) (b b2 b3 : Bool) (G : T (T AV)) (_K : AM → Prop) : Obl P 13 (fun v h => R v h) 0 _K [.run 31, .can 0 [] [2] [], .done] ((zg P 13 [.nils 0 0] ⟨.leaf, 0, G⟩)) = ((R (.nils 0 0) (⟨.leaf, 0, G⟩))) := by kernel_rfl
theorem lq (R : AV → AHeap → Prop) (cell cell' cell2 cell3 : Nat → AV) (p q s w t v2 : List UInt8) (a c e g i : Int) (u n m cp z y y2 lo off k : Nat) (b b2 b3 : Bool) (G : T (T AV)) (K : AM → Prop) : Obl P 72 (fun v h => R v h) 0 K [.run 11, .can 0 [] [0, 1, 5] []] ((zc P 72 [.str p, .str q] G)) = (K (Ls p q (Int.ofNat (0)) G)) := by kernel_rfl
theorem llyyy (R : AV → AHeap → Prop) (cell cell' cell2 cell3 : Nat → AV) (p q s w t v2 : List UInt8) (a c e g i : Int) (u n m cp z y y2 lo off k : Nat) (b b2 b3 : Bool) (G : T (T AV)) (_K : AM → Prop) : Obl P 72 (fun v h => R v h) 0 _K [.run 8, .know 10 true, .run 6, .know 15 true, .run 8, .op, .run 2, .op, .run 2, .know 24 true, .run 5, .op, .run 2, .op, .run 4, .done] ((Ls p q i G)) = ((decide (i < (↑p.length : Int)) = true) ∧ (decide (i < (↑q.length : Int)) = true) ∧ ((0 : Int) ≤ i ∧ i < (↑p.length : Int)) ∧ ((0 : Int) ≤ i ∧ i < (↑q.length : Int)) ∧ (((↑(p.getD i.toNat (0 : UInt8)).toNat : Int) != (↑(q.getD i.toNat (0 : UInt8)).toNat : Int)) = true) ∧ ((0 : Int) ≤ i ∧ i < (↑p.length : Int)) ∧ ((0 : Int) ≤ i ∧ i < (↑q.length : Int)) ∧ (R (.bool (decide ((↑(p.getD i.toNat (0 : UInt8)).toNat : Int) < (↑(q.getD i.toNat (0 : UInt8)).toNat : Int)))) (⟨.leaf, 0, G⟩))) := by kernel_rfl
theorem llyyn (R : AV → AHeap → Prop) (cell cell' cell2 cell3 : Nat → AV) (p q s w t v2 : List UInt8) (a c e g i : Int) (u n m cp z y y2 lo off k : Nat) (b b2 b3 : Bool) (G : T (T AV)) (K : AM → Prop) : Obl P 72 (fun v h => R v h) 0 K [.run 8, .know 10 true, .run 6, .know 15 true, .run 8, .op, .run 2, .op, .run 2, .know 24 false, .run 9, .can 0 [] [0, 1, 5] []] ((Ls p q i G)) = ((decide (i < (↑p.length : Int)) = true) ∧ (decide (i < (↑q.length : Int)) = true) ∧ ((0 : Int) ≤ i ∧ i < (↑p.length : Int)) ∧ ((0 : Int) ≤ i ∧ i < (↑q.length : Int)) ∧ (((↑(p.getD i.toNat (0 : UInt8)).toNat : Int) != (↑(q.getD i.toNat (0 : UInt8)).toNat : Int)) = false) ∧ K (Ls p q (IntKind.i64.wrap (i + (1 : Int))) G)) := by kernel_rfl
section
set_option linter.unusedSectionVars false
variable (R : AV → AHeap → Prop) (cell cell' cell2 cell3 : Nat → AV) (p q s w t v2 : List UInt8) (a c e g i : Int) (u n m cp z y y2 lo off k : Nat) (b b2 b3 : Bool) (G : T (T AV)) (_K : AM → Prop)
include R cell cell' cell2 cell3 p q s w t v2 a c e g i u n m cp z y y2 lo off k b b2 b3 G _K
theorem llyn : Obl P 72 (fun v h => R v h) 0 _K [.run 8, .know 10 true, .run 6, .know 15 false, .run 12, .done] ((Ls p q i G)) = ((decide (i < (↑p.length : Int)) = true) ∧ (decide (i < (↑q.length : Int)) = false) ∧ (R (.bool (decide ((↑p.length : Int) < (↑q.length : Int)))) (⟨.leaf, 0, G⟩))) := by kernel_rfl
theorem lln : Obl P 72 (fun v h => R v h) 0 _K [.run 8, .know 10 false, .run 18, .done] ((Ls p q i G)) = ((decide (i < (↑p.length : Int)) = false) ∧ (R (.bool (decide ((↑p.length : Int) < (↑q.length : Int)))) (⟨.leaf, 0, G⟩))) := by kernel_rfl
theorem lxy : Obl P 46 (fun v _ => R v (⟨.leaf, 0, G⟩)) 0 _K [.run 15, .know 9 true, .run 8, (.callv [0, 1] (.bool b)), .run 3, .can 0 [] [4] [], .done] ((zc P 46 [.agg [.str p, .int .i64 a, .int .i64 c], .agg [.str q, .int .i64 e, .int .i64 g]] G)) = (((!p == q) = true) ∧ (Goal P (0) 72 (fun x x_1 => x = AV.bool b) (zc P 72 [.str p, .str q] G)) ∧ (R (.bool b) (⟨.leaf, 0, G⟩))) := by kernel_rfl
theorem lxny : Obl P 46 (fun v _ => R v (⟨.leaf, 0, G⟩)) 0 _K [.run 15, .know 9 false, .run 11, .know 19 true, .run 11, .can 0 [] [4] [], .done] ((zc P 46 [.agg [.str p, .int .i64 a, .int .i64 c], .agg [.str q, .int .i64 e, .int .i64 g]] G)) = (((!p == q) = false) ∧ ((a != e) = true) ∧ (R (.bool (decide (a < e))) (⟨.leaf, 0, G⟩))) := by kernel_rfl
theorem lxnn : Obl P 46 (fun v _ => R v (⟨.leaf, 0, G⟩)) 0 _K [.run 15, .know 9 false, .run 11, .know 19 false, .run 12, .can 0 [] [4] [], .done] ((zc P 46 [.agg [.str p, .int .i64 a, .int .i64 c], .agg [.str q, .int .i64 e, .int .i64 g]] G)) = (((!p == q) = false) ∧ ((a != e) = false) ∧ (R (.bool (decide (c < g))) (⟨.leaf, 0, G⟩))) := by kernel_rfl
theorem zmF : Obl P 45 (fun v h => R v h) 0 _K [.run 11, .know 6 true, .run 5, .know 11 true, .run 5, .know 16 true, .run 5, .know 21 true, .run 8, .done] ((zc P 45 [.agg [.str p, .int .i64 a, .int .i64 c]] G)) = ((decide (c ≥ (1 : Int)) = true) ∧ (decide (c ≤ (13 : Int)) = true) ∧ (decide (a ≥ (0 : Int)) = true) ∧ (decide (a < (2147483648 : Int)) = true) ∧ (R (.bool (decide ((↑p.length : Int) ≤ (200 : Int)))) (⟨(.node .leaf (some (.cells (.node (.node .leaf (some (.int .i64 a)) .leaf) (some (.str p)) (.node .leaf (some (.int .i64 c)) .leaf)) 3 35 0 0 1 0 false .leaf)) .leaf), 1, G⟩))) := by kernel_rfl
theorem zmf : Obl P 45 (fun v h => R v h) 0 _K [.run 11, .know 6 true, .run 5, .know 11 true, .run 5, .know 16 true, .run 5, .know 21 false, .run 8, .done] ((zc P 45 [.agg [.str p, .int .i64 a, .int .i64 c]] G)) = ((decide (c ≥ (1 : Int)) = true) ∧ (decide (c ≤ (13 : Int)) = true) ∧ (decide (a ≥ (0 : Int)) = true) ∧ (decide (a < (2147483648 : Int)) = false) ∧ (R (.bool false) (⟨(.node .leaf (some (.cells (.node (.node .leaf (some (.int .i64 a)) .leaf) (some (.str p)) (.node .leaf (some (.int .i64 c)) .leaf)) 3 35 0 0 1 0 false .leaf)) .leaf), 1, G⟩))) := by kernel_rfl
theorem mryyn : Obl P 45 (fun v h => R v h) 0 _K [.run 11, .know 6 true, .run 5, .know 11 true, .run 5, .know 16 false, .run 13, .done] ((zc P 45 [.agg [.str p, .int .i64 a, .int .i64 c]] G)) = ((decide (c ≥ (1 : Int)) = true) ∧ (decide (c ≤ (13 : Int)) = true) ∧ (decide (a ≥ (0 : Int)) = false) ∧ (R (.bool false) (⟨(.node .leaf (some (.cells (.node (.node .leaf (some (.int .i64 a)) .leaf) (some (.str p)) (.node .leaf (some (.int .i64 c)) .leaf)) 3 35 0 0 1 0 false .leaf)) .leaf), 1, G⟩))) := by kernel_rfl
theorem mryn : Obl P 45 (fun v h => R v h) 0 _K [.run 11, .know 6 true, .run 5, .know 11 false, .run 18, .done] ((zc P 45 [.agg [.str p, .int .i64 a, .int .i64 c]] G)) = ((decide (c ≥ (1 : Int)) = true) ∧ (decide (c ≤ (13 : Int)) = false) ∧ (R (.bool false) (⟨(.node .leaf (some (.cells (.node (.node .leaf (some (.int .i64 a)) .leaf) (some (.str p)) (.node .leaf (some (.int .i64 c)) .leaf)) 3 35 0 0 1 0 false .leaf)) .leaf), 1, G⟩))) := by kernel_rfl
theorem mrn : Obl P 45 (fun v h => R v h) 0 _K [.run 11, .know 6 false, .run 23, .done] ((zc P 45 [.agg [.str p, .int .i64 a, .int .i64 c]] G)) = ((decide (c ≥ (1 : Int)) = false) ∧ (R (.bool false) (⟨(.node .leaf (some (.cells (.node (.node .leaf (some (.int .i64 a)) .leaf) (some (.str p)) (.node .leaf (some (.int .i64 c)) .leaf)) 3 35 0 0 1 0 false .leaf)) .leaf), 1, G⟩))) := by kernel_rfl
theorem sn : Obl P 11 (fun v h => R v h) 0 _K [.run 37, .can 0 [] [4] [], .done] ((zg P 11 [.nils 0 0, .nils 0 0] ⟨.leaf, 0, G⟩)) = ((R (.bool true) (⟨.leaf, 0, G⟩))) := by kernel_rfl
end
theorem esG (R : AV → AHeap → Prop) (cell cell' cell2 cell3 : Nat → AV) (p q s w t v2 : List UInt8) (a c e g i : Int) (u n m cp z y y2 lo off k : Nat) (b b2 b3 : Bool) (G : T (T AV)) (K : AM → Prop) : Obl P 15 (fun v h => R v h) 1 K [.run 8, (.callh [(0, 0, [])] [0] (.slg 1 0 0 m 0) ⟨(.node (.node .leaf (some (.cells (.fn fun c => some (cell' c)) y 35 0 0 1 0 false .leaf)) .leaf) (some (.cells (.fn fun c => some (cell c)) z 35 0 0 1 0 false .leaf)) .leaf), 2, G⟩), .run 8, (.callv [0, 1] (.str w)), .run 9, .can 1 [0, 1] [0, 3, 4] []] ((zg P 15 [.slg 0 0 0 n 0] ⟨(.node .leaf (some (.cells (.fn fun c => some (cell c)) z 35 0 0 1 0 false .leaf)) .leaf), 1, G⟩)) = ((za fun c => some (cell c)) ∧ (za fun c => some (cell c)) ∧ (za fun c => some (cell' c)) ∧ (Goal P (1) 13 (fun x k => x = AV.slg (1 : Nat) (0 : Nat) (0 : Nat) m (0 : Nat) ∧ k = { objs := (T.leaf.node (some (AObj.cells (T.fn fun c => some (cell' c)) y (35 : TypeId) (0 : Nat) (0 : Nat) (1 : Nat) (0 : Nat) false T.leaf)) T.leaf).node (some (AObj.cells (T.fn fun c => some (cell c)) z (35 : TypeId) (0 : Nat) (0 : Nat) (1 : Nat) (0 : Nat) false T.leaf)) T.leaf, next := (2 : Nat), glob := G }) (zg P 13 [.slg 0 0 0 n 0] ⟨(.node .leaf (some (.cells (.fn fun c => some (cell c)) z 35 0 0 1 0 false .leaf)) .leaf), 1, G⟩)) ∧ (Goal P (0) 51 (fun x x_1 => x = AV.str w) (zc P 51 [.str [], .int .u64 (IntKind.u64.wrap (↑m : Int))] G)) ∧ (za fun c => some (cell c)) ∧ (za fun c => some (cell' c)) ∧ K (Er cell cell' w (Int.ofNat (0)) m z y G)) := by kernel_rfl
theorem ez (R : AV → AHeap → Prop) (cell cell' cell2 cell3 : Nat → AV) (p q s w t v2 : List UInt8) (a c e g i : Int) (u n m cp z y y2 lo off k : Nat) (b b2 b3 : Bool) (G : T (T AV)) (K : AM → Prop) : Obl P 15 (fun v h => R v h) 1 K [.run 8, (.callh [(0, 0, [])] [0] (.nils 0 0) ⟨(.node .leaf (some (.cells (.fn fun c => some (cell c)) z 35 0 0 1 0 false .leaf)) .leaf), 1, G⟩), .run 8, (.callv [0, 1] (.str w)), .run 9, .can 1 [0] [0, 3, 4] []] ((zg P 15 [.slg 0 0 0 n 0] ⟨(.node .leaf (some (.cells (.fn fun c => some (cell c)) z 35 0 0 1 0 false .leaf)) .leaf), 1, G⟩)) = ((za fun c => some (cell c)) ∧ (za fun c => some (cell c)) ∧ (Goal P (1) 13 (fun x k => x = AV.nils (0 : Nat) (0 : Nat) ∧ k = { objs := T.leaf.node (some (AObj.cells (T.fn fun c => some (cell c)) z (35 : TypeId) (0 : Nat) (0 : Nat) (1 : Nat) (0 : Nat) false T.leaf)) T.leaf, next := (1 : Nat), glob := G }) (zg P 13 [.slg 0 0 0 n 0] ⟨(.node .leaf (some (.cells (.fn fun c => some (cell c)) z 35 0 0 1 0 false .leaf)) .leaf), 1, G⟩)) ∧ (Goal P (0) 51 (fun x x_1 => x = AV.str w) (zc P 51 [.str [], .int .u64 0] G)) ∧ (za fun c => some (cell c)) ∧ K (Ez cell w z G)) := by kernel_rfl
theorem ezd (R : AV → AHeap → Prop) (cell cell' cell2 cell3 : Nat → AV) (p q s w t v2 : List UInt8) (a c e g i : Int) (u n m cp z y y2 lo off k : Nat) (b b2 b3 : Bool) (G : T (T AV)) (_K : AM → Prop) : Obl P 15 (fun v h => R v h) 1 _K [.run 16, .can 1 [0] [2] [], .done] ((Ez cell s z G)) = ((za fun c => some (cell c)) ∧ (R (.str s) (⟨(.node .leaf (some (.cells (.fn fun c => some (cell c)) z 35 0 0 1 0 false .leaf)) .leaf), 1, G⟩))) := by kernel_rfl
theorem en (R : AV → AHeap → Prop) (cell cell' cell2 cell3 : Nat → AV) (p q s w t v2 : List UInt8) (a c e g i : Int) (u n m cp z y y2 lo off k : Nat) (b b2 b3 : Bool) (G : T (T AV)) (_K : AM → Prop) : Obl P 15 (fun v h => R v h) 0 _K [.run 8, (.callh [] [0] (.nils 0 0) ⟨.leaf, 0, G⟩), .run 8, (.callv [0, 1] (.str w)), .run 25, .can 0 [] [2] [], .done] ((zg P 15 [.nils 0 0] ⟨.leaf, 0, G⟩)) = ((Goal P (0) 13 (fun x k => x = AV.nils (0 : Nat) (0 : Nat) ∧ k = { objs := T.leaf, next := (0 : Nat), glob := G }) (zc P 13 [.nils 0 0] G)) ∧ (Goal P (0) 51 (fun x x_1 => x = AV.str w) (zc P 51 [.str [], .int .u64 0] G)) ∧ (R (.str w) (⟨.leaf, 0, G⟩))) := by kernel_rfl
theorem er (R : AV → AHeap → Prop) (cell cell' cell2 cell3 : Nat → AV) (p q s w t v2 : List UInt8) (a c e g i : Int) (u n m cp z y y2 lo off k : Nat) (b b2 b3 : Bool) (G : T (T AV)) (K : AM → Prop) : Obl P 15 (fun v h => R v h) 1 K [.run 8, .know 14 true, .run 9, .op, .run 1, .op, .slot 22 (.str p), .run 1, .callv [0, 1] (.str w), .run 7, .op, .run 1, .op, .slot 29 (.int .i64 a), .run 2, .callv [0, 1] (.str t), .run 6, .op, .run 1, .op, .slot 37 (.int .i64 c), .run 2, .callv [0, 1] (.str v2), .run 9, .can 1 [0, 1] [0, 3, 4] []] ((Er cell cell' s i m z y G)) = ((decide (i < (↑m : Int)) = true) ∧ ((0 : Int) ≤ i ∧ i < (↑m : Int)) ∧ (0 + i.toNat * 3 + (1 : Nat) ≤ y) ∧ (cell' (0 + i.toNat * 3) = AV.str p) ∧ (Goal P (0) 52 (fun x x_1 => x = AV.str w) (zc P 52 [.str s, .str p] G)) ∧ ((0 : Int) ≤ i ∧ i < (↑m : Int)) ∧ (0 + i.toNat * 3 + 1 + (1 : Nat) ≤ y) ∧ (cell' (0 + i.toNat * 3 + 1) = AV.int IntKind.i64 a) ∧ (Goal P (0) 51 (fun x x_1 => x = AV.str t) (zc P 51 [.str w, .int .u64 (IntKind.u64.wrap a)] G)) ∧ ((0 : Int) ≤ i ∧ i < (↑m : Int)) ∧ (0 + i.toNat * 3 + 2 + (1 : Nat) ≤ y) ∧ (cell' (0 + i.toNat * 3 + 2) = AV.int IntKind.i64 c) ∧ (Goal P (0) 51 (fun x x_1 => x = AV.str v2) (zc P 51 [.str t, .int .u64 (IntKind.u64.wrap c)] G)) ∧ (za fun c => some (cell c)) ∧ (za fun c => some (cell' c)) ∧ K (Er cell cell' v2 (IntKind.i64.wrap (i + (1 : Int))) m z y G)) := by kernel_rfl
theorem edn (R : AV → AHeap → Prop) (cell cell' cell2 cell3 : Nat → AV) (p q s w t v2 : List UInt8) (a c e g i : Int) (u n m cp z y y2 lo off k : Nat) (b b2 b3 : Bool) (G : T (T AV)) (_K : AM → Prop) : Obl P 15 (fun v h => R v h) 1 _K [.run 8, .know 14 false, .run 8, .can 1 [0] [2] [], .done] ((Er cell cell' s i m z y G)) = ((decide (i < (↑m : Int)) = false) ∧ (za fun c => some (cell c)) ∧ (R (.str s) (⟨(.node .leaf (some (.cells (.fn fun c => some (cell c)) z 35 0 0 1 0 false .leaf)) .leaf), 1, G⟩))) := by kernel_rfl
theorem up1b (k : Nat) (h : k < 1000000000) : IntKind.i64.wrap ((k : Int) + 1) = ((k + 1 : Nat) : Int) := by rw [IntWalk.i64_in _ (by omega)]; omega
theorem kl {p : List UInt8} {i : Nat} (h : i < p.length) : p.drop i = p.getD i 0 :: p.drop (i + 1) := by
 rw [List.drop_eq_getElem_cons h, List.getD_eq_getElem?_getD, List.getElem?_eq_getElem h]
 rfl
theorem zcO {p q : List UInt8} (hp : p.length < 1000000000) : ∀ r i, i + r = p.length → Goal P 0 72 (fun v _ => v = .bool (decide (p.drop i < q.drop i))) (Ls p q (i : Int) GW)
 | 0, i, hi => by
  have hd : p.drop i = [] := List.drop_eq_nil_of_le (by omega)
  have e : decide (p.drop i < q.drop i) = decide ((p.length : Int) < (q.length : Int)) := by
   rw [hd, decide_eq_decide]
   by_cases h : i < q.length
   · rw [kl h]
     exact ⟨fun _ => by omega, fun _ => List.nil_lt_cons _ _⟩
   · rw [List.drop_eq_nil_of_le (by omega : q.length ≤ i)]
     exact ⟨fun h => absurd h (List.lt_irrefl _), fun h => by omega⟩
  exact Obl.goal (K := Goal P 0 72 _) mix (fun _ h => h) (cast (lln (fun v _ => v = .bool (decide (p.drop i < q.drop i))) (el zf) (el zf) (el zf) (el zf) (p) (q) [] [] [] [] 0 0 0 0 ((i : Int)) 0 0 0 0 0 0 0 0 0 0 false false false GW _).symm ⟨decide_eq_false (by omega), congrArg AV.bool e.symm⟩)
 | r + 1, i, hi => by
  have h1 : i < p.length := by omega
  by_cases h2 : i < q.length
  · have c1 : decide ((i : Int) < (p.length : Int)) = true := decide_eq_true (by omega)
    have c2 : decide ((i : Int) < (q.length : Int)) = true := decide_eq_true (by omega)
    by_cases he : p.getD i 0 = q.getD i 0
    · have ih := zcO (q := q) hp r (i + 1) (by omega)
      have e : decide (p.drop i < q.drop i) = decide (p.drop (i + 1) < q.drop (i + 1)) := by
       rw [kl h1, kl h2, he, decide_eq_decide, List.cons_lt_cons_iff]
       exact ⟨fun h => h.elim (fun h => absurd h (UInt8.lt_irrefl _)) fun h => h.2, fun h => .inr ⟨rfl, h⟩⟩
      rw [e]
      exact Obl.goal (K := Goal P 0 72 _) mix (fun _ h => h) (cast (llyyn (fun v _ => v = .bool (decide (p.drop (i + 1) < q.drop (i + 1)))) (el zf) (el zf) (el zf) (el zf) (p) (q) [] [] [] [] 0 0 0 0 ((i : Int)) 0 0 0 0 0 0 0 0 0 0 false false false GW _).symm ⟨c1, c2, ⟨by omega, by omega⟩, ⟨by omega, by omega⟩, by rw [← Bool.not_eq_true, bne_iff_ne]; exact fun h => h (congrArg (fun x : UInt8 => ((x.toNat : Nat) : Int)) he), by rw [up1b i (by omega)]; exact ih⟩)
    · have hne : ¬ (((p.getD i 0).toNat : Nat) : Int) = (((q.getD i 0).toNat : Nat) : Int) := fun h => he (UInt8.toNat_inj.1 (by omega))
      have e : decide (p.drop i < q.drop i) = decide ((((p.getD i 0).toNat : Nat) : Int) < (((q.getD i 0).toNat : Nat) : Int)) := by
       rw [kl h1, kl h2, decide_eq_decide, List.cons_lt_cons_iff, UInt8.lt_iff_toNat_lt]
       constructor
       · rintro (h | h)
         · omega
         · exact absurd h.1 he
       · intro h
         exact .inl (by omega)
      rw [e]
      exact Obl.goal (K := Goal P 0 72 _) mix (fun _ h => h) (cast (llyyy (fun v _ => v = .bool (decide ((((p.getD i 0).toNat : Nat) : Int) < (((q.getD i 0).toNat : Nat) : Int)))) (el zf) (el zf) (el zf) (el zf) (p) (q) [] [] [] [] 0 0 0 0 ((i : Int)) 0 0 0 0 0 0 0 0 0 0 false false false GW _).symm ⟨c1, c2, ⟨by omega, by omega⟩, ⟨by omega, by omega⟩, by rw [bne_iff_ne]; exact hne, ⟨by omega, by omega⟩, ⟨by omega, by omega⟩, rfl⟩)
  · have e : decide (p.drop i < q.drop i) = decide ((p.length : Int) < (q.length : Int)) := by
     rw [kl h1, List.drop_eq_nil_of_le (by omega : q.length ≤ i), decide_eq_decide]
     exact ⟨fun h => absurd h (List.not_lt_nil _), fun h => by omega⟩
    exact Obl.goal (K := Goal P 0 72 _) mix (fun _ h => h) (cast (llyn (fun v _ => v = .bool (decide (p.drop i < q.drop i))) (el zf) (el zf) (el zf) (el zf) (p) (q) [] [] [] [] 0 0 0 0 ((i : Int)) 0 0 0 0 0 0 0 0 0 0 false false false GW _).symm ⟨decide_eq_true (by omega), decide_eq_false (by omega), congrArg AV.bool e.symm⟩)
theorem zkO {p q : List UInt8} (hp : p.length < 1000000000) : Goal P 0 72 (fun v _ => v = .bool (decide (p < q))) (zc P 72 [.str p, .str q] GW) :=
 Obl.goal (K := Goal P 0 72 _) mix (fun _ h => h) (cast (lq (fun v _ => v = .bool (decide (p < q))) (el zf) (el zf) (el zf) (el zf) (p) (q) [] [] [] [] 0 0 0 0 0 0 0 0 0 0 0 0 0 0 0 false false false GW _).symm (zcO (p := p) (q := q) hp p.length 0 (Nat.zero_add _)))
theorem zht (d : Dg) : Goal P 0 45 (fun x _ => x = .bool (kU d)) (zc P 45 [.agg [.str d.1, .int .i64 d.2.1, .int .i64 d.2.2]] GW) := by
 unfold kU
 by_cases h1 : d.2.2 ≥ 1
 · by_cases h2 : d.2.2 ≤ 13
   · by_cases h3 : d.2.1 ≥ 0
     · by_cases h4 : d.2.1 < 2147483648
       · have e : decide (1 ≤ d.2.2 ∧ d.2.2 ≤ 13 ∧ 0 ≤ d.2.1 ∧ d.2.1 ≤ 2147483647 ∧ d.1.length ≤ 200) = decide (((d.1.length : Nat) : Int) ≤ (200 : Int)) := by
          rw [decide_eq_decide]
          omega
         rw [e]
         exact Obl.goal (K := Goal P 0 45 _) mix (fun _ h => h) (cast (zmF (fun v _ => v = .bool (decide (((d.1.length : Nat) : Int) ≤ (200 : Int)))) (el zf) (el zf) (el zf) (el zf) (d.1) [] [] [] [] [] (d.2.1) (d.2.2) 0 0 0 0 0 0 0 0 0 0 0 0 0 false false false GW _).symm ⟨decide_eq_true h1, decide_eq_true h2, decide_eq_true h3, decide_eq_true h4, rfl⟩)
       · rw [decide_eq_false (p := 1 ≤ d.2.2 ∧ d.2.2 ≤ 13 ∧ 0 ≤ d.2.1 ∧ d.2.1 ≤ 2147483647 ∧ d.1.length ≤ 200) (by omega)]
         exact Obl.goal (K := Goal P 0 45 _) mix (fun _ h => h) (cast (zmf (fun v _ => v = .bool false) (el zf) (el zf) (el zf) (el zf) (d.1) [] [] [] [] [] (d.2.1) (d.2.2) 0 0 0 0 0 0 0 0 0 0 0 0 0 false false false GW _).symm ⟨decide_eq_true h1, decide_eq_true h2, decide_eq_true h3, decide_eq_false h4, rfl⟩)
     · rw [decide_eq_false (p := 1 ≤ d.2.2 ∧ d.2.2 ≤ 13 ∧ 0 ≤ d.2.1 ∧ d.2.1 ≤ 2147483647 ∧ d.1.length ≤ 200) (by omega)]
       exact Obl.goal (K := Goal P 0 45 _) mix (fun _ h => h) (cast (mryyn (fun v _ => v = .bool false) (el zf) (el zf) (el zf) (el zf) (d.1) [] [] [] [] [] (d.2.1) (d.2.2) 0 0 0 0 0 0 0 0 0 0 0 0 0 false false false GW _).symm ⟨decide_eq_true h1, decide_eq_true h2, decide_eq_false h3, rfl⟩)
   · rw [decide_eq_false (p := 1 ≤ d.2.2 ∧ d.2.2 ≤ 13 ∧ 0 ≤ d.2.1 ∧ d.2.1 ≤ 2147483647 ∧ d.1.length ≤ 200) (by omega)]
     exact Obl.goal (K := Goal P 0 45 _) mix (fun _ h => h) (cast (mryn (fun v _ => v = .bool false) (el zf) (el zf) (el zf) (el zf) (d.1) [] [] [] [] [] (d.2.1) (d.2.2) 0 0 0 0 0 0 0 0 0 0 0 0 0 false false false GW _).symm ⟨decide_eq_true h1, decide_eq_false h2, rfl⟩)
 · rw [decide_eq_false (p := 1 ≤ d.2.2 ∧ d.2.2 ≤ 13 ∧ 0 ≤ d.2.1 ∧ d.2.1 ≤ 2147483647 ∧ d.1.length ≤ 200) (by omega)]
   exact Obl.goal (K := Goal P 0 45 _) mix (fun _ h => h) (cast (mrn (fun v _ => v = .bool false) (el zf) (el zf) (el zf) (el zf) (d.1) [] [] [] [] [] (d.2.1) (d.2.2) 0 0 0 0 0 0 0 0 0 0 0 0 0 false false false GW _).symm ⟨decide_eq_false h1, rfl⟩)
instance (x y : Dg) : Decidable (Lt x y) := inferInstanceAs (Decidable (_ ∨ _))
theorem lt_ok (x y : Dg) (hx : x.1.length < 1000000000) : Goal P 0 46 (fun v _ => v = .bool (decide (Lt x y))) (zc P 46 [.agg [.str x.1, .int .i64 x.2.1, .int .i64 x.2.2], .agg [.str y.1, .int .i64 y.2.1, .int .i64 y.2.2]] GW) := by
 by_cases h1 : x.1 = y.1
 · by_cases h2 : x.2.1 = y.2.1
   · have e : decide (Lt x y) = decide (x.2.2 < y.2.2) := by
      rw [decide_eq_decide]
      unfold Lt
      rw [h1, h2]
      exact ⟨fun h => h.elim (fun h => absurd h (zab _)) fun h => by omega, fun h => .inr ⟨rfl, .inr ⟨rfl, h⟩⟩⟩
     rw [e]
     exact Obl.goal (K := Goal P 0 46 _) mix (fun _ h => h) (cast (lxnn (fun v _ => v = .bool (decide (x.2.2 < y.2.2))) (el zf) (el zf) (el zf) (el zf) (x.1) (y.1) [] [] [] [] (x.2.1) (x.2.2) (y.2.1) (y.2.2) 0 0 0 0 0 0 0 0 0 0 0 false false false GW _).symm ⟨by rw [h1]; simp, by rw [h2]; simp, rfl⟩)
   · have e : decide (Lt x y) = decide (x.2.1 < y.2.1) := by
      rw [decide_eq_decide]
      unfold Lt
      rw [h1]
      exact ⟨fun h => h.elim (fun h => absurd h (zab _)) fun h => by omega, fun h => .inr ⟨rfl, .inl h⟩⟩
     rw [e]
     exact Obl.goal (K := Goal P 0 46 _) mix (fun _ h => h) (cast (lxny (fun v _ => v = .bool (decide (x.2.1 < y.2.1))) (el zf) (el zf) (el zf) (el zf) (x.1) (y.1) [] [] [] [] (x.2.1) (x.2.2) (y.2.1) (y.2.2) 0 0 0 0 0 0 0 0 0 0 0 false false false GW _).symm ⟨by rw [h1]; simp, by rw [bne_iff_ne]; exact h2, rfl⟩)
 · have e : decide (Lt x y) = decide (x.1 < y.1) := by
    rw [decide_eq_decide]
    unfold Lt
    exact ⟨fun h => h.elim id fun h => absurd h.1 h1, .inl⟩
   rw [e]
   exact Obl.goal (K := Goal P 0 46 _) mix (fun _ h => h) (cast (lxy (fun v _ => v = .bool (decide (x.1 < y.1))) (el zf) (el zf) (el zf) (el zf) (x.1) (y.1) [] [] [] [] (x.2.1) (x.2.2) (y.2.1) (y.2.2) 0 0 0 0 0 0 0 0 0 0 0 (decide (x.1 < y.1)) false false GW _).symm ⟨by rw [beqF h1]; rfl, zkO hx, rfl⟩)
def ins (g : Nat → Dg) (u : Nat) (d : Dg) (j : Nat) : Dg := if j < u then g j else if j = u then d else g (j - 1)
theorem zms {h : Nat → Dg} {n : Nat} (k : ∀ i j, i < j → j < n → Lt (h i) (h j)) : Ups (sl h 0 n) := by
 refine List.pairwise_iff_getElem.2 fun i j hi hj hij => ?_
 rw [x7] at hi hj
 have e1 : (sl h 0 n)[i]? = some (h i) := by rw [jO _ _ _ _ (by omega), Nat.zero_add]
 have e2 : (sl h 0 n)[j]? = some (h j) := by rw [jO _ _ _ _ (by omega), Nat.zero_add]
 rw [List.getElem?_eq_getElem (by rw [x7]; omega)] at e1 e2
 rw [Option.some.inj e1, Option.some.inj e2]
 exact k i j hij hj
theorem ze4 {h : Nat → Dg} {n : Nat} (k : Ups (sl h 0 n)) (i j : Nat) (hij : i < j) (hj : j < n) : Lt (h i) (h j) := by
 have := List.pairwise_iff_getElem.1 k i j (by rw [x7]; omega) (by rw [x7]; omega) hij
 have e1 : (sl h 0 n)[i]? = some (h i) := by rw [jO _ _ _ _ (by omega), Nat.zero_add]
 have e2 : (sl h 0 n)[j]? = some (h j) := by rw [jO _ _ _ _ (by omega), Nat.zero_add]
 rw [List.getElem?_eq_getElem (by rw [x7]; omega)] at e1 e2
 rw [Option.some.inj e1, Option.some.inj e2] at this
 exact this
theorem zad {g : Nat → Dg} {u j : Nat} {d : Dg} (h : j < u) : ins g u d j = g j := if_pos h
theorem ins_eq {g : Nat → Dg} {u : Nat} {d : Dg} : ins g u d u = d := by unfold ins; rw [if_neg (by omega), if_pos rfl]
theorem za0 {g : Nat → Dg} {u j : Nat} {d : Dg} (h : u < j) : ins g u d j = g (j - 1) := by unfold ins; rw [if_neg (by omega), if_neg (by omega)]
theorem zjL {l : List Dg} {g : Nat → Dg} {m u : Nat} {d : Dg} (h : So l (sl g 0 m)) (hd : kU d = true) (hu : u ≤ m) (h1 : ∀ t, t < u → Lt (g t) d) (h2 : u < m → Lt d (g u)) : So (l ++ [d]) (sl (ins g u d) 0 (m + 1)) := by
 refine ⟨zms fun i j hij hj => ?_, fun x => ?_⟩
 · rcases Nat.lt_trichotomy j u with a | a | a
   · rw [zad (by omega), zad a]
     exact ze4 h.1 i j hij (by omega)
   · rw [a, ins_eq, zad (by omega)]
     exact h1 i (by omega)
   · rw [za0 a]
     rcases Nat.lt_trichotomy i u with b | b | b
     · rw [zad b]
       exact ze4 h.1 i (j - 1) (by omega) (by omega)
     · rw [b, ins_eq]
       have k := h2 (by omega)
       by_cases e : j - 1 = u
       · rw [e]; exact k
       · exact k.trans (ze4 h.1 u (j - 1) (by omega) (by omega))
     · rw [za0 b]
       exact ze4 h.1 (i - 1) (j - 1) (by omega) (by omega)
 · have key : x ∈ sl (ins g u d) 0 (m + 1) ↔ x ∈ sl g 0 m ∨ x = d := by
    constructor
    · intro hx
      obtain ⟨t, _, t2, rfl⟩ := zeR _ _ hx
      rcases Nat.lt_trichotomy t u with a | a | a
      · rw [zad a]; exact .inl (jz g m 0 t (by omega) (by omega))
      · rw [a, ins_eq]; exact .inr rfl
      · rw [za0 a]; exact .inl (jz g m 0 (t - 1) (by omega) (by omega))
    · rintro (hx | rfl)
      · obtain ⟨t, _, t2, rfl⟩ := zeR _ _ hx
        by_cases a : t < u
        · rw [← zad (g := g) (d := d) a]
          exact jz (ins g u d) (m + 1) 0 t (by omega) (by omega)
        · have e : g t = ins g u d (t + 1) := by rw [za0 (by omega), Nat.add_sub_cancel]
          rw [e]
          exact jz (ins g u d) (m + 1) 0 (t + 1) (by omega) (by omega)
      · have e : x = ins g u x u := ins_eq.symm
        have k := jz (ins g u x) (m + 1) 0 u (by omega) (by omega)
        rw [ins_eq] at k
        exact k
   rw [key, h.2, List.mem_append, List.mem_singleton]
   constructor
   · rintro (⟨a, b⟩ | rfl)
     · exact ⟨.inl a, b⟩
     · exact ⟨.inr rfl, hd⟩
   · rintro ⟨a | a, b⟩
     · exact .inl ⟨a, b⟩
     · exact .inr a
theorem zdS {l m : List Dg} {d : Dg} (h : So l m) (hd : kU d = true → d ∈ m) : So (l ++ [d]) m := by
 refine ⟨h.1, fun x => ?_⟩
 rw [h.2, List.mem_append, List.mem_singleton]
 constructor
 · rintro ⟨a, b⟩
   exact ⟨.inl a, b⟩
 · rintro ⟨a | rfl, b⟩
   · exact ⟨a, b⟩
   · exact ⟨((h.2 _).1 (hd b)).1, b⟩
theorem zgW {l : List Dg} {g : Nat → Dg} {m m' : Nat} (h : So l (sl g 0 m)) (e : m' = m) : So l (sl g 0 m') := e ▸ h
theorem zeN (f : Nat → Dg) (k : Nat) : (el f k).one = true := by
 unfold el
 cases Nat.beq (k % 3) 0 <;> cases Nat.beq (k % 3) 1 <;> rfl
theorem zjH (d : Dg) (k : Nat) (h : k < 3) : ((T.leaf.node (some (AV.int IntKind.i64 d.2.1)) T.leaf).node (some (AV.str d.1)) (T.leaf.node (some (AV.int IntKind.i64 d.2.2)) T.leaf)).get k = (sc d)[k]? := by
 have hr : k = 0 ∨ k = 1 ∨ k = 2 := by omega
 rcases hr with h | h | h <;> subst h <;> rfl
theorem zeq (d : Dg) (k : Nat) (h : k < 3) : ∃ v, ((T.leaf.node (some (AV.int IntKind.i64 d.2.1)) T.leaf).node (some (AV.str d.1)) (T.leaf.node (some (AV.int IntKind.i64 d.2.2)) T.leaf)).get (0 + k) = some v ∧ v.one = true := by
 have hr : k = 0 ∨ k = 1 ∨ k = 2 := by omega
 rcases hr with h | h | h <;> subst h <;> exact ⟨_, rfl, rfl⟩
theorem zks {a b c : Nat} (h : a ≤ b ∧ b < c) : (a.ble b && b.blt c) = true := by
 rw [Bool.and_eq_true, Nat.ble_eq, Nat.blt_eq]; exact h
theorem zkU {a b c : Nat} (h : ¬ (a ≤ b ∧ b < c)) : (a.ble b && b.blt c) = false := by
 rw [← Bool.not_eq_true, Bool.and_eq_true, Nat.ble_eq, Nat.blt_eq]; exact h
theorem zgO (g : Nat → Dg) (u : Nat) (d : Dg) {U D Z : Nat} (hU : U = u) (hD : D = 3) (hZ : Z ≤ u * 3 + 3) : zY Z (.fn fun c => some (el (ins g u d) c)) (.fn fun k => bif (0 + (U - 0) * D).ble k && k.blt (0 + (U - 0) * D + 1 * D) then (fun k => ((T.leaf.node (some (AV.int IntKind.i64 d.2.1)) T.leaf).node (some (AV.str d.1)) (T.leaf.node (some (AV.int IntKind.i64 d.2.2)) T.leaf)).get (0 + k)) (k - (0 + (U - 0) * D)) else (T.fn fun k => (T.fn fun c => some (el g c)).get (0 + k)).get k) := by
 subst hU hD
 intro k v hk h
 have h : some (el (ins g U d) k) = some v := h
 rw [← h]
 show (bif (0 + (U - 0) * 3).ble k && k.blt (0 + (U - 0) * 3 + 1 * 3) then ((T.leaf.node (some (AV.int IntKind.i64 d.2.1)) T.leaf).node (some (AV.str d.1)) (T.leaf.node (some (AV.int IntKind.i64 d.2.2)) T.leaf)).get (0 + (k - (0 + (U - 0) * 3))) else some (el g (0 + k))) = _
 by_cases hin : U * 3 ≤ k
 · rw [zks (by omega), cond_true, zjH d _ (by omega), ← zdM, show k / 3 = U by omega, ins_eq, show 0 + (k - (0 + (U - 0) * 3)) = k % 3 by omega]
 · rw [zkU (by omega), cond_false]
   congr 1
   refine zbD (by omega) ?_
   rw [zad (by omega)]
   congr 1
   omega
theorem zmw (g : Nat → Dg) (u m : Nat) (d : Dg) {U D Z : Nat} (hU : U = u) (hD : D = 3) (hm : u ≤ m) (hZ : Z ≤ m * 3 + 3) : zY Z (.fn fun c => some (el (ins g u d) c)) (.fn fun k => bif (0 + (U - 0 + 1) * D).ble k && k.blt (0 + (U - 0 + 1) * D + (m - U) * D) then (fun k => (T.fn fun c => some (el g c)).get (0 + U * 3 + k)) (k - (0 + (U - 0 + 1) * D)) else (T.fn fun k => bif (0 + (U - 0) * D).ble k && k.blt (0 + (U - 0) * D + 1 * D) then (fun k => ((T.leaf.node (some (AV.int IntKind.i64 d.2.1)) T.leaf).node (some (AV.str d.1)) (T.leaf.node (some (AV.int IntKind.i64 d.2.2)) T.leaf)).get (0 + k)) (k - (0 + (U - 0) * D)) else (T.fn fun k => (T.fn fun c => some (el g c)).get (0 + k)).get k).get k) := by
 subst hU hD
 intro k v hk h
 by_cases hin : (U + 1) * 3 ≤ k
 · have h : some (el (ins g U d) k) = some v := h
   rw [← h]
   show (bif (0 + (U - 0 + 1) * 3).ble k && k.blt (0 + (U - 0 + 1) * 3 + (m - U) * 3) then some (el g (0 + U * 3 + (k - (0 + (U - 0 + 1) * 3)))) else _) = _
   rw [zks (by omega), cond_true]
   congr 1
   refine zbD (by omega) ?_
   rw [za0 (by omega)]
   congr 1
   omega
 · show (bif (0 + (U - 0 + 1) * 3).ble k && k.blt (0 + (U - 0 + 1) * 3 + (m - U) * 3) then _ else (T.fn fun k => bif (0 + (U - 0) * 3).ble k && k.blt (0 + (U - 0) * 3 + 1 * 3) then (fun k => ((T.leaf.node (some (AV.int IntKind.i64 d.2.1)) T.leaf).node (some (AV.str d.1)) (T.leaf.node (some (AV.int IntKind.i64 d.2.2)) T.leaf)).get (0 + k)) (k - (0 + (U - 0) * 3)) else (T.fn fun k => (T.fn fun c => some (el g c)).get (0 + k)).get k).get k) = _
   rw [zkU (by omega), cond_false]
   exact zgO g U d rfl rfl (Nat.le_refl _) k v (by omega) h
theorem zlu (g : Nat → Dg) (m : Nat) (d : Dg) {D Z : Nat} (hD : D = 3) (hZ : Z ≤ m * 3 + 3) : zY Z (.fn fun c => some (el (ins g 0 d) c)) (.fn fun k => bif (0 + 1 * D).ble k && k.blt (0 + 1 * D + m * D) then (fun k => (T.fn fun c => some (el g c)).get (0 + k)) (k - (0 + 1 * D)) else ((T.leaf.node (some (AV.int IntKind.i64 d.2.1)) T.leaf).node (some (AV.str d.1)) (T.leaf.node (some (AV.int IntKind.i64 d.2.2)) T.leaf)).get k) := by
 subst hD
 intro k v hk h
 have h : some (el (ins g 0 d) k) = some v := h
 rw [← h]
 show (bif (0 + 1 * 3).ble k && k.blt (0 + 1 * 3 + m * 3) then some (el g (0 + (k - (0 + 1 * 3)))) else ((T.leaf.node (some (AV.int IntKind.i64 d.2.1)) T.leaf).node (some (AV.str d.1)) (T.leaf.node (some (AV.int IntKind.i64 d.2.2)) T.leaf)).get k) = _
 by_cases hin : 3 ≤ k
 · rw [zks (by omega), cond_true]
   congr 1
   refine zbD (by omega) ?_
   rw [za0 (by omega)]
   congr 1
   omega
 · rw [zkU (by omega), cond_false, zjH d _ (by omega), ← zdM, show k / 3 = 0 by omega, ins_eq, show k % 3 = k by omega]
theorem app0s (o y l k : Nat) (c : T AV) (h : AHeap) (ho : o ≤ y) (hh : h.get 1 = some (.cells c y 35 0 0 1 0 false .leaf)) : zlK (qL P h 22 false (.slg 2 1 0 l 0) (.slg 1 0 o 0 k)) = some (.val (.slg 2 1 0 l 0) h) := by
 have hl : zi h 1 0 o 0 = some [] := by
  unfold zi
  rw [hh]
  show (if 0 ≤ 0 ∧ 0 ≤ 0 ∧ o + 0 ≤ y then zy _ o 0 else none) = _
  rw [if_pos ⟨Nat.le_refl _, Nat.le_refl _, ho⟩]
  rfl
 have key : qL P h 22 false (.slg 2 1 0 l 0) (.slg 1 0 o 0 k) = (match (match zi h 1 0 o 0 with
  | none => none
  | some new => some (0, new)) with
  | none => none
  | some (n, new) => if 0 < 3 ∧ 3 = 3 ∧ true = true ∧ new.all AV.one = true ∧ new.length = n * 3 ∧ (false = true → Nat.ble (n * 32) (2 ^ 48) = true) then (match n with
   | 0 => yV h (.slg 2 1 0 l 0)
   | n + 1 => yM h 35 3 32 l (n + 1) (.slg 2 1 0 l 0) new) else none) := by kernel_rfl
 rw [key, hl]
 rfl
def SoD (f : Nat → Dg) (n z : Nat) (m : AM) : Prop :=
 (So (sl f 0 n) [] ∧ Goal P 1 13 (fun v h => v = .nils 0 0 ∧ h = HCo f 0 z) m) ∨
  ∃ f' k y, 0 < k ∧ k ≤ n ∧ k * 3 ≤ y ∧ So (sl f 0 n) (sl f' 0 k) ∧ Goal P 1 13 (fun v h => v = .slg 1 0 0 k 0 ∧ h = HCw f f' 0 z y) m
theorem SoD.of {f : Nat → Dg} {n z : Nat} {m m' : AM} (h : SoD f n z m) (k : ∀ R : AV → AHeap → Prop, Goal P 1 13 R m → Goal P 1 13 R m') : SoD f n z m' := by
 rcases h with ⟨h1, h2⟩ | ⟨f', k', y', h1, h2, h3, h4, h5⟩
 · exact .inl ⟨h1, k _ h2⟩
 · exact .inr ⟨f', k', y', h1, h2, h3, h4, k _ h5⟩
theorem zfO (a : Nat) (h : a < 1000000) : zR a 32 = true := by
 unfold zR
 rw [Bool.and_eq_true, Nat.ble_eq, Nat.blt_eq]
 constructor <;> omega
section
variable {z n : Nat} {f : Nat → Dg}
theorem zi8 {i m y u : Nat} {g : Nat → Dg} {R : AV → AHeap → Prop} (hz : n * 3 ≤ z) (hn : n < 100000) (hi : i < n) (h0 : 0 < m) (hm : m ≤ i) (hy : m * 3 ≤ y) (hum : u = m)
 (h : Goal P 1 13 R (RsB (el f) (el (ins g u (f i))) ((i + 1 : Nat) : Int) n ((u : Int).toNat - 0 + 1) z (u * 3 + 3) GW)) : Goal P 1 13 R (RsC (el f) (el g) (i : Int) (u : Int) n m z y GW) := by
 have hD := yC
 have a1 := xI f i
 have t1 := zgO (D := DS) g u (f i) (U := (u : Int).toNat) (by omega) yC (Nat.le_refl (u * 3 + 3))
 have hw := up1 i (by omega)
 have b1 : ∀ k, k < ((u : Int).toNat - 0) * DS → ∃ v, (T.fn fun c => some (el g c)).get (0 + k) = some v ∧ v.one = true := fun k _ => ⟨_, rfl, zeN g _⟩
 have b2 : ∀ k, k < 1 * DS → ∃ v, ((T.leaf.node (some (AV.int IntKind.i64 (f i).2.1)) T.leaf).node (some (AV.str (f i).1)) (T.leaf.node (some (AV.int IntKind.i64 (f i).2.2)) T.leaf)).get (0 + k) = some v ∧ v.one = true := fun k hk => zeq (f i) k (by rw [hD] at hk; omega)
 have c1 : decide ((u : Int) < ((m : Nat) : Int)) = false := decide_eq_false (by omega)
 have c2 : AV.slg 1 0 (0 + (u : Int).toNat * 3) (m - (u : Int).toNat) (0 + (u : Int).toNat) = AV.slg 1 0 (0 + (u : Int).toNat * 3) 0 (0 + (u : Int).toNat) := by rw [show m - (u : Int).toNat = 0 by omega]
 have c3 : 0 + 1 * DS ≤ 3 := by rw [hD]; omega
 have c5 : 0 = 0 * DS := (Nat.zero_mul _).symm
 have r1 := zfO ((u : Int).toNat - 0) (by omega)
 have r2 := zfO ((u : Int).toNat - 0 + 1) (by omega)
 rw [← hw] at h
 exact Obl.goal (K := Goal P 1 13 _) mix (fun _ h => h) (cast (rCz (R) (el f) (el g) (el (ins g u (f i))) (el zf) ((f i).1) [] ((f i).2.1) ((f i).2.2) 0 0 ((i : Int)) (u) (n) (m) (z) (y) (u * 3 + 3) 0 0 false false false GW _).symm ⟨c1, c1, ⟨by omega, by omega⟩, ⟨⟨by omega, b1⟩, by omega, r1⟩, ⟨by omega, by omega⟩, by omega, a1, ⟨⟨c3, b2⟩, by omega, by omega, by omega, c5, r2, by omega⟩, t1, by omega, ⟨by omega, by omega⟩, c2, app0s _ _ _ _ _ _ (by omega) rfl, ze _, ze _, h⟩)
theorem zjl {i m y u : Nat} {g : Nat → Dg} {R : AV → AHeap → Prop} (hz : n * 3 ≤ z) (hn : n < 100000) (hi : i < n) (hm : m ≤ i) (hy : m * 3 ≤ y) (hu : u < m) (hless : Goal P 0 46 (fun v _ => v = .bool true) (zc P 46 [.agg [.str (g u).1, .int .i64 (g u).2.1, .int .i64 (g u).2.2], .agg [.str (f i).1, .int .i64 (f i).2.1, .int .i64 (f i).2.2]] GW))
 (h : Goal P 1 13 R (RsC (el f) (el g) (i : Int) ((u + 1 : Nat) : Int) n m z y GW)) : Goal P 1 13 R (RsC (el f) (el g) (i : Int) (u : Int) n m z y GW) := by
 have hD := yC
 have a1 := xI f i
 have a2 := xI g u
 have c1 : decide ((u : Int) < ((m : Nat) : Int)) = true := decide_eq_true (by omega)
 have d1 : 0 + ((u : Int)).toNat * 3 + 3 ≤ y := by omega
 have d2 : 0 + ((i : Int)).toNat * 3 + 3 ≤ z := by omega
 have d3 : (0 : Int) ≤ (u : Int) := by omega
 have d4 : (u : Int) < (m : Int) := by omega
 have d5 : (0 : Int) ≤ (i : Int) := by omega
 have d6 : (i : Int) < (n : Int) := by omega
 rw [← up1 u (by omega)] at h
 exact Obl.goal (K := Goal P 1 13 _) mix (fun _ h => h) (cast (rCyy (R) (el f) (el g) (el zf) (el zf) ((f i).1) ((g u).1) ((f i).2.1) ((f i).2.2) ((g u).2.1) ((g u).2.2) ((i : Int)) (u) (n) (m) (z) (y) 0 0 0 false (true) false GW _).symm ⟨c1, ⟨d3, d4⟩, d1, a2, ⟨d5, d6⟩, d2, a1, hless, rfl, ze _, ze _, h⟩)
theorem ziH {i m y u : Nat} {g : Nat → Dg} {R : AV → AHeap → Prop} (hz : n * 3 ≤ z) (hn : n < 100000) (hi : i < n) (hm : m ≤ i) (hy : m * 3 ≤ y) (hu : u < m) (hless : Goal P 0 46 (fun v _ => v = .bool false) (zc P 46 [.agg [.str (g u).1, .int .i64 (g u).2.1, .int .i64 (g u).2.2], .agg [.str (f i).1, .int .i64 (f i).2.1, .int .i64 (f i).2.2]] GW)) (he : g u = f i)
 (h : Goal P 1 13 R (RsB (el f) (el g) ((i + 1 : Nat) : Int) n m z y GW)) : Goal P 1 13 R (RsC (el f) (el g) (i : Int) (u : Int) n m z y GW) := by
 have hD := yC
 have a1 := xI f i
 have a2 := xI g u
 have c1 : decide ((u : Int) < ((m : Nat) : Int)) = true := decide_eq_true (by omega)
 have d1 : 0 + ((u : Int)).toNat * 3 + 3 ≤ y := by omega
 have d2 : 0 + ((i : Int)).toNat * 3 + 3 ≤ z := by omega
 have d3 : (0 : Int) ≤ (u : Int) := by omega
 have d4 : (u : Int) < (m : Int) := by omega
 have d5 : (0 : Int) ≤ (i : Int) := by omega
 have d6 : (i : Int) < (n : Int) := by omega
 have hq : ∀ h : AHeap, jU P h BinOp.eql 35 (zo (Operand.tmp 44) || zo (Operand.tmp 48)) (AV.agg [AV.str (g u).1, AV.int IntKind.i64 (g u).2.1, AV.int IntKind.i64 (g u).2.2]) (AV.agg [AV.str (f i).1, AV.int IntKind.i64 (f i).2.1, AV.int IntKind.i64 (f i).2.2]) = some (AV.bool true) := fun h => by rw [zmu, decide_eq_true he]
 rw [← up1 i (by omega)] at h
 exact Obl.goal (K := Goal P 1 13 _) mix (fun _ h => h) (cast (rCyny (R) (el f) (el g) (el zf) (el zf) ((f i).1) ((g u).1) ((f i).2.1) ((f i).2.2) ((g u).2.1) ((g u).2.2) ((i : Int)) (u) (n) (m) (z) (y) 0 0 0 false (false) (true) GW _).symm ⟨c1, ⟨d3, d4⟩, d1, a2, ⟨d5, d6⟩, d2, a1, hless, rfl, c1, ⟨d3, d4⟩, d1, a2, ⟨d5, d6⟩, d2, a1, hq, rfl, ze _, ze _, h⟩)
theorem zi6 {i m y u : Nat} {g : Nat → Dg} {R : AV → AHeap → Prop} (hz : n * 3 ≤ z) (hn : n < 100000) (hi : i < n) (hm : m ≤ i) (hy : m * 3 ≤ y) (hu : u < m) (hu0 : ¬ u = 0) (hless : Goal P 0 46 (fun v _ => v = .bool false) (zc P 46 [.agg [.str (g u).1, .int .i64 (g u).2.1, .int .i64 (g u).2.2], .agg [.str (f i).1, .int .i64 (f i).2.1, .int .i64 (f i).2.2]] GW)) (he : ¬ g u = f i)
 (h : Goal P 1 13 R (RsB (el f) (el (ins g u (f i))) ((i + 1 : Nat) : Int) n ((u : Int).toNat - 0 + 1 + (m - (u : Int).toNat)) z (0 + ((u : Int).toNat - 0 + 1) * 3 + (m - (u : Int).toNat) * 3) GW)) : Goal P 1 13 R (RsC (el f) (el g) (i : Int) (u : Int) n m z y GW) := by
 have hD := yC
 have a1 := xI f i
 have a2 := xI g u
 have c1 : decide ((u : Int) < ((m : Nat) : Int)) = true := decide_eq_true (by omega)
 have d1 : 0 + ((u : Int)).toNat * 3 + 3 ≤ y := by omega
 have d2 : 0 + ((i : Int)).toNat * 3 + 3 ≤ z := by omega
 have d3 : (0 : Int) ≤ (u : Int) := by omega
 have d4 : (u : Int) < (m : Int) := by omega
 have d5 : (0 : Int) ≤ (i : Int) := by omega
 have d6 : (i : Int) < (n : Int) := by omega
 have hq : ∀ h : AHeap, jU P h BinOp.eql 35 (zo (Operand.tmp 44) || zo (Operand.tmp 48)) (AV.agg [AV.str (g u).1, AV.int IntKind.i64 (g u).2.1, AV.int IntKind.i64 (g u).2.2]) (AV.agg [AV.str (f i).1, AV.int IntKind.i64 (f i).2.1, AV.int IntKind.i64 (f i).2.2]) = some (AV.bool false) := fun h => by rw [zmu, decide_eq_false he]
 have b2 : ∀ k, k < 1 * DS → ∃ v, ((T.leaf.node (some (AV.int IntKind.i64 (f i).2.1)) T.leaf).node (some (AV.str (f i).1)) (T.leaf.node (some (AV.int IntKind.i64 (f i).2.2)) T.leaf)).get (0 + k) = some v ∧ v.one = true := fun k hk => zeq (f i) k (by rw [hD] at hk; omega)
 have c3 : 0 + 1 * DS ≤ 3 := by rw [hD]; omega
 have c5 : 0 = 0 * DS := (Nat.zero_mul _).symm
 have t1 := zmw (D := DS) (Z := 0 + ((u : Int).toNat - 0 + 1) * 3 + (m - (u : Int).toNat) * 3) g u m (f i) (U := (u : Int).toNat) (by omega) yC (by omega) (by omega)
 have b1 : ∀ k, k < ((u : Int).toNat - 0) * DS → ∃ v, (T.fn fun c => some (el g c)).get (0 + k) = some v ∧ v.one = true := fun k _ => ⟨_, rfl, zeN g _⟩
 have b3 : ∀ k, k < (m - (u : Int).toNat) * DS → ∃ v, (T.fn fun c => some (el g c)).get (0 + (u : Int).toNat * 3 + k) = some v ∧ v.one = true := fun k _ => ⟨_, rfl, zeN g _⟩
 have r1 := zfO ((u : Int).toNat - 0) (by omega)
 have r2 := zfO ((u : Int).toNat - 0 + 1) (by omega)
 have r3 := zfO ((u : Int).toNat - 0 + 1 + (m - (u : Int).toNat)) (by omega)
 rw [← up1 i (by omega)] at h
 exact Obl.goal (K := Goal P 1 13 _) mix (fun _ h => h) (cast (rCynn (R) (el f) (el g) (el (ins g u (f i))) (el zf) ((f i).1) ((g u).1) ((f i).2.1) ((f i).2.2) ((g u).2.1) ((g u).2.2) ((i : Int)) (u) (n) (m) (z) (y) (0 + ((u : Int).toNat - 0 + 1) * 3 + (m - (u : Int).toNat) * 3) 0 0 false (false) (false) GW _).symm ⟨c1, ⟨d3, d4⟩, d1, a2, ⟨d5, d6⟩, d2, a1, hless, rfl, c1, ⟨d3, d4⟩, d1, a2, ⟨d5, d6⟩, d2, a1, hq, rfl, ⟨d3, by omega⟩, ⟨⟨by omega, b1⟩, by omega, r1⟩, ⟨d5, d6⟩, d2, a1, ⟨⟨c3, b2⟩, by omega, by omega, by omega, c5, r2, by omega⟩, ⟨d3, by omega⟩, ⟨⟨by omega, b3⟩, by omega, by omega, by omega, c5, r3, by omega⟩, t1, rfl, ze _, ze _, h⟩)
theorem ziJ {i m y : Nat} {g : Nat → Dg} {R : AV → AHeap → Prop} (hz : n * 3 ≤ z) (hn : n < 100000) (hi : i < n) (h0 : 0 < m) (hm : m ≤ i) (hy : m * 3 ≤ y)  (hless : Goal P 0 46 (fun v _ => v = .bool false) (zc P 46 [.agg [.str (g 0).1, .int .i64 (g 0).2.1, .int .i64 (g 0).2.2], .agg [.str (f i).1, .int .i64 (f i).2.1, .int .i64 (f i).2.2]] GW)) (he : ¬ g 0 = f i)
 (h : Goal P 1 13 R (RsB (el f) (el (ins g 0 (f i))) ((i + 1 : Nat) : Int) n (1 + m) z (3 + m * 3) GW)) : Goal P 1 13 R (RsC (el f) (el g) (i : Int) ((0 : Nat) : Int) n m z y GW) := by
 have hD := yC
 have a1 := xI f i
 have a2 := xI g 0
 have c1 : decide (((0 : Nat) : Int) < ((m : Nat) : Int)) = true := decide_eq_true (by omega)
 have d2 : 0 + ((i : Int)).toNat * 3 + 3 ≤ z := by omega
 have d4 : ((0 : Nat) : Int) < (m : Int) := by omega
 have d5 : (0 : Int) ≤ (i : Int) := by omega
 have d6 : (i : Int) < (n : Int) := by omega
 have hq : ∀ h : AHeap, jU P h BinOp.eql 35 (zo (Operand.tmp 44) || zo (Operand.tmp 48)) (AV.agg [AV.str (g 0).1, AV.int IntKind.i64 (g 0).2.1, AV.int IntKind.i64 (g 0).2.2]) (AV.agg [AV.str (f i).1, AV.int IntKind.i64 (f i).2.1, AV.int IntKind.i64 (f i).2.2]) = some (AV.bool false) := fun h => by rw [zmu, decide_eq_false he]
 have b2 : ∀ k, k < 1 * DS → ∃ v, ((T.leaf.node (some (AV.int IntKind.i64 (f i).2.1)) T.leaf).node (some (AV.str (f i).1)) (T.leaf.node (some (AV.int IntKind.i64 (f i).2.2)) T.leaf)).get (0 + k) = some v ∧ v.one = true := fun k hk => zeq (f i) k (by rw [hD] at hk; omega)
 have c3 : 0 + 1 * DS ≤ 3 := by rw [hD]; omega
 have c5 : 0 = 0 * DS := (Nat.zero_mul _).symm
 have t1 := zlu (D := DS) (Z := 3 + m * 3) g m (f i) yC (by omega)
 have b3 : ∀ k, k < m * DS → ∃ v, (T.fn fun c => some (el g c)).get (0 + k) = some v ∧ v.one = true := fun k _ => ⟨_, rfl, zeN g _⟩
 have r1 := zfO (1 + m) (by omega)
 rw [← up1 i (by omega)] at h
 exact Obl.goal (K := Goal P 1 13 _) mix (fun _ h => h) (cast (zlO (R) (el f) (el g) (el (ins g 0 (f i))) (el zf) ((f i).1) ((g 0).1) ((f i).2.1) ((f i).2.2) ((g 0).2.1) ((g 0).2.2) ((i : Int)) 0 (n) (m) (z) (y) (3 + m * 3) 0 0 false (false) (false) GW _).symm ⟨c1, ⟨Int.le_refl _, d4⟩, by omega, a2, ⟨d5, d6⟩, d2, a1, hless, rfl, c1, ⟨Int.le_refl _, d4⟩, by omega, a2, ⟨d5, d6⟩, d2, a1, hq, rfl, ⟨d5, d6⟩, d2, a1, ⟨⟨by omega, b3⟩, by omega, c3, Nat.zero_le _, c5, r1, by omega⟩, t1, rfl, ze _, ze _, h⟩)
theorem zib {i m y : Nat} {g : Nat → Dg} (hz : n * 3 ≤ z) (hn : n < 100000) (hi : i < n) (h0 : 0 < m) (hm : m ≤ i) (hy : m * 3 ≤ y) (hd : kU (f i) = true) (hg : So (sl f 0 i) (sl g 0 m)) (hl : ∀ t, t < m → (g t).1.length ≤ 200)
 (next : ∀ g' m' y', 0 < m' → m' ≤ i + 1 → m' * 3 ≤ y' → So (sl f 0 (i + 1)) (sl g' 0 m') → SoD f n z (RsB (el f) (el g') ((i + 1 : Nat) : Int) n m' z y' GW)) :
 ∀ s u, u + s = m → (∀ t, t < u → Lt (g t) (f i)) → SoD f n z (RsC (el f) (el g) (i : Int) (u : Int) n m z y GW)
 | 0, u, hu, h1 => by
  have hum : u = m := by omega
  have hs := zjL (u := u) hg hd (by omega) h1 (fun h => absurd h (by omega))
  have e : sl f 0 (i + 1) = sl f 0 i ++ [f i] := by rw [yP, Nat.zero_add]
  rw [← e] at hs
  exact (next (ins g u (f i)) ((u : Int).toNat - 0 + 1) (u * 3 + 3) (by omega) (by omega) (by omega) (zgW hs (by omega))).of fun R h => zi8 hz hn hi h0 hm hy hum h
 | s + 1, u, hu, h1 => by
  have hless := lt_ok (g u) (f i) (by have := hl u (by omega); omega)
  have e : sl f 0 (i + 1) = sl f 0 i ++ [f i] := by rw [yP, Nat.zero_add]
  by_cases hb : Lt (g u) (f i)
  · rw [decide_eq_true hb] at hless
    exact (zib hz hn hi h0 hm hy hd hg hl next s (u + 1) (by omega) (fun t ht => by
     by_cases e : t = u
     · subst e; exact hb
     · exact h1 t (by omega))).of fun R h => zjl hz hn hi hm hy (by omega) hless h
  · rw [decide_eq_false hb] at hless
    by_cases he : g u = f i
    · have hs : So (sl f 0 (i + 1)) (sl g 0 m) := by
       rw [e]
       exact zdS hg fun _ => he ▸ jz g m 0 u (by omega) (by omega)
      exact (next g m y h0 (by omega) hy hs).of fun R h => ziH hz hn hi hm hy (by omega) hless he h
    · have hlt : Lt (f i) (g u) := by
       rcases Lt.tri (g u) (f i) with a | a | a
       · exact absurd a hb
       · exact absurd a he
       · exact a
      have hs := zjL (u := u) hg hd (by omega) h1 (fun _ => hlt)
      rw [← e] at hs
      by_cases hu0 : u = 0
      · subst hu0
        exact (next (ins g 0 (f i)) (1 + m) (3 + m * 3) (by omega) (by omega) (by omega) (zgW hs (by omega))).of fun R h => ziJ hz hn hi h0 hm hy hless he h
      · exact (next (ins g u (f i)) ((u : Int).toNat - 0 + 1 + (m - (u : Int).toNat)) (0 + ((u : Int).toNat - 0 + 1) * 3 + (m - (u : Int).toNat) * 3) (by omega) (by omega) (by omega) (zgW hs (by omega))).of fun R h => zi6 hz hn hi hm hy (by omega) hu0 hless he h
theorem zdB (hz : n * 3 ≤ z) (hn : n < 100000) :
 ∀ r i m y (g : Nat → Dg), i + r = n → 0 < m → m ≤ i → m * 3 ≤ y → So (sl f 0 i) (sl g 0 m) → SoD f n z (RsB (el f) (el g) (i : Int) n m z y GW)
 | 0, i, m, y, g, hi, h0, hm, hy, hg => by
  obtain rfl : i = n := by omega
  exact .inr ⟨g, m, y, h0, hm, hy, hg, Obl.goal (K := Goal P 1 13 _) mix (fun _ h => h) (cast (rBn (fun v h => v = .slg 1 0 0 m 0 ∧ h = HCw f g 0 z y) (el f) (el g) (el zf) (el zf) [] [] 0 0 0 0 ((i : Int)) 0 (i) (m) (z) (y) 0 0 0 false false false GW _).symm ⟨decide_eq_false (by omega), rfl, rfl⟩)⟩
 | r + 1, i, m, y, g, hi, h0, hm, hy, hg => by
  have a1 := xI f i
  have hw := up1 i (by omega)
  have hmay := zht (f i)
  have c1 : decide ((i : Int) < ((n : Nat) : Int)) = true := decide_eq_true (by omega)
  have d2 : 0 + ((i : Int)).toNat * 3 + 3 ≤ z := by omega
  have d5 : (0 : Int) ≤ (i : Int) := by omega
  have d6 : (i : Int) < (n : Int) := by omega
  have e : sl f 0 (i + 1) = sl f 0 i ++ [f i] := by rw [yP, Nat.zero_add]
  by_cases hb : kU (f i) = true
  · rw [hb] at hmay
    refine (zib hz hn (by omega) h0 hm hy hb hg (fun t ht => ?_) (fun g' m' y' k1 k2 k3 k4 => zdB hz hn r (i + 1) m' y' g' (by omega) k1 k2 k3 k4) m 0 (by omega) (fun t ht => absurd ht (by omega))).of fun R h => ?_
    · have k := ((hg.2 _).1 (jz g m 0 t (by omega) (by omega))).2
      have k := of_decide_eq_true k
      omega
    · refine Obl.goal (K := Goal P 1 13 _) mix (fun _ h => h) (cast (rByn (R) (el f) (el g) (el zf) (el zf) ((f i).1) [] ((f i).2.1) ((f i).2.2) 0 0 ((i : Int)) 0 (n) (m) (z) (y) 0 0 0 (true) false false GW _).symm ?_)
      repeat' apply And.intro
      all_goals first | assumption | exact a1 | exact ze _ | rfl
  · have hb' := hb
    rw [Bool.not_eq_true] at hb
    rw [hb] at hmay
    refine (zdB hz hn r (i + 1) m y g (by omega) h0 (by omega) hy (by rw [e]; exact zdS hg fun h => absurd h hb')).of fun R h => ?_
    rw [← hw] at h
    refine Obl.goal (K := Goal P 1 13 _) mix (fun _ h => h) (cast (rByy (R) (el f) (el g) (el zf) (el zf) ((f i).1) [] ((f i).2.1) ((f i).2.2) 0 0 ((i : Int)) 0 (n) (m) (z) (y) 0 0 0 (false) false false GW _).symm ?_)
    repeat' apply And.intro
    all_goals first | assumption | exact a1 | exact ze _ | rfl
theorem zg3 (hz : n * 3 ≤ z) (hn : n < 100000) :
 ∀ r i, i + r = n → So (sl f 0 i) [] → SoD f n z (RsA (el f) (i : Int) n z GW)
 | 0, i, hi, hg => by
  obtain rfl : i = n := by omega
  exact .inl ⟨hg, Obl.goal (K := Goal P 1 13 _) mix (fun _ h => h) (cast (rAn (fun v h => v = .nils 0 0 ∧ h = HCo f 0 z) (el f) (el zf) (el zf) (el zf) [] [] 0 0 0 0 ((i : Int)) 0 (i) 0 (z) 0 0 0 0 false false false GW _).symm ⟨decide_eq_false (by omega), rfl, rfl⟩)⟩
 | r + 1, i, hi, hg => by
  have a1 := xI f i
  have hw := up1 i (by omega)
  have hmay := zht (f i)
  have c1 : decide ((i : Int) < ((n : Nat) : Int)) = true := decide_eq_true (by omega)
  have d2 : 0 + ((i : Int)).toNat * 3 + 3 ≤ z := by omega
  have d5 : (0 : Int) ≤ (i : Int) := by omega
  have d6 : (i : Int) < (n : Int) := by omega
  have e : sl f 0 (i + 1) = sl f 0 i ++ [f i] := by rw [yP, Nat.zero_add]
  by_cases hb : kU (f i) = true
  · rw [hb] at hmay
    have hs : So (sl f 0 (i + 1)) (sl (fun _ => f i) 0 1) := by
     rw [e]
     refine ⟨List.pairwise_singleton _ _, fun x => ?_⟩
     show x ∈ [f i] ↔ _
     rw [List.mem_append, List.mem_singleton]
     constructor
     · rintro rfl
       exact ⟨.inr rfl, hb⟩
     · rintro ⟨a | a, b⟩
       · exact absurd ((hg.2 x).2 ⟨a, b⟩) (by simp)
       · exact a
    refine (zdB hz hn r (i + 1) 1 3 (fun _ => f i) (by omega) (by omega) (by omega) (by omega) hs).of fun R h => ?_
    rw [← hw] at h
    have t1 := zaO (f i).1 (f i).2.1 (f i).2.2
    have hd : Goal P 1 13 R (RsD (el f) (i : Int) n z GW) := by
     refine Obl.goal (K := Goal P 1 13 _) mix (fun _ h => h) (cast (rD (R) (el f) (el zf) (el fun _ => f i) (el zf) ((f i).1) [] ((f i).2.1) ((f i).2.2) 0 0 ((i : Int)) 0 (n) 0 (z) 0 (3) 0 0 false false false GW _).symm ?_)
     repeat' apply And.intro
     all_goals first | assumption | exact a1 | exact ze _ | rfl
    refine Obl.goal (K := Goal P 1 13 _) mix (fun _ h => h) (cast (rAyn (R) (el f) (el zf) (el zf) (el zf) ((f i).1) [] ((f i).2.1) ((f i).2.2) 0 0 ((i : Int)) 0 (n) 0 (z) 0 0 0 0 (true) false false GW _).symm ?_)
    repeat' apply And.intro
    all_goals first | assumption | exact a1 | exact ze _ | rfl
  · have hb' := hb
    rw [Bool.not_eq_true] at hb
    rw [hb] at hmay
    refine (zg3 hz hn r (i + 1) (by omega) (by rw [e]; exact zdS hg fun h => absurd h hb')).of fun R h => ?_
    rw [← hw] at h
    refine Obl.goal (K := Goal P 1 13 _) mix (fun _ h => h) (cast (rAyy (R) (el f) (el zf) (el zf) (el zf) ((f i).1) [] ((f i).2.1) ((f i).2.2) 0 0 ((i : Int)) 0 (n) 0 (z) 0 0 0 0 (false) false false GW _).symm ?_)
    repeat' apply And.intro
    all_goals first | assumption | exact a1 | exact ze _ | rfl
theorem zjx (hz : n * 3 ≤ z) (hn : n < 100000) : SoD f n z (zg P 13 [.slg 0 0 0 n 0] (HCo f 0 z)) := by
 refine (zg3 (f := f) hz hn n 0 (by omega) ⟨.nil, fun x => by simp [sl]⟩).of fun R h => ?_
 exact Obl.goal (K := Goal P 1 13 _) mix (fun _ h => h) (cast (rs (R) (el f) (el zf) (el zf) (el zf) [] [] 0 0 0 0 0 0 (n) 0 (z) 0 0 0 0 false false false GW _).symm ⟨ze _, h⟩)
end
theorem zh9 : Goal P 0 13 (fun v h => v = .nils 0 0 ∧ h = ⟨.leaf, 0, GW⟩) (zc P 13 [.nils 0 0] GW) :=
 Obl.goal (K := Goal P 0 13 _) mix (fun _ h => h) (cast (rn (fun v h => v = .nils 0 0 ∧ h = ⟨.leaf, 0, GW⟩) (el zf) (el zf) (el zf) (el zf) [] [] 0 0 0 0 0 0 0 0 0 0 0 0 0 false false false GW _).symm ⟨rfl, rfl⟩)
theorem rput0 (n : Int) : Goal P 0 51 (fun x _ => x = .str ([] ++ row (IntKind.u64.wrap n))) (zc P 51 [.str [], .int .u64 (IntKind.u64.wrap n)] GW) :=
 qF [] _ (yf n).1 (yf n).2 (by show 0 + 9 < _; omega)
theorem zhQ {m z y : Nat} {f f' : Nat → Dg} (hy : m * 3 ≤ y) (hm : m < 100000) (hmay : ∀ i, i < m → kU (f' i) = true) {S : List UInt8} :
 ∀ r i (s : List UInt8), i + r = m → s.length ≤ 9 + i * 227 → s ++ (sl f' i r).flatMap one = S →
  Goal P 1 15 (fun v h => v = .str S ∧ h = HCo f 0 z) (Er (el f) (el f') s (i : Int) m z y GW)
 | 0, i, s, hi, hs, hS => by
  obtain rfl : i = m := by omega
  obtain rfl : s = S := by rw [← hS]; exact (List.append_nil s).symm
  exact Obl.goal (K := Goal P 1 15 _) mix (fun _ h => h) (cast (edn (fun v h => v = .str s ∧ h = HCo f 0 z) (el f) (el f') (el zf) (el zf) [] [] (s) [] [] [] 0 0 0 0 ((i : Int)) 0 0 (i) 0 (z) (y) 0 0 0 0 false false false GW _).symm ⟨decide_eq_false (by omega), ze _, rfl, rfl⟩)
 | r + 1, i, s, hi, hs, hS => by
  have hd := hmay i (by omega)
  have hlen := zdO hd
  have e1 : s ++ row (IntKind.u64.wrap (f' i).1.length) ++ (f' i).1 ++ row (IntKind.u64.wrap (f' i).2.1) ++ row (IntKind.u64.wrap (f' i).2.2) = s ++ one (f' i) := by
   unfold one zkW zen
   simp only [List.append_assoc, List.nil_append]
  have ih := zhQ (z := z) (f := f) hy hm hmay (S := S) r (i + 1) (s ++ one (f' i)) (by omega) (by rw [List.length_append]; omega) (by
   rw [← hS, List.append_assoc]
   congr 1)
  rw [← e1, ← up1 i (by omega)] at ih
  have hb := of_decide_eq_true hd
  have l1 := zh (IntKind.u64.wrap (f' i).1.length)
  have l2 := zh (IntKind.u64.wrap (f' i).2.1)
  have p1 := zmn s (f' i).1 (by omega)
  have p2 := qF (s ++ row (IntKind.u64.wrap (f' i).1.length) ++ (f' i).1) _ (yf (f' i).2.1).1 (yf (f' i).2.1).2 (by simp only [List.length_append]; omega)
  have p3 := qF (s ++ row (IntKind.u64.wrap (f' i).1.length) ++ (f' i).1 ++ row (IntKind.u64.wrap (f' i).2.1)) _ (yf (f' i).2.2).1 (yf (f' i).2.2).2 (by simp only [List.length_append]; omega)
  have c0 := el0 f' i
  have c1 := el1 f' i
  have c2 := el2 f' i
  have d0 : decide ((i : Int) < ((m : Nat) : Int)) = true := decide_eq_true (by omega)
  have d1 : 0 + ((i : Int)).toNat * 3 + 1 ≤ y := by omega
  have d2 : 0 + ((i : Int)).toNat * 3 + 1 + 1 ≤ y := by omega
  have d3 : 0 + ((i : Int)).toNat * 3 + 2 + 1 ≤ y := by omega
  have d5 : (0 : Int) ≤ (i : Int) := by omega
  have d6 : (i : Int) < (m : Int) := by omega
  refine Obl.goal (K := Goal P 1 15 _) mix (fun _ h => h) (cast (er (fun v h => v = .str S ∧ h = HCo f 0 z) (el f) (el f') (el zf) (el zf) ((f' i).1) [] (s) (s ++ row (IntKind.u64.wrap (f' i).1.length) ++ (f' i).1) (s ++ row (IntKind.u64.wrap (f' i).1.length) ++ (f' i).1 ++ row (IntKind.u64.wrap (f' i).2.1)) (s ++ row (IntKind.u64.wrap (f' i).1.length) ++ (f' i).1 ++ row (IntKind.u64.wrap (f' i).2.1) ++ row (IntKind.u64.wrap (f' i).2.2)) ((f' i).2.1) ((f' i).2.2) 0 0 ((i : Int)) 0 0 (m) 0 (z) (y) 0 0 0 0 false false false GW _).symm ?_)
  repeat' apply And.intro
  all_goals first | assumption | exact c0 | exact c1 | exact c2 | exact ze _ | rfl
theorem zg8 {z n : Nat} {f : Nat → Dg} (hz : n * 3 ≤ z) (hn : n < 100000) {l : List Dg} (hl : So (sl f 0 n) l) :
 Goal P 1 15 (fun v h => v = .str (zS l) ∧ h = HCo f 0 z) (zg P 15 [.slg 0 0 0 n 0] (HCo f 0 z)) := by
 rcases zjx (z := z) (n := n) (f := f) hz hn with ⟨h1, h2⟩ | ⟨f', k, y, h1, h2, h3, h4, h5⟩
 · obtain rfl : l = [] := So.uniq hl h1 fun _ => Iff.rfl
   have e : zS [] = [] ++ row 0 := by unfold zS; rw [List.flatMap_nil, List.append_nil]; rfl
   have h51 := qF [] 0 (by omega) (by omega) (by show 0 + 9 < _; omega)
   rw [e]
   have hk : Goal P 1 15 (fun v h => v = .str ([] ++ row 0) ∧ h = HCo f 0 z) (Ez (el f) ([] ++ row 0) z GW) := Obl.goal (K := Goal P 1 15 _) mix (fun _ h => h) (cast (ezd (fun v h => v = .str ([] ++ row 0) ∧ h = HCo f 0 z) (el f) (el zf) (el zf) (el zf) [] [] ([] ++ row 0) [] [] [] 0 0 0 0 0 0 0 0 0 (z) 0 0 0 0 0 false false false GW _).symm ⟨ze _, rfl, rfl⟩)
   refine Obl.goal (K := Goal P 1 15 _) mix (fun _ h => h) (cast (ez (fun v h => v = .str ([] ++ row 0) ∧ h = HCo f 0 z) (el f) (el zf) (el zf) (el zf) [] [] [] ([] ++ row 0) [] [] 0 0 0 0 0 0 (n) 0 0 (z) 0 0 0 0 0 false false false GW _).symm ?_)
   repeat' apply And.intro
   all_goals first | assumption | exact ze _ | rfl
 · obtain rfl : l = sl f' 0 k := So.uniq hl h4 fun _ => Iff.rfl
   have h51 := rput0 (k : Nat)
   have hlr := zh (IntKind.u64.wrap (k : Nat))
   have hloop := zhQ (z := z) (y := y) (f := f) (f' := f') (m := k) h3 (by omega) (fun i hi => ((h4.2 _).1 (jz f' k 0 i (by omega) (by omega))).2) (S := zS (sl f' 0 k)) k 0 ([] ++ row (IntKind.u64.wrap (k : Nat))) (by omega) (by rw [List.length_append]; show 0 + _ ≤ _; omega) (by
    unfold zS
    rw [x7, zlD k (by omega)])
   refine Obl.goal (K := Goal P 1 15 _) mix (fun _ h => h) (cast (esG (fun v h => v = .str (zS (sl f' 0 k)) ∧ h = HCo f 0 z) (el f) (el f') (el zf) (el zf) [] [] [] ([] ++ row (IntKind.u64.wrap (k : Nat))) [] [] 0 0 0 0 0 0 (n) (k) 0 (z) (y) 0 0 0 0 false false false GW _).symm ?_)
   repeat' apply And.intro
   all_goals first | assumption | exact ze _ | rfl
theorem zeG : Goal P 0 15 (fun v h => v = .str (zS []) ∧ h = ⟨.leaf, 0, GW⟩) (zc P 15 [.nils 0 0] GW) := by
 have e : zS [] = [] ++ row 0 := by unfold zS; rw [List.flatMap_nil, List.append_nil]; rfl
 rw [e]
 exact Obl.goal (K := Goal P 0 15 _) mix (fun _ h => h) (cast (en (fun v h => v = .str ([] ++ row 0) ∧ h = ⟨.leaf, 0, GW⟩) (el zf) (el zf) (el zf) (el zf) [] [] [] ([] ++ row 0) [] [] 0 0 0 0 0 0 0 0 0 0 0 0 0 0 0 false false false GW _).symm ⟨zh9, qF [] 0 (by omega) (by omega) (by show 0 + 9 < _; omega), rfl, rfl⟩)
end Go.Proofs.YtdbfpjgnlfejmaaDoor.dg
end
section
set_option maxRecDepth 100000
set_option linter.unusedVariables false
namespace Go.Proofs.YtdbfpjgnlfejmaaDoor.dg
open Go Ev mq
noncomputable def XwP (pc : Nat → AV) (s t : List UInt8) (n nu i : Int) (q z : Nat) (G : T (T AV)) : AM := ⟨⟨31, 48, (.node (.node (.node .leaf (some (.str s)) .leaf) (some (.ptr 1 0 0)) .leaf) none (.node (.node .leaf (some (.int .i64 i)) .leaf) none .leaf)),
 [.code (cd P (31 : Nat) [(1 : Nat), (1 : Nat), (1 : Nat), (1 : Nat), (0 : Nat), (1 : Nat), (0 : Nat), (0 : Nat)]), .inLoop (cd P (31 : Nat) [(1 : Nat), (1 : Nat), (1 : Nat), (1 : Nat), (0 : Nat), (1 : Nat), (0 : Nat), (0 : Nat)]), .inBlock 0, .code (cd P (31 : Nat) [(1 : Nat), (1 : Nat), (1 : Nat), (1 : Nat), (1 : Nat)])], [], .run, CallKind.normal, none⟩,
 [],
 ⟨(.node (.node .leaf (some (.cells (.node (.node (.node .leaf (some (.nils 0 0)) .leaf) (some (.str t)) .leaf) (some (.int .i64 n)) (.node (.node .leaf (some (.int .u64 nu)) .leaf) (some (.slg 0 0 0 q 0)) .leaf)) 5 45 0 0 1 0 false .leaf)) .leaf) (some (.cells (.fn fun c => some (pc c)) z 9 0 0 1 0 false .leaf)) .leaf), 2, G⟩⟩
noncomputable def XwB (pc cell : Nat → AV) (s t : List UInt8) (n nu i : Int) (m q z zd : Nat) (G : T (T AV)) : AM := ⟨⟨31, 48, (.node (.node (.node .leaf (some (.str s)) .leaf) (some (.ptr 2 0 0)) .leaf) none (.node (.node .leaf (some (.int .i64 i)) .leaf) none .leaf)),
 [.code (cd P (31 : Nat) [(1 : Nat), (1 : Nat), (1 : Nat), (1 : Nat), (0 : Nat), (1 : Nat), (0 : Nat), (0 : Nat)]), .inLoop (cd P (31 : Nat) [(1 : Nat), (1 : Nat), (1 : Nat), (1 : Nat), (0 : Nat), (1 : Nat), (0 : Nat), (0 : Nat)]), .inBlock 0, .code (cd P (31 : Nat) [(1 : Nat), (1 : Nat), (1 : Nat), (1 : Nat), (1 : Nat)])], [], .run, CallKind.normal, none⟩,
 [],
 ⟨(.node (.node .leaf (some (.cells (.fn fun c => some (cell c)) zd 35 0 0 1 0 false .leaf)) .leaf) (some (.cells (.fn fun c => some (pc c)) z 9 0 0 1 0 false .leaf)) (.node .leaf (some (.cells (.node (.node (.node .leaf (some (.slg 1 0 0 m 0)) .leaf) (some (.str t)) .leaf) (some (.int .i64 n)) (.node (.node .leaf (some (.int .u64 nu)) .leaf) (some (.slg 0 0 0 q 0)) .leaf)) 5 45 0 0 1 0 false .leaf)) .leaf)), 3, G⟩⟩
theorem xnx (R : AV → AHeap → Prop) (t : List UInt8) (n nu : Int) (G : T (T AV)) (_K : AM → Prop) : Obl P 31 (fun v h => R v h) 0 _K [.run 12, .know 8 true, .run 10, .can 0 [] [2] [], .run 1, .done] ((zc P 31 [(.agg [.int .i64 n, .str t, .nils 0 0, .nils 0 0, .int .u64 nu])] G)) = ((decide (n < (0 : Int)) = true) ∧ (R (.str []) (⟨.leaf, 0, G⟩))) := by kernel_rfl
theorem xny (R : AV → AHeap → Prop) (t : List UInt8) (n nu : Int) (G : T (T AV)) (_K : AM → Prop) : Obl P 31 (fun v h => R v h) 0 _K [.run 12, .know 8 false, .run 5, .know 12 true, .run 5, .can 0 [] [2] [], .run 1, .done] ((zc P 31 [(.agg [.int .i64 n, .str t, .nils 0 0, .nils 0 0, .int .u64 nu])] G)) = ((decide (n < (0 : Int)) = false) ∧ (decide (n > (14 : Int)) = true) ∧ (R (.str []) (⟨.leaf, 0, G⟩))) := by kernel_rfl
theorem xne (R : AV → AHeap → Prop) (t w0 w1 w2 e w w4 : List UInt8) (n nu : Int) (G : T (T AV)) (_K : AM → Prop) : Obl P 31 (fun v h => R v h) 0 _K [.run 12, .know 8 false, .run 5, .know 12 false, .run 10, .callv [0, 1] (.str w0), .run 1, .callv [0, 1] (.str w1), .run 10, .callv [0, 1] (.str w2), .run 28, .callh [] [0] (.str e) ⟨.leaf, 0, G⟩, .run 1, .callv [0, 1] (.str w), .run 1, .callv [0, 1] (.str w4), .run 2, .can 0 [] [2] [], .run 1, .done] ((zc P 31 [(.agg [.int .i64 n, .str t, .nils 0 0, .nils 0 0, .int .u64 nu])] G)) = ((decide (n < (0 : Int)) = false) ∧ (decide (n > (14 : Int)) = false) ∧ (Goal P (0) 51 (fun v _ => v = AV.str w0) (zc P 51 [.str [], .int .u64 (IntKind.u64.wrap n)] G)) ∧ (some (AV.str t) = some (AV.str t)) ∧ (Goal P (0) 52 (fun v _ => v = AV.str w1) (zc P 52 [.str w0, .str t] G)) ∧ (Goal P (0) 51 (fun v _ => v = AV.str w2) (zc P 51 [.str w1, .int .u64 0] G)) ∧ (Goal P (0) 15 (fun v h => v = AV.str e ∧ h = { objs := T.leaf, next := (0 : Nat), glob := G }) (zc P 15 [.nils 0 0] G)) ∧ (some (AV.int IntKind.u64 nu) = some (AV.int IntKind.u64 nu)) ∧ (Goal P (0) 52 (fun v _ => v = AV.str w) (zc P 52 [.str w2, .str e] G)) ∧ (some (AV.int IntKind.u64 nu) = some (AV.int IntKind.u64 nu)) ∧ (Goal P (0) 51 (fun v _ => v = AV.str w4) (zc P 51 [.str w, .int .u64 nu] G)) ∧ (R (.str w4) (⟨.leaf, 0, G⟩))) := by kernel_rfl
theorem xdx (R : AV → AHeap → Prop) (cell : Nat → AV) (t : List UInt8) (n nu : Int) (m zd : Nat) (G : T (T AV)) (_K : AM → Prop) : Obl P 31 (fun v h => R v h) 1 _K [.run 12, .know 8 true, .run 10, .can 1 [0] [2] [], .run 1, .done] ((zg P 31 [(.agg [.int .i64 n, .str t, .nils 0 0, .slg 0 0 0 m 0, .int .u64 nu])] ⟨(.node .leaf (some (.cells (.fn fun j => some (cell j)) zd 35 0 0 1 0 false .leaf)) .leaf), 1, G⟩)) = ((decide (n < (0 : Int)) = true) ∧ (za fun j => some (cell j)) ∧ (R (.str []) (⟨(.node .leaf (some (.cells (.fn fun j => some (cell j)) zd 35 0 0 1 0 false .leaf)) .leaf), 1, G⟩))) := by kernel_rfl
theorem xdy (R : AV → AHeap → Prop) (cell : Nat → AV) (t : List UInt8) (n nu : Int) (m zd : Nat) (G : T (T AV)) (_K : AM → Prop) : Obl P 31 (fun v h => R v h) 1 _K [.run 12, .know 8 false, .run 5, .know 12 true, .run 5, .can 1 [0] [2] [], .run 1, .done] ((zg P 31 [(.agg [.int .i64 n, .str t, .nils 0 0, .slg 0 0 0 m 0, .int .u64 nu])] ⟨(.node .leaf (some (.cells (.fn fun j => some (cell j)) zd 35 0 0 1 0 false .leaf)) .leaf), 1, G⟩)) = ((decide (n < (0 : Int)) = false) ∧ (decide (n > (14 : Int)) = true) ∧ (za fun j => some (cell j)) ∧ (R (.str []) (⟨(.node .leaf (some (.cells (.fn fun j => some (cell j)) zd 35 0 0 1 0 false .leaf)) .leaf), 1, G⟩))) := by kernel_rfl
theorem xde (R : AV → AHeap → Prop) (cell : Nat → AV) (t w0 w1 w2 e w w4 : List UInt8) (n nu : Int) (m zd : Nat) (G : T (T AV)) (_K : AM → Prop) : Obl P 31 (fun v h => R v h) 1 _K [.run 12, .know 8 false, .run 5, .know 12 false, .run 10, .callv [0, 1] (.str w0), .run 1, .callv [0, 1] (.str w1), .run 10, .callv [0, 1] (.str w2), .run 28, .callh [(0, 0, [])] [0] (.str e) ⟨(.node .leaf (some (.cells (.fn fun j => some (cell j)) zd 35 0 0 1 0 false .leaf)) .leaf), 1, G⟩, .run 1, .callv [0, 1] (.str w), .run 1, .callv [0, 1] (.str w4), .run 2, .can 1 [0] [2] [], .run 1, .done] ((zg P 31 [(.agg [.int .i64 n, .str t, .nils 0 0, .slg 0 0 0 m 0, .int .u64 nu])] ⟨(.node .leaf (some (.cells (.fn fun j => some (cell j)) zd 35 0 0 1 0 false .leaf)) .leaf), 1, G⟩)) = ((decide (n < (0 : Int)) = false) ∧ (decide (n > (14 : Int)) = false) ∧ (Goal P (0) 51 (fun v _ => v = AV.str w0) (zc P 51 [.str [], .int .u64 (IntKind.u64.wrap n)] G)) ∧ (some (AV.str t) = some (AV.str t)) ∧ (Goal P (0) 52 (fun v _ => v = AV.str w1) (zc P 52 [.str w0, .str t] G)) ∧ (Goal P (0) 51 (fun v _ => v = AV.str w2) (zc P 51 [.str w1, .int .u64 0] G)) ∧ (za fun j => some (cell j)) ∧ (za fun j => some (cell j)) ∧ (Goal P (1) 15 (fun v h => v = AV.str e ∧ h = { objs := T.leaf.node (some (AObj.cells (T.fn fun j => some (cell j)) zd (35 : TypeId) (0 : Nat) (0 : Nat) (1 : Nat) (0 : Nat) false T.leaf)) T.leaf, next := (1 : Nat), glob := G }) (zg P 15 [.slg 0 0 0 m 0] ⟨(.node .leaf (some (.cells (.fn fun j => some (cell j)) zd 35 0 0 1 0 false .leaf)) .leaf), 1, G⟩)) ∧ (some (AV.int IntKind.u64 nu) = some (AV.int IntKind.u64 nu)) ∧ (Goal P (0) 52 (fun v _ => v = AV.str w) (zc P 52 [.str w2, .str e] G)) ∧ (some (AV.int IntKind.u64 nu) = some (AV.int IntKind.u64 nu)) ∧ (Goal P (0) 51 (fun v _ => v = AV.str w4) (zc P 51 [.str w, .int .u64 nu] G)) ∧ (za fun j => some (cell j)) ∧ (R (.str w4) (⟨(.node .leaf (some (.cells (.fn fun j => some (cell j)) zd 35 0 0 1 0 false .leaf)) .leaf), 1, G⟩))) := by kernel_rfl
theorem xpx (R : AV → AHeap → Prop) (pc : Nat → AV) (t : List UInt8) (n nu : Int) (q z : Nat) (G : T (T AV)) (_K : AM → Prop) : Obl P 31 (fun v h => R v h) 1 _K [.run 12, .know 8 true, .run 10, .can 1 [0] [2] [], .run 1, .done] ((zg P 31 [(.agg [.int .i64 n, .str t, .slg 0 0 0 q 0, .nils 0 0, .int .u64 nu])] ⟨(.node .leaf (some (.cells (.fn fun j => some (pc j)) z 9 0 0 1 0 false .leaf)) .leaf), 1, G⟩)) = ((decide (n < (0 : Int)) = true) ∧ (za fun j => some (pc j)) ∧ (R (.str []) (⟨(.node .leaf (some (.cells (.fn fun j => some (pc j)) z 9 0 0 1 0 false .leaf)) .leaf), 1, G⟩))) := by kernel_rfl
theorem xpy (R : AV → AHeap → Prop) (pc : Nat → AV) (t : List UInt8) (n nu : Int) (q z : Nat) (G : T (T AV)) (_K : AM → Prop) : Obl P 31 (fun v h => R v h) 1 _K [.run 12, .know 8 false, .run 5, .know 12 true, .run 5, .can 1 [0] [2] [], .run 1, .done] ((zg P 31 [(.agg [.int .i64 n, .str t, .slg 0 0 0 q 0, .nils 0 0, .int .u64 nu])] ⟨(.node .leaf (some (.cells (.fn fun j => some (pc j)) z 9 0 0 1 0 false .leaf)) .leaf), 1, G⟩)) = ((decide (n < (0 : Int)) = false) ∧ (decide (n > (14 : Int)) = true) ∧ (za fun j => some (pc j)) ∧ (R (.str []) (⟨(.node .leaf (some (.cells (.fn fun j => some (pc j)) z 9 0 0 1 0 false .leaf)) .leaf), 1, G⟩))) := by kernel_rfl
theorem xps (R : AV → AHeap → Prop) (pc : Nat → AV) (t w0 w1 w2 : List UInt8) (n nu : Int) (q z : Nat) (G : T (T AV)) (K : AM → Prop) : Obl P 31 (fun v h => R v h) 1 K [.run 12, .know 8 false, .run 5, .know 12 false, .run 10, .callv [0, 1] (.str w0), .run 1, .callv [0, 1] (.str w1), .run 10, .callv [0, 1] (.str w2), .run 9, .can 1 [0, 1] [1, 3, 4] []] ((zg P 31 [(.agg [.int .i64 n, .str t, .slg 0 0 0 q 0, .nils 0 0, .int .u64 nu])] ⟨(.node .leaf (some (.cells (.fn fun j => some (pc j)) z 9 0 0 1 0 false .leaf)) .leaf), 1, G⟩)) = ((decide (n < (0 : Int)) = false) ∧ (decide (n > (14 : Int)) = false) ∧ (Goal P (0) 51 (fun v _ => v = AV.str w0) (zc P 51 [.str [], .int .u64 (IntKind.u64.wrap n)] G)) ∧ (some (AV.str t) = some (AV.str t)) ∧ (Goal P (0) 52 (fun v _ => v = AV.str w1) (zc P 52 [.str w0, .str t] G)) ∧ (Goal P (0) 51 (fun v _ => v = AV.str w2) (zc P 51 [.str w1, .int .u64 (IntKind.u64.wrap (↑q : Int))] G)) ∧ (za fun j => some (pc j)) ∧ K (XwP pc w2 t n nu (Int.ofNat (0)) q z G)) := by kernel_rfl
theorem xpl (R : AV → AHeap → Prop) (pc : Nat → AV) (s t p w : List UInt8) (n nu i : Int) (q z : Nat) (G : T (T AV)) (K : AM → Prop) : Obl P 31 (fun v h => R v h) 1 K [.run 9, .know 30 true, .run 9, .op, .op, .slot 38 (.str p), .run 1, .callv [0, 1] (.str w), .run 9, .can 1 [0, 1] [1, 3, 4] []] ((XwP pc s t n nu i q z G)) = ((decide (i < (↑q : Int)) = true) ∧ ((0 : Int) ≤ i ∧ i < (↑q : Int)) ∧ (0 + i.toNat * 1 + (1 : Nat) ≤ z) ∧ (pc (0 + i.toNat * 1) = AV.str p) ∧ (Goal P (0) 52 (fun v _ => v = AV.str w) (zc P 52 [.str s, .str p] G)) ∧ (za fun j => some (pc j)) ∧ K (XwP pc w t n nu (IntKind.i64.wrap (i + (1 : Int))) q z G)) := by kernel_rfl
theorem xpe (R : AV → AHeap → Prop) (pc : Nat → AV) (s t e w w4 : List UInt8) (n nu i : Int) (q z : Nat) (G : T (T AV)) (_K : AM → Prop) : Obl P 31 (fun v h => R v h) 1 _K [.run 9, .know 30 false, .run 10, .callh [] [0] (.str e) ⟨.leaf, 0, G⟩, .run 1, .callv [0, 1] (.str w), .run 1, .callv [0, 1] (.str w4), .run 2, .can 1 [0] [2] [], .run 1, .done] ((XwP pc s t n nu i q z G)) = ((decide (i < (↑q : Int)) = false) ∧ (Goal P (0) 15 (fun v h => v = AV.str e ∧ h = { objs := T.leaf, next := (0 : Nat), glob := G }) (zc P 15 [.nils 0 0] G)) ∧ (some (AV.int IntKind.u64 nu) = some (AV.int IntKind.u64 nu)) ∧ (Goal P (0) 52 (fun v _ => v = AV.str w) (zc P 52 [.str s, .str e] G)) ∧ (some (AV.int IntKind.u64 nu) = some (AV.int IntKind.u64 nu)) ∧ (Goal P (0) 51 (fun v _ => v = AV.str w4) (zc P 51 [.str w, .int .u64 nu] G)) ∧ (za fun j => some (pc j)) ∧ (R (.str w4) (⟨(.node .leaf (some (.cells (.fn fun j => some (pc j)) z 9 0 0 1 0 false .leaf)) .leaf), 1, G⟩))) := by kernel_rfl
theorem xbx (R : AV → AHeap → Prop) (pc cell : Nat → AV) (t : List UInt8) (n nu : Int) (m q z zd : Nat) (G : T (T AV)) (_K : AM → Prop) : Obl P 31 (fun v h => R v h) 2 _K [.run 12, .know 8 true, .run 10, .can 2 [0, 1] [2] [], .run 1, .done] ((zg P 31 [(.agg [.int .i64 n, .str t, .slg 0 0 0 q 0, .slg 1 0 0 m 0, .int .u64 nu])] ⟨(.node (.node .leaf (some (.cells (.fn fun j => some (cell j)) zd 35 0 0 1 0 false .leaf)) .leaf) (some (.cells (.fn fun j => some (pc j)) z 9 0 0 1 0 false .leaf)) .leaf), 2, G⟩)) = ((decide (n < (0 : Int)) = true) ∧ (za fun j => some (pc j)) ∧ (za fun j => some (cell j)) ∧ (R (.str []) (⟨(.node (.node .leaf (some (.cells (.fn fun j => some (cell j)) zd 35 0 0 1 0 false .leaf)) .leaf) (some (.cells (.fn fun j => some (pc j)) z 9 0 0 1 0 false .leaf)) .leaf), 2, G⟩))) := by kernel_rfl
theorem xby (R : AV → AHeap → Prop) (pc cell : Nat → AV) (t : List UInt8) (n nu : Int) (m q z zd : Nat) (G : T (T AV)) (_K : AM → Prop) : Obl P 31 (fun v h => R v h) 2 _K [.run 12, .know 8 false, .run 5, .know 12 true, .run 5, .can 2 [0, 1] [2] [], .run 1, .done] ((zg P 31 [(.agg [.int .i64 n, .str t, .slg 0 0 0 q 0, .slg 1 0 0 m 0, .int .u64 nu])] ⟨(.node (.node .leaf (some (.cells (.fn fun j => some (cell j)) zd 35 0 0 1 0 false .leaf)) .leaf) (some (.cells (.fn fun j => some (pc j)) z 9 0 0 1 0 false .leaf)) .leaf), 2, G⟩)) = ((decide (n < (0 : Int)) = false) ∧ (decide (n > (14 : Int)) = true) ∧ (za fun j => some (pc j)) ∧ (za fun j => some (cell j)) ∧ (R (.str []) (⟨(.node (.node .leaf (some (.cells (.fn fun j => some (cell j)) zd 35 0 0 1 0 false .leaf)) .leaf) (some (.cells (.fn fun j => some (pc j)) z 9 0 0 1 0 false .leaf)) .leaf), 2, G⟩))) := by kernel_rfl
theorem xbs (R : AV → AHeap → Prop) (pc cell : Nat → AV) (t w0 w1 w2 : List UInt8) (n nu : Int) (m q z zd : Nat) (G : T (T AV)) (K : AM → Prop) : Obl P 31 (fun v h => R v h) 2 K [.run 12, .know 8 false, .run 5, .know 12 false, .run 10, .callv [0, 1] (.str w0), .run 1, .callv [0, 1] (.str w1), .run 10, .callv [0, 1] (.str w2), .run 9, .can 2 [0, 1, 2] [1, 3, 4] []] ((zg P 31 [(.agg [.int .i64 n, .str t, .slg 0 0 0 q 0, .slg 1 0 0 m 0, .int .u64 nu])] ⟨(.node (.node .leaf (some (.cells (.fn fun j => some (cell j)) zd 35 0 0 1 0 false .leaf)) .leaf) (some (.cells (.fn fun j => some (pc j)) z 9 0 0 1 0 false .leaf)) .leaf), 2, G⟩)) = ((decide (n < (0 : Int)) = false) ∧ (decide (n > (14 : Int)) = false) ∧ (Goal P (0) 51 (fun v _ => v = AV.str w0) (zc P 51 [.str [], .int .u64 (IntKind.u64.wrap n)] G)) ∧ (some (AV.str t) = some (AV.str t)) ∧ (Goal P (0) 52 (fun v _ => v = AV.str w1) (zc P 52 [.str w0, .str t] G)) ∧ (Goal P (0) 51 (fun v _ => v = AV.str w2) (zc P 51 [.str w1, .int .u64 (IntKind.u64.wrap (↑q : Int))] G)) ∧ (za fun j => some (pc j)) ∧ (za fun j => some (cell j)) ∧ K (XwB pc cell w2 t n nu (Int.ofNat (0)) m q z zd G)) := by kernel_rfl
theorem xbl (R : AV → AHeap → Prop) (pc cell : Nat → AV) (s t p w : List UInt8) (n nu i : Int) (m q z zd : Nat) (G : T (T AV)) (K : AM → Prop) : Obl P 31 (fun v h => R v h) 2 K [.run 9, .know 30 true, .run 9, .op, .op, .slot 38 (.str p), .run 1, .callv [0, 1] (.str w), .run 9, .can 2 [0, 1, 2] [1, 3, 4] []] ((XwB pc cell s t n nu i m q z zd G)) = ((decide (i < (↑q : Int)) = true) ∧ ((0 : Int) ≤ i ∧ i < (↑q : Int)) ∧ (0 + i.toNat * 1 + (1 : Nat) ≤ z) ∧ (pc (0 + i.toNat * 1) = AV.str p) ∧ (Goal P (0) 52 (fun v _ => v = AV.str w) (zc P 52 [.str s, .str p] G)) ∧ (za fun j => some (pc j)) ∧ (za fun j => some (cell j)) ∧ K (XwB pc cell w t n nu (IntKind.i64.wrap (i + (1 : Int))) m q z zd G)) := by kernel_rfl
theorem xbe (R : AV → AHeap → Prop) (pc cell : Nat → AV) (s t e w w4 : List UInt8) (n nu i : Int) (m q z zd : Nat) (G : T (T AV)) (_K : AM → Prop) : Obl P 31 (fun v h => R v h) 2 _K [.run 9, .know 30 false, .run 10, .callh [(1, 0, [])] [0] (.str e) ⟨(.node .leaf (some (.cells (.fn fun j => some (cell j)) zd 35 0 0 1 0 false .leaf)) .leaf), 1, G⟩, .run 1, .callv [0, 1] (.str w), .run 1, .callv [0, 1] (.str w4), .run 2, .can 2 [0, 1] [2] [], .run 1, .done] ((XwB pc cell s t n nu i m q z zd G)) = ((decide (i < (↑q : Int)) = false) ∧ (za fun j => some (cell j)) ∧ (za fun j => some (cell j)) ∧ (Goal P (1) 15 (fun v h => v = AV.str e ∧ h = { objs := T.leaf.node (some (AObj.cells (T.fn fun j => some (cell j)) zd (35 : TypeId) (0 : Nat) (0 : Nat) (1 : Nat) (0 : Nat) false T.leaf)) T.leaf, next := (1 : Nat), glob := G }) (zg P 15 [.slg 0 0 0 m 0] ⟨(.node .leaf (some (.cells (.fn fun j => some (cell j)) zd 35 0 0 1 0 false .leaf)) .leaf), 1, G⟩)) ∧ (some (AV.int IntKind.u64 nu) = some (AV.int IntKind.u64 nu)) ∧ (Goal P (0) 52 (fun v _ => v = AV.str w) (zc P 52 [.str s, .str e] G)) ∧ (some (AV.int IntKind.u64 nu) = some (AV.int IntKind.u64 nu)) ∧ (Goal P (0) 51 (fun v _ => v = AV.str w4) (zc P 51 [.str w, .int .u64 nu] G)) ∧ (za fun j => some (pc j)) ∧ (za fun j => some (cell j)) ∧ (R (.str w4) (⟨(.node (.node .leaf (some (.cells (.fn fun j => some (cell j)) zd 35 0 0 1 0 false .leaf)) .leaf) (some (.cells (.fn fun j => some (pc j)) z 9 0 0 1 0 false .leaf)) .leaf), 2, G⟩))) := by kernel_rfl
theorem zax (s p : List UInt8) (h : p.length < 1000000) (hs : s.length < 1000000000) : Goal P 0 52 (fun x _ => x = .str (s ++ zk p)) (zc P 52 [.str s, .str p] GW) := by
 have := zmn s p (by omega)
 rw [zlD _ h, List.append_assoc] at this
 exact this
theorem xw_p {q z : Nat} {g : Nat → List UInt8} (hz : q * 1 ≤ z) {n nu : Int} (v0 : 0 ≤ nu) (v1 : nu ≤ 18446744073709551615) {t : List UInt8} {S : List UInt8} (hq : q ≤ 100000) (hS : S.length ≤ 100000000) (hb : ∀ j, j < q → (g j).length < 1000000) (he : (zS []).length < 1000000) :
 ∀ r i (s : List UInt8), i + r = q → s ++ (sl g i r).flatMap zk ++ (zk (zS []) ++ row nu) = S →
  Goal P 1 31 (fun v h => v = .str S ∧ h = HPp g z) (XwP (es g) s t n nu (i : Int) q z GW)
 | 0, i, s, hi, hs => by
  obtain rfl : q = i := by omega
  have hs' : s ++ zk (zS []) ++ row nu = S := by rw [← hs]; show _ = s ++ [] ++ _; rw [List.append_nil, List.append_assoc]
  have hlen := congrArg List.length hs'
  simp only [List.length_append] at hlen
  have hg := qF (s ++ zk (zS [])) nu v0 v1 (by rw [List.length_append]; omega)
  rw [hs'] at hg
  exact Obl.goal (K := Goal P 1 31 _) mix (fun _ h => h) (cast (xpe _ (es g) _ _ (zS []) (s ++ zk (zS [])) _ _ _ _ (q) (z) GW _).symm ⟨decide_eq_false (by omega), zeG, rfl, zax _ _ he (by omega), rfl, hg, zE _, rfl, rfl⟩)
 | r + 1, i, s, hi, hs => by
  rw [zbv, List.flatMap_cons] at hs
  have hlen := congrArg List.length hs
  simp only [List.length_append] at hlen
  have ih := xw_p hz v0 v1 (t := t) (n := n) hq hS hb he r (i + 1) (s ++ zk (g i)) (by omega) (by rw [← hs]; simp only [List.append_assoc])
  exact Obl.goal (K := Goal P 1 31 _) mix (fun _ h => h) (cast (xpl _ (es g) _ _ (g i) (s ++ zk (g i)) _ _ _ (q) (z) GW _).symm ⟨decide_eq_true (by omega), ⟨by omega, by omega⟩, by rw [Int.toNat_natCast]; omega, ziL g i, zax _ _ (hb i (by omega)) (by omega), zE _, by rw [up1 i (by omega)]; exact ih⟩)
theorem xw_b {m zd : Nat} {f : Nat → Dg} (hm : m < 100000) (hzd : m * 3 ≤ zd) {l : List Dg} (hl : So (sl f 0 m) l) {q z : Nat} {g : Nat → List UInt8} (hz : q * 1 ≤ z) {n nu : Int} (v0 : 0 ≤ nu) (v1 : nu ≤ 18446744073709551615) {t : List UInt8} {S : List UInt8} (hq : q ≤ 100000) (hS : S.length ≤ 100000000) (hb : ∀ j, j < q → (g j).length < 1000000) (he : (zS l).length < 1000000) :
 ∀ r i (s : List UInt8), i + r = q → s ++ (sl g i r).flatMap zk ++ (zk (zS l) ++ row nu) = S →
  Goal P 2 31 (fun v h => v = .str S ∧ h = HPb g z f zd) (XwB (es g) (el f) s t n nu (i : Int) m q z zd GW)
 | 0, i, s, hi, hs => by
  obtain rfl : q = i := by omega
  have hs' : s ++ zk (zS l) ++ row nu = S := by rw [← hs]; show _ = s ++ [] ++ _; rw [List.append_nil, List.append_assoc]
  have hlen := congrArg List.length hs'
  simp only [List.length_append] at hlen
  have hg := qF (s ++ zk (zS l)) nu v0 v1 (by rw [List.length_append]; omega)
  rw [hs'] at hg
  exact Obl.goal (K := Goal P 2 31 _) mix (fun _ h => h) (cast (xbe _ (es g) (el f) _ _ (zS l) (s ++ zk (zS l)) _ _ _ _ (m) (q) (z) (zd) GW _).symm ⟨decide_eq_false (by omega), ze _, ze _, zg8 hzd hm hl, rfl, zax _ _ he (by omega), rfl, hg, zE _, ze _, rfl, rfl⟩)
 | r + 1, i, s, hi, hs => by
  rw [zbv, List.flatMap_cons] at hs
  have hlen := congrArg List.length hs
  simp only [List.length_append] at hlen
  have ih := xw_b hm hzd hl hz v0 v1 (t := t) (n := n) hq hS hb he r (i + 1) (s ++ zk (g i)) (by omega) (by rw [← hs]; simp only [List.append_assoc])
  exact Obl.goal (K := Goal P 2 31 _) mix (fun _ h => h) (cast (xbl _ (es g) (el f) _ _ (g i) (s ++ zk (g i)) _ _ _ (m) (q) (z) (zd) GW _).symm ⟨decide_eq_true (by omega), ⟨by omega, by omega⟩, by rw [Int.toNat_natCast]; omega, ziL g i, zax _ _ (hb i (by omega)) (by omega), zE _, ze _, by rw [up1 i (by omega)]; exact ih⟩)
theorem zg5 {n nu : Int} (n0 : 0 ≤ n) (n1 : n ≤ 14) (v0 : 0 ≤ nu) (v1 : nu ≤ 18446744073709551615) {t : List UInt8} (ht : t.length < 1000000) (he : (zS []).length < 1000000) (hF : (wj n t [] [] nu).length ≤ 100000000) :
 Goal P 0 31 (fun v h => v = .str (wj n t [] [] nu) ∧ h = ⟨.leaf, 0, GW⟩) (zc P 31 [.agg [.int .i64 n, .str t, .nils 0 0, .nils 0 0, .int .u64 nu]] GW) := by
 have w : IntKind.u64.wrap n = n := IntWalk.u64_in _ (by omega)
 have g51 := qF [] n (by omega) (by omega) (by show 0 + 9 < _; omega)
 rw [List.nil_append] at g51
 have hr := zh n
 have g52 := zax (row n) t ht (by omega)
 have hrt := zh (t.length : Nat)
 have hlt : (row n ++ zk t).length = (row n).length + (row (t.length : Nat)).length + t.length := by unfold zk; simp only [List.length_append]; omega
 have w2 : IntKind.u64.wrap ((0 : Nat) : Int) = ((0 : Nat) : Int) := IntWalk.u64_in _ (by omega)
 have gq := qF (row n ++ zk t) ((0 : Nat) : Int) (by omega) (by omega) (by omega)
 have e : row n ++ zk t ++ row ((0 : Nat) : Int) ++ zk (zS []) ++ row nu = wj n t [] [] nu := by
  unfold wj zk
  show _ = row n ++ (row (t.length : Nat) ++ (t ++ (row ((0 : Nat) : Int) ++ ([] ++ _))))
  simp only [List.append_assoc, List.nil_append]
 have hlen := congrArg List.length e
 simp only [List.length_append] at hlen
 have hg := qF (row n ++ zk t ++ row ((0 : Nat) : Int) ++ zk (zS [])) nu v0 v1 (by simp only [List.length_append]; omega)
 rw [e] at hg
 exact Obl.goal (K := Goal P 0 31 _) mix (fun _ h => h) (cast (xne _ _ (row n) (row n ++ zk t) (row n ++ zk t ++ row ((0 : Nat) : Int)) (zS []) (row n ++ zk t ++ row ((0 : Nat) : Int) ++ zk (zS [])) _ _ _ GW _).symm ⟨decide_eq_false (by omega), decide_eq_false (by omega), by rw [w]; exact g51, rfl, g52, gq, zeG, rfl, zax _ _ he (by simp only [List.length_append]; omega), rfl, hg, rfl, rfl⟩)
theorem zfl {n nu : Int} (h : n < 0) {t : List UInt8} : Goal P 0 31 (fun v h => v = .str [] ∧ h = ⟨.leaf, 0, GW⟩) (zc P 31 [.agg [.int .i64 n, .str t, .nils 0 0, .nils 0 0, .int .u64 nu]] GW) :=
 Obl.goal (K := Goal P 0 31 _) mix (fun _ h => h) (cast (xnx _ _ _ _ GW _).symm ⟨decide_eq_true h, rfl, rfl⟩)
theorem zfs {n nu : Int} (h0 : 0 ≤ n) (h : 14 < n) {t : List UInt8} : Goal P 0 31 (fun v h => v = .str [] ∧ h = ⟨.leaf, 0, GW⟩) (zc P 31 [.agg [.int .i64 n, .str t, .nils 0 0, .nils 0 0, .int .u64 nu]] GW) :=
 Obl.goal (K := Goal P 0 31 _) mix (fun _ h => h) (cast (xny _ _ _ _ GW _).symm ⟨decide_eq_false (by omega), decide_eq_true h, rfl, rfl⟩)
theorem zhP {m zd : Nat} {f : Nat → Dg} (hm : m < 100000) (hzd : m * 3 ≤ zd) {l : List Dg} (hl : So (sl f 0 m) l) {n nu : Int} (n0 : 0 ≤ n) (n1 : n ≤ 14) (v0 : 0 ≤ nu) (v1 : nu ≤ 18446744073709551615) {t : List UInt8} (ht : t.length < 1000000) (he : (zS l).length < 1000000) (hF : (wj n t [] l nu).length ≤ 100000000) :
 Goal P 1 31 (fun v h => v = .str (wj n t [] l nu) ∧ h = HCo f 0 zd) (zg P 31 [.agg [.int .i64 n, .str t, .nils 0 0, .slg 0 0 0 m 0, .int .u64 nu]] (HCo f 0 zd)) := by
 have w : IntKind.u64.wrap n = n := IntWalk.u64_in _ (by omega)
 have g51 := qF [] n (by omega) (by omega) (by show 0 + 9 < _; omega)
 rw [List.nil_append] at g51
 have hr := zh n
 have g52 := zax (row n) t ht (by omega)
 have hrt := zh (t.length : Nat)
 have hlt : (row n ++ zk t).length = (row n).length + (row (t.length : Nat)).length + t.length := by unfold zk; simp only [List.length_append]; omega
 have w2 : IntKind.u64.wrap ((0 : Nat) : Int) = ((0 : Nat) : Int) := IntWalk.u64_in _ (by omega)
 have gq := qF (row n ++ zk t) ((0 : Nat) : Int) (by omega) (by omega) (by omega)
 have e : row n ++ zk t ++ row ((0 : Nat) : Int) ++ zk (zS l) ++ row nu = wj n t [] l nu := by
  unfold wj zk
  show _ = row n ++ (row (t.length : Nat) ++ (t ++ (row ((0 : Nat) : Int) ++ ([] ++ _))))
  simp only [List.append_assoc, List.nil_append]
 have hlen := congrArg List.length e
 simp only [List.length_append] at hlen
 have hg := qF (row n ++ zk t ++ row ((0 : Nat) : Int) ++ zk (zS l)) nu v0 v1 (by simp only [List.length_append]; omega)
 rw [e] at hg
 exact Obl.goal (K := Goal P 1 31 _) mix (fun _ h => h) (cast (xde _ (el f) _ (row n) (row n ++ zk t) (row n ++ zk t ++ row ((0 : Nat) : Int)) (zS l) (row n ++ zk t ++ row ((0 : Nat) : Int) ++ zk (zS l)) _ _ _ (m) (zd) GW _).symm ⟨decide_eq_false (by omega), decide_eq_false (by omega), by rw [w]; exact g51, rfl, g52, gq, ze _, ze _, zg8 hzd hm hl, rfl, zax _ _ he (by simp only [List.length_append]; omega), rfl, hg, ze _, rfl, rfl⟩)
theorem zfQ {m zd : Nat} {f : Nat → Dg} {n nu : Int} (h : n < 0) {t : List UInt8} : Goal P 1 31 (fun v h => v = .str [] ∧ h = HCo f 0 zd) (zg P 31 [.agg [.int .i64 n, .str t, .nils 0 0, .slg 0 0 0 m 0, .int .u64 nu]] (HCo f 0 zd)) :=
 Obl.goal (K := Goal P 1 31 _) mix (fun _ h => h) (cast (xdx _ (el f) _ _ _ (m) (zd) GW _).symm ⟨decide_eq_true h, ze _, rfl, rfl⟩)
theorem zfS {m zd : Nat} {f : Nat → Dg} {n nu : Int} (h0 : 0 ≤ n) (h : 14 < n) {t : List UInt8} : Goal P 1 31 (fun v h => v = .str [] ∧ h = HCo f 0 zd) (zg P 31 [.agg [.int .i64 n, .str t, .nils 0 0, .slg 0 0 0 m 0, .int .u64 nu]] (HCo f 0 zd)) :=
 Obl.goal (K := Goal P 1 31 _) mix (fun _ h => h) (cast (xdy _ (el f) _ _ _ (m) (zd) GW _).symm ⟨decide_eq_false (by omega), decide_eq_true h, ze _, rfl, rfl⟩)
theorem zhx {q z : Nat} {g : Nat → List UInt8} (hz : q * 1 ≤ z) (hq : q ≤ 100000) (hb : ∀ j, j < q → (g j).length < 1000000) {n nu : Int} (n0 : 0 ≤ n) (n1 : n ≤ 14) (v0 : 0 ≤ nu) (v1 : nu ≤ 18446744073709551615) {t : List UInt8} (ht : t.length < 1000000) (he : (zS []).length < 1000000) (hF : (wj n t (sl g 0 q) [] nu).length ≤ 100000000) :
 Goal P 1 31 (fun v h => v = .str (wj n t (sl g 0 q) [] nu) ∧ h = HPp g z) (zg P 31 [.agg [.int .i64 n, .str t, .slg 0 0 0 q 0, .nils 0 0, .int .u64 nu]] (HPp g z)) := by
 have w : IntKind.u64.wrap n = n := IntWalk.u64_in _ (by omega)
 have g51 := qF [] n (by omega) (by omega) (by show 0 + 9 < _; omega)
 rw [List.nil_append] at g51
 have hr := zh n
 have g52 := zax (row n) t ht (by omega)
 have hrt := zh (t.length : Nat)
 have hlt : (row n ++ zk t).length = (row n).length + (row (t.length : Nat)).length + t.length := by unfold zk; simp only [List.length_append]; omega
 have w2 : IntKind.u64.wrap ((q : Nat) : Int) = ((q : Nat) : Int) := IntWalk.u64_in _ (by omega)
 have gq := qF (row n ++ zk t) ((q : Nat) : Int) (by omega) (by omega) (by omega)
 have e : row n ++ zk t ++ row ((q : Nat) : Int) ++ (sl g 0 q).flatMap zk ++ (zk (zS []) ++ row nu) = wj n t (sl g 0 q) [] nu := by
  unfold wj zk
  rw [x7]
  simp only [List.append_assoc]
 exact Obl.goal (K := Goal P 1 31 _) mix (fun _ h => h) (cast (xps _ (es g) _ (row n) (row n ++ zk t) (row n ++ zk t ++ row ((q : Nat) : Int)) _ _ (q) (z) GW _).symm ⟨decide_eq_false (by omega), decide_eq_false (by omega), by rw [w]; exact g51, rfl, g52, by rw [w2]; exact gq, zE _, xw_p hz v0 v1 hq hF hb he q 0 _ (by omega) e⟩)
theorem zfC {q z : Nat} {g : Nat → List UInt8} {n nu : Int} (h : n < 0) {t : List UInt8} : Goal P 1 31 (fun v h => v = .str [] ∧ h = HPp g z) (zg P 31 [.agg [.int .i64 n, .str t, .slg 0 0 0 q 0, .nils 0 0, .int .u64 nu]] (HPp g z)) :=
 Obl.goal (K := Goal P 1 31 _) mix (fun _ h => h) (cast (xpx _ (es g) _ _ _ (q) (z) GW _).symm ⟨decide_eq_true h, zE _, rfl, rfl⟩)
theorem zf4 {q z : Nat} {g : Nat → List UInt8} {n nu : Int} (h0 : 0 ≤ n) (h : 14 < n) {t : List UInt8} : Goal P 1 31 (fun v h => v = .str [] ∧ h = HPp g z) (zg P 31 [.agg [.int .i64 n, .str t, .slg 0 0 0 q 0, .nils 0 0, .int .u64 nu]] (HPp g z)) :=
 Obl.goal (K := Goal P 1 31 _) mix (fun _ h => h) (cast (xpy _ (es g) _ _ _ (q) (z) GW _).symm ⟨decide_eq_false (by omega), decide_eq_true h, zE _, rfl, rfl⟩)
theorem zgI {m zd : Nat} {f : Nat → Dg} (hm : m < 100000) (hzd : m * 3 ≤ zd) {l : List Dg} (hl : So (sl f 0 m) l) {q z : Nat} {g : Nat → List UInt8} (hz : q * 1 ≤ z) (hq : q ≤ 100000) (hb : ∀ j, j < q → (g j).length < 1000000) {n nu : Int} (n0 : 0 ≤ n) (n1 : n ≤ 14) (v0 : 0 ≤ nu) (v1 : nu ≤ 18446744073709551615) {t : List UInt8} (ht : t.length < 1000000) (he : (zS l).length < 1000000) (hF : (wj n t (sl g 0 q) l nu).length ≤ 100000000) :
 Goal P 2 31 (fun v h => v = .str (wj n t (sl g 0 q) l nu) ∧ h = HPb g z f zd) (zg P 31 [.agg [.int .i64 n, .str t, .slg 0 0 0 q 0, .slg 1 0 0 m 0, .int .u64 nu]] (HPb g z f zd)) := by
 have w : IntKind.u64.wrap n = n := IntWalk.u64_in _ (by omega)
 have g51 := qF [] n (by omega) (by omega) (by show 0 + 9 < _; omega)
 rw [List.nil_append] at g51
 have hr := zh n
 have g52 := zax (row n) t ht (by omega)
 have hrt := zh (t.length : Nat)
 have hlt : (row n ++ zk t).length = (row n).length + (row (t.length : Nat)).length + t.length := by unfold zk; simp only [List.length_append]; omega
 have w2 : IntKind.u64.wrap ((q : Nat) : Int) = ((q : Nat) : Int) := IntWalk.u64_in _ (by omega)
 have gq := qF (row n ++ zk t) ((q : Nat) : Int) (by omega) (by omega) (by omega)
 have e : row n ++ zk t ++ row ((q : Nat) : Int) ++ (sl g 0 q).flatMap zk ++ (zk (zS l) ++ row nu) = wj n t (sl g 0 q) l nu := by
  unfold wj zk
  rw [x7]
  simp only [List.append_assoc]
 exact Obl.goal (K := Goal P 2 31 _) mix (fun _ h => h) (cast (xbs _ (es g) (el f) _ (row n) (row n ++ zk t) (row n ++ zk t ++ row ((q : Nat) : Int)) _ _ (m) (q) (z) (zd) GW _).symm ⟨decide_eq_false (by omega), decide_eq_false (by omega), by rw [w]; exact g51, rfl, g52, by rw [w2]; exact gq, zE _, ze _, xw_b hm hzd hl hz v0 v1 hq hF hb he q 0 _ (by omega) e⟩)
theorem zga {m zd : Nat} {f : Nat → Dg} {q z : Nat} {g : Nat → List UInt8} {n nu : Int} (h : n < 0) {t : List UInt8} : Goal P 2 31 (fun v h => v = .str [] ∧ h = HPb g z f zd) (zg P 31 [.agg [.int .i64 n, .str t, .slg 0 0 0 q 0, .slg 1 0 0 m 0, .int .u64 nu]] (HPb g z f zd)) :=
 Obl.goal (K := Goal P 2 31 _) mix (fun _ h => h) (cast (xbx _ (es g) (el f) _ _ _ (m) (q) (z) (zd) GW _).symm ⟨decide_eq_true h, zE _, ze _, rfl, rfl⟩)
theorem zfi {m zd : Nat} {f : Nat → Dg} {q z : Nat} {g : Nat → List UInt8} {n nu : Int} (h0 : 0 ≤ n) (h : 14 < n) {t : List UInt8} : Goal P 2 31 (fun v h => v = .str [] ∧ h = HPb g z f zd) (zg P 31 [.agg [.int .i64 n, .str t, .slg 0 0 0 q 0, .slg 1 0 0 m 0, .int .u64 nu]] (HPb g z f zd)) :=
 Obl.goal (K := Goal P 2 31 _) mix (fun _ h => h) (cast (xby _ (es g) (el f) _ _ _ (m) (q) (z) (zd) GW _).symm ⟨decide_eq_false (by omega), decide_eq_true h, zE _, ze _, rfl, rfl⟩)
end Go.Proofs.YtdbfpjgnlfejmaaDoor.dg
end
section
set_option maxRecDepth 100000
set_option linter.unusedVariables false
namespace Go.Proofs.YtdbfpjgnlfejmaaDoor.dg
open Go Ev mq
noncomputable def MDN (A : AV) (s : List UInt8) (G : T (T AV)) : AM := ⟨⟨23, 33, (.node .leaf none (.node (.node (.node .leaf (some (.ptr 1 0 0)) .leaf) none .leaf) (some (.ptr 0 0 0)) .leaf)),
 [.ops (rg P 23 [1, 0]).toList ((rg P 23 [1, 0]).toList.drop 2), .code (cd P (23 : Nat) [(1 : Nat), (1 : Nat)])], [], .run, CallKind.normal, none⟩,
 [],
 ⟨(.node (.node .leaf (some (.cells (.node (.node .leaf (some (.bool false)) .leaf) (some A) .leaf) 2 101 0 0 1 0 false .leaf)) .leaf) (some (.cells (.node (.node (.node .leaf (some (.str [])) .leaf) (some (.str [])) .leaf) (some (.int .i64 0)) (.node .leaf (some (.str [])) .leaf)) 4 39 0 0 1 0 false .leaf)) (.node .leaf (some (.cells (.fn fun j => some (AV.int IntKind.u8 (yy s j))) s.length 5 0 0 1 0 true .leaf)) .leaf)), 3, G⟩⟩
theorem q0 (R : AV → AHeap → Prop) (s : List UInt8) (G : T (T AV)) (K : AM → Prop) : Obl P 23 (fun v h => R v h) 0 K [.run 9, .callh [] [0] (.ptr 1 0 0) (RN s G), .can 0 [0, 2, 1] [2, 8] []] ((zc P 23 [.str s] G)) = ((za fun j => some (.int .u8 (yy s j))) ∧ (Goal P (0) 54 (fun v h => v = AV.ptr (1 : Nat) (0 : Nat) (0 : Nat) ∧ h = RN s G) (zc P 54 [.str s] G)) ∧ (za fun j => some (.int .u8 (yy s j))) ∧ K (MDN (.slg 2 0 0 s.length 0) s G)) := by kernel_rfl
section
variable {s : List UInt8}
end
end Go.Proofs.YtdbfpjgnlfejmaaDoor.dg
end
section
set_option maxRecDepth 100000
set_option linter.unusedVariables false
namespace Go.Proofs.YtdbfpjgnlfejmaaDoor.dg
open Go Ev mq
noncomputable def HRn (k : Int) (t : List UInt8) (nu : Int) (G : T (T AV)) : AHeap := ⟨(.node .leaf (some (.cells (.node (.node (.node .leaf (some (.nils 0 0)) .leaf) (some (.str t)) .leaf) (some (.int .i64 k)) (.node (.node .leaf (some (.int .u64 nu)) .leaf) (some (.nils 0 0)) .leaf)) 5 45 0 0 1 0 false .leaf)) .leaf), 1, G⟩
noncomputable def HRd (k : Int) (t : List UInt8) (nu : Int) (f : Nat → Dg) (m : Nat) (G : T (T AV)) : AHeap := ⟨(.node (.node .leaf (some (.cells (.fn fun c => some (el f c)) (m * 3) 35 0 0 1 0 false .leaf)) .leaf) (some (.cells (.node (.node (.node .leaf (some (.slg 1 0 0 m 0)) .leaf) (some (.str t)) .leaf) (some (.int .i64 k)) (.node (.node .leaf (some (.int .u64 nu)) .leaf) (some (.nils 0 0)) .leaf)) 5 45 0 0 1 0 false .leaf)) .leaf), 2, G⟩
noncomputable def HRp (k : Int) (t : List UInt8) (nu : Int) (g : Nat → List UInt8) (q : Nat) (G : T (T AV)) : AHeap := ⟨(.node (.node .leaf (some (.cells (.fn fun c => some (es g c)) (q * 1) 9 0 0 1 0 false .leaf)) .leaf) (some (.cells (.node (.node (.node .leaf (some (.nils 0 0)) .leaf) (some (.str t)) .leaf) (some (.int .i64 k)) (.node (.node .leaf (some (.int .u64 nu)) .leaf) (some (.slg 1 0 0 q 0)) .leaf)) 5 45 0 0 1 0 false .leaf)) .leaf), 2, G⟩
noncomputable def HRb (k : Int) (t : List UInt8) (nu : Int) (g : Nat → List UInt8) (q : Nat) (f : Nat → Dg) (m : Nat) (G : T (T AV)) : AHeap := ⟨(.node (.node .leaf (some (.cells (.fn fun c => some (el f c)) (m * 3) 35 0 0 1 0 false .leaf)) .leaf) (some (.cells (.node (.node (.node .leaf (some (.slg 1 0 0 m 0)) .leaf) (some (.str t)) .leaf) (some (.int .i64 k)) (.node (.node .leaf (some (.int .u64 nu)) .leaf) (some (.slg 2 0 0 q 0)) .leaf)) 5 45 0 0 1 0 false .leaf)) (.node .leaf (some (.cells (.fn fun c => some (es g c)) (q * 1) 9 0 0 1 0 false .leaf)) .leaf)), 3, G⟩
def OkA (k : Int) (t : List UInt8) (ms : List Dg) (nu : Int) (M : AM) : Prop :=
 (ms = [] ∧ Goal P 0 25 (fun v h => v = .tup [.agg [.int .i64 k, .str t, .nils 0 0, .nils 0 0, .int .u64 nu], .int .i64 0] ∧ h = HRn k t nu GW) M) ∨
  (0 < ms.length ∧ ∃ f, sl f 0 ms.length = ms ∧ Goal P 0 25 (fun v h => v = .tup [.agg [.int .i64 k, .str t, .nils 0 0, .slg 1 0 0 ms.length 0, .int .u64 nu], .int .i64 0] ∧ h = HRd k t nu f ms.length GW) M)
def OkB (k : Int) (t : List UInt8) (g : Nat → List UInt8) (q : Nat) (ms : List Dg) (nu : Int) (M : AM) : Prop :=
 (ms = [] ∧ Goal P 0 25 (fun v h => v = .tup [.agg [.int .i64 k, .str t, .slg 1 0 0 q 0, .nils 0 0, .int .u64 nu], .int .i64 0] ∧ h = HRp k t nu g q GW) M) ∨
  (0 < ms.length ∧ ∃ f, sl f 0 ms.length = ms ∧ Goal P 0 25 (fun v h => v = .tup [.agg [.int .i64 k, .str t, .slg 2 0 0 q 0, .slg 1 0 0 ms.length 0, .int .u64 nu], .int .i64 0] ∧ h = HRb k t nu g q f ms.length GW) M)
section
variable {s : List UInt8}
theorem OkA.mono {k : Int} {t : List UInt8} {ms : List Dg} {nu : Int} {M M' : AM} (h : ∀ Q : AV → AHeap → Prop, Goal P 0 25 Q M → Goal P 0 25 Q M') (a : OkA k t ms nu M) : OkA k t ms nu M' := by
 rcases a with ⟨a1, a2⟩ | ⟨a1, f, a2, a3⟩
 · exact .inl ⟨a1, h _ a2⟩
 · exact .inr ⟨a1, f, a2, h _ a3⟩
theorem OkB.mono {k : Int} {t : List UInt8} {g : Nat → List UInt8} {q : Nat} {ms : List Dg} {nu : Int} {M M' : AM} (h : ∀ Q : AV → AHeap → Prop, Goal P 0 25 Q M → Goal P 0 25 Q M') (a : OkB k t g q ms nu M) : OkB k t g q ms nu M' := by
 rcases a with ⟨a1, a2⟩ | ⟨a1, f, a2, a3⟩
 · exact .inl ⟨a1, h _ a2⟩
 · exact .inr ⟨a1, f, a2, h _ a3⟩
end
end Go.Proofs.YtdbfpjgnlfejmaaDoor.dg
end
section
set_option maxRecDepth 100000
set_option linter.unusedVariables false
namespace Go.Proofs.YtdbfpjgnlfejmaaDoor.dg
open Go Ev mq
noncomputable def O1 (w : List UInt8) (G : T (T AV)) : AM := ⟨⟨10, 95, (.node .leaf (some (.str w)) .leaf),
 [.ops (rg P 10 [1, 1, 1, 1, 0]).toList (rg P 10 [1, 1, 1, 1, 0]).toList, .code (cd P (10 : Nat) [(1 : Nat), (1 : Nat), (1 : Nat), (1 : Nat), (1 : Nat)])], [], .run, CallKind.normal, none⟩,
 [],
 ⟨.leaf, 0, G⟩⟩
noncomputable def OL2 (w : List UInt8) (i : Int) (G : T (T AV)) : AM := ⟨⟨10, 95, (.node (.node (.node .leaf none (.node .leaf (some (.int .i64 i)) .leaf)) none .leaf) (some (.str w)) .leaf),
 [.code (cd P (10 : Nat) [(1 : Nat), (1 : Nat), (1 : Nat), (1 : Nat), (1 : Nat), (0 : Nat), (1 : Nat), (0 : Nat), (1 : Nat), (1 : Nat), (0 : Nat), (0 : Nat)]), .inLoop (cd P (10 : Nat) [(1 : Nat), (1 : Nat), (1 : Nat), (1 : Nat), (1 : Nat), (0 : Nat), (1 : Nat), (0 : Nat), (1 : Nat), (1 : Nat), (0 : Nat), (0 : Nat)]), .inBlock 2, .code (cd P (10 : Nat) [(1 : Nat), (1 : Nat), (1 : Nat), (1 : Nat), (1 : Nat), (1 : Nat)])], [], .run, CallKind.normal, none⟩,
 [],
 ⟨.leaf, 0, G⟩⟩
theorem ob (R : AV → Prop) (s w : List UInt8) (G : T (T AV)) (K : AM → Prop) : Obl P 10 (fun v _ => R v) 0 K [.run 10, .op, .slot 18 (.str w), .run 6, .callh [] [0] (.tup [.agg [.int .i64 0, .str [], .str [], .str []], .int .i64 4]) ⟨(.node .leaf (some (.cells (.node (.node (.node .leaf (some (.str [])) .leaf) (some (.str [])) .leaf) (some (.int .i64 0)) (.node .leaf (some (.str [])) .leaf)) 4 39 0 0 1 0 false .leaf)) .leaf), 1, G⟩, .run 28, .can 0 [] [0] []] ((zc P 10 [.str s] G)) = ((((0 : Int) ≤ if decide ((1000 : Int) < (↑s.length : Int)) = true then (1000 : Int) else (↑s.length : Int)) ∧ (if decide ((1000 : Int) < (↑s.length : Int)) = true then (1000 : Int) else (↑s.length : Int)) ≤ (↑s.length : Int)) ∧ (AV.str (List.take ((if decide ((1000 : Int) < (↑s.length : Int)) = true then (1000 : Int) else (↑s.length : Int)).toNat - (0 : Nat)) (List.drop (0 : Nat) s)) = AV.str w) ∧ (Goal P (0) 23 (fun v h => v = AV.tup [AV.agg [AV.int IntKind.i64 (0 : Int), AV.str [], AV.str [], AV.str []], AV.int IntKind.i64 (4 : Int)] ∧ h = { objs := T.leaf.node (some (AObj.cells (((T.leaf.node (some (AV.str [])) T.leaf).node (some (AV.str [])) T.leaf).node (some (AV.int IntKind.i64 (0 : Int))) (T.leaf.node (some (AV.str [])) T.leaf)) (4 : Nat) (39 : TypeId) (0 : Nat) (0 : Nat) (1 : Nat) (0 : Nat) false T.leaf)) T.leaf, next := (1 : Nat), glob := G }) (zc P 23 [.str w] G)) ∧ K (O1 w G)) := by kernel_rfl
theorem om (R : AV → Prop) (w u : List UInt8) (i : Int) (G : T (T AV)) (K : AM → Prop) : Obl P 10 (fun v _ => R v) 0 K [.run 8, .know 74 true, .run 8, .op, .slot 80 (.str u), .run 1, .callh [] [0] (.tup [.agg [.int .i64 0, .str [], .nils 0 0, .nils 0 0, .int .u64 0], .int .i64 4]) ⟨(.node .leaf (some (.cells (.node (.node (.node .leaf (some (.nils 0 0)) .leaf) (some (.str [])) .leaf) (some (.int .i64 0)) (.node (.node .leaf (some (.int .u64 0)) .leaf) (some (.nils 0 0)) .leaf)) 5 45 0 0 1 0 false .leaf)) .leaf), 1, G⟩, .run 21, .can 0 [] [0, 11] []] ((OL2 w i G)) = ((decide (i < (↑w.length : Int)) = true) ∧ ((0 : Int) ≤ i ∧ i ≤ (↑w.length : Int)) ∧ (AV.str (List.take (i.toNat - (0 : Nat)) (List.drop (0 : Nat) w)) = AV.str u) ∧ (Goal P (0) 25 (fun v h => v = AV.tup [AV.agg [AV.int IntKind.i64 (0 : Int), AV.str [], AV.nils (0 : Nat) (0 : Nat), AV.nils (0 : Nat) (0 : Nat), AV.int IntKind.u64 (0 : Int)], AV.int IntKind.i64 (4 : Int)] ∧ h = { objs := T.leaf.node (some (AObj.cells (((T.leaf.node (some (AV.nils (0 : Nat) (0 : Nat))) T.leaf).node (some (AV.str [])) T.leaf).node (some (AV.int IntKind.i64 (0 : Int))) ((T.leaf.node (some (AV.int IntKind.u64 (0 : Int))) T.leaf).node (some (AV.nils (0 : Nat) (0 : Nat))) T.leaf)) (5 : Nat) (45 : TypeId) (0 : Nat) (0 : Nat) (1 : Nat) (0 : Nat) false T.leaf)) T.leaf, next := (1 : Nat), glob := G }) (zc P 25 [.str u] G)) ∧ K (OL2 w (IntKind.i64.wrap (i + (1 : Int))) G)) := by kernel_rfl
theorem of (R : AV → Prop) (w : List UInt8) (i : Int) (G : T (T AV)) (_K : AM → Prop) : Obl P 10 (fun v _ => R v) 0 _K [.run 8, .know 74 false, .run 5, .callv [] (.bool true), .run 3, .done] ((OL2 w i G)) = ((decide (i < (↑w.length : Int)) = false) ∧ (Goal P (0) 28 (fun v _ => v = AV.bool true) (zc P 28 [] G)) ∧ (R (.bool true))) := by kernel_rfl
theorem za4 {f : FuncId} {x : AV} {H : AHeap} {m : AM} (h : Goal P 0 f (fun v h => v = x ∧ h = H) m) : Goal P 0 f (fun v _ => v = x) m := h.mono fun _ _ h => h.1
theorem zT : Goal P 0 28 (fun x _ => x = AV.bool true) (zc P 28 [] GW) := Goal.ofRun mix (n := 20000) (by kernel_rfl) fun _ => rfl
end Go.Proofs.YtdbfpjgnlfejmaaDoor.dg
end
section
set_option maxRecDepth 100000
set_option linter.unusedVariables false
namespace Go.Proofs.YtdbfpjgnlfejmaaDoor.dg
open Go Ev mq
noncomputable def BM (s : List UInt8) (G : T (T AV)) : AM := ⟨⟨5, 57, (.node (.node .leaf (some (.str s)) .leaf) none (.node (.node (.node .leaf none (.node .leaf (some (.bool false)) .leaf)) none (.node .leaf none (.node .leaf (some (.bool true)) .leaf))) none .leaf)),
 [.ops (rg P 5 [1, 1, 1, 1, 0, 0]).toList ((rg P 5 [1, 1, 1, 1, 0, 0]).toList.drop 7), .code (cd P (5 : Nat) [(1 : Nat), (1 : Nat), (1 : Nat), (1 : Nat), (0 : Nat), (1 : Nat)]), .code (cd P (5 : Nat) [(1 : Nat), (1 : Nat), (1 : Nat), (1 : Nat), (1 : Nat)])], [], .run, CallKind.normal, none⟩,
 [],
 ⟨.leaf, 0, G⟩⟩
theorem bs (R : AV → Prop) (s t : List UInt8) (G : T (T AV)) (K : AM → Prop) : Obl P 5 (fun v _ => R v) 0 K [.run 8, .callv [] (.bool true), .run 17, .callh [] [0] (.str t) ⟨.leaf, 0, G⟩, .run 1, .callh [] [0] (.tup [.nils 0 0, .int .i64 0]) ⟨.leaf, 0, G⟩, .run 15, .callh [] [0] (.nils 0 0) ⟨.leaf, 0, G⟩, .run 39, .can 0 [] [1, 24, 28] []] ((zc P 5 [.sle, .str s] G)) = ((Goal P (0) 18 (fun v _ => v = AV.bool true) (zc P 18 [] G)) ∧ (Goal P (0) 14 (fun v h => v = AV.str t ∧ h = { objs := T.leaf, next := (0 : Nat), glob := G }) (zc P 14 [.sle] G)) ∧ (Goal P (0) 19 (fun v h => v = AV.tup [AV.nils (0 : Nat) (0 : Nat), AV.int IntKind.i64 (0 : Int)] ∧ h = { objs := T.leaf, next := (0 : Nat), glob := G }) (zc P 19 [.str t] G)) ∧ (Goal P (0) 12 (fun v h => v = AV.nils (0 : Nat) (0 : Nat) ∧ h = { objs := T.leaf, next := (0 : Nat), glob := G }) (zc P 12 [.sle] G)) ∧ K (BM s G)) := by kernel_rfl
theorem zkh : ∀ l : List Dg, (∀ d, d ∈ l → kU d = true) → (zS l).length ≤ 9 + l.length * 227 := by
 intro l h
 have h9 := zh (l.length : Nat)
 have : ∀ m : List Dg, (∀ d, d ∈ m → kU d = true) → (m.flatMap one).length ≤ m.length * 227 := by
  intro m
  induction m with
  | nil => intro _; simp
  | cons d r ih =>
   intro hm
   have h1 := zdO (hm d (by simp))
   have h2 := ih fun x hx => hm x (by simp [hx])
   simp only [List.flatMap_cons, List.length_append, List.length_cons]
   omega
 have := this l h
 unfold zS
 simp only [List.length_append, List.length_nil]
 omega
end Go.Proofs.YtdbfpjgnlfejmaaDoor.dg
end
