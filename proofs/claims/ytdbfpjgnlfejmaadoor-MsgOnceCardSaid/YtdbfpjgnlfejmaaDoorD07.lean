import Derived.Deep.Slices
import Derived.Deep.Strs
import Derived.OpenShut
import Derived.Test.YtdbfpjgnlfejmaaDoorD00
import Derived.Test.YtdbfpjgnlfejmaaDoorD01
import Derived.Test.YtdbfpjgnlfejmaaDoorD02
import Derived.Test.YtdbfpjgnlfejmaaDoorD03
import Derived.Test.YtdbfpjgnlfejmaaDoorD04
import Derived.Test.YtdbfpjgnlfejmaaDoorD05
import Derived.Test.YtdbfpjgnlfejmaaDoorD06
section
set_option maxRecDepth 100000
set_option linter.unusedVariables false
namespace Go.Proofs.YtdbfpjgnlfejmaaDoor.dg
open Go Ev mq
noncomputable abbrev HR0 (G : T (T AV)) : AHeap := ⟨(.node .leaf (some (.cells (.node (.node (.node .leaf (some (.nils 0 0)) .leaf) (some (.str [])) .leaf) (some (.int .i64 0)) (.node (.node .leaf (some (.int .u64 0)) .leaf) (some (.nils 0 0)) .leaf)) 5 45 0 0 1 0 false .leaf)) .leaf), 1, G⟩
noncomputable def AN (A : AV) (s : List UInt8) (G : T (T AV)) : AM := ⟨⟨25, 58, (.node (.node (.node .leaf none (.node .leaf (some (.ptr 1 0 0)) .leaf)) none .leaf) none (.node .leaf (some (.ptr 0 0 0)) .leaf)),
 [.ops (rg P 25 [1, 0]).toList ((rg P 25 [1, 0]).toList.drop 2), .code (cd P (25 : Nat) [(1 : Nat), (1 : Nat)])], [], .run, CallKind.normal, none⟩,
 [],
 ⟨(.node (.node .leaf (some (.cells (.node (.node .leaf (some (.bool false)) .leaf) (some A) .leaf) 2 101 0 0 1 0 false .leaf)) .leaf) (some (.cells (.node (.node (.node .leaf (some (.nils 0 0)) .leaf) (some (.str [])) .leaf) (some (.int .i64 0)) (.node (.node .leaf (some (.int .u64 0)) .leaf) (some (.nils 0 0)) .leaf)) 5 45 0 0 1 0 false .leaf)) (.node .leaf (some (.cells (.fn fun j => some (AV.int IntKind.u8 (yy s j))) s.length 5 0 0 1 0 true .leaf)) .leaf)), 3, G⟩⟩
noncomputable def ALA (s t : List UInt8) (n k i : Int) (x y : Nat) (G : T (T AV)) : AM := ⟨⟨25, 58, (.node (.node (.node (.node .leaf none (.node .leaf (some (.int .u64 k)) .leaf)) none .leaf) none .leaf) none (.node (.node (.node .leaf none (.node .leaf (some (.int .u64 i)) .leaf)) (some (.ptr 1 0 0)) .leaf) (some (.ptr 0 0 0)) (.node .leaf (some (.ptr 2 0 0)) .leaf))),
 [.code (cd P (25 : Nat) [(1 : Nat), (1 : Nat), (1 : Nat), (1 : Nat), (1 : Nat), (0 : Nat), (1 : Nat), (0 : Nat), (0 : Nat)]), .inLoop (cd P (25 : Nat) [(1 : Nat), (1 : Nat), (1 : Nat), (1 : Nat), (1 : Nat), (0 : Nat), (1 : Nat), (0 : Nat), (0 : Nat)]), .inBlock 0, .code (cd P (25 : Nat) [(1 : Nat), (1 : Nat), (1 : Nat), (1 : Nat), (1 : Nat), (1 : Nat)])], [], .run, CallKind.normal, none⟩,
 [],
 ⟨(.node (.node (.node .leaf (some (.cells (.fn fun j => some (.int .u8 (yy s j))) s.length 5 0 0 1 0 true .leaf)) .leaf) (some (.cells (.node (.node .leaf (some (.bool false)) .leaf) (some (.slc 3 0 y x x)) .leaf) 2 101 0 0 1 0 false .leaf)) .leaf) (some (.cells (.node (.node (.node .leaf (some (.nils 0 0)) .leaf) (some (.str [])) .leaf) (some (.int .i64 0)) (.node (.node .leaf (some (.int .u64 0)) .leaf) (some (.nils 0 0)) .leaf)) 5 45 0 0 1 0 false .leaf)) (.node .leaf (some (.cells (.node (.node (.node .leaf (some (.nils 0 0)) .leaf) (some (.str t)) .leaf) (some (.int .i64 n)) (.node (.node .leaf (some (.int .u64 0)) .leaf) (some (.nils 0 0)) .leaf)) 5 45 0 0 1 0 false .leaf)) .leaf)), 4, G⟩⟩
noncomputable def ALB (pc : Nat → AV) (s t : List UInt8) (n k i : Int) (x y m z : Nat) (G : T (T AV)) : AM := ⟨⟨25, 58, (.node (.node (.node (.node .leaf none (.node .leaf (some (.int .u64 k)) .leaf)) none .leaf) none .leaf) none (.node (.node (.node .leaf none (.node .leaf (some (.int .u64 i)) .leaf)) (some (.ptr 1 0 0)) .leaf) (some (.ptr 0 0 0)) (.node .leaf (some (.ptr 2 0 0)) .leaf))),
 [.code (cd P (25 : Nat) [(1 : Nat), (1 : Nat), (1 : Nat), (1 : Nat), (1 : Nat), (0 : Nat), (1 : Nat), (0 : Nat), (0 : Nat)]), .inLoop (cd P (25 : Nat) [(1 : Nat), (1 : Nat), (1 : Nat), (1 : Nat), (1 : Nat), (0 : Nat), (1 : Nat), (0 : Nat), (0 : Nat)]), .inBlock 0, .code (cd P (25 : Nat) [(1 : Nat), (1 : Nat), (1 : Nat), (1 : Nat), (1 : Nat), (1 : Nat)])], [], .run, CallKind.normal, none⟩,
 [],
 ⟨(.node (.node (.node .leaf (some (.cells (.fn fun j => some (.int .u8 (yy s j))) s.length 5 0 0 1 0 true .leaf)) .leaf) (some (.cells (.node (.node .leaf (some (.bool false)) .leaf) (some (.slc 3 0 y x x)) .leaf) 2 101 0 0 1 0 false .leaf)) .leaf) (some (.cells (.node (.node (.node .leaf (some (.nils 0 0)) .leaf) (some (.str [])) .leaf) (some (.int .i64 0)) (.node (.node .leaf (some (.int .u64 0)) .leaf) (some (.nils 0 0)) .leaf)) 5 45 0 0 1 0 false .leaf)) (.node (.node .leaf (some (.cells (.fn fun c => some (pc c)) z 9 0 0 1 0 false .leaf)) .leaf) (some (.cells (.node (.node (.node .leaf (some (.nils 0 0)) .leaf) (some (.str t)) .leaf) (some (.int .i64 n)) (.node (.node .leaf (some (.int .u64 0)) .leaf) (some (.slg 4 0 0 m 0)) .leaf)) 5 45 0 0 1 0 false .leaf)) .leaf)), 5, G⟩⟩
theorem a0 (R : AV → AHeap → Prop) (s : List UInt8) (G : T (T AV)) (K : AM → Prop) : Obl P 25 (fun v h => R v h) 0 K [.run 9, .callh [] [0] (.ptr 1 0 0) (RN s G), .can 0 [0, 2, 1] [2, 11] []] ((zc P 25 [.str s] G)) = ((za fun j => some (.int .u8 (yy s j))) ∧ (Goal P (0) 54 (fun v h => v = AV.ptr (1 : Nat) (0 : Nat) (0 : Nat) ∧ h = RN s G) (zc P 54 [.str s] G)) ∧ (za fun j => some (.int .u8 (yy s j))) ∧ K (AN (.slg 2 0 0 s.length 0) s G)) := by kernel_rfl
theorem aE (R : AV → AHeap → Prop) (G : T (T AV)) (_K : AM → Prop) : Obl P 25 (fun v h => R v h) 0 _K [.run 873, .can 0 [0] [2, 3] [], .run 1, .done] ((zc P 25 [.str []] G)) = ((R (.tup [.agg [.int .i64 0, .str [], .nils 0 0, .nils 0 0, .int .u64 0], .int .i64 4]) ((HR0 G)))) := by kernel_rfl
theorem s1 (R : AV → AHeap → Prop) (s : List UInt8) (x cp : Nat) (G : T (T AV)) (_K : AM → Prop) : Obl P 25 (fun v h => R v h) 0 _K [.run 6, .callh [(1, 0, []), (2, 0, [0])] [0] (.int .u64 0) (RZ s G), .run 16, .callh [(1, 0, [])] [0] (.str []) (RB G), .run 9, .callh [(1, 0, [])] [0] (.int .u64 0) (RB G), .run 15, .callh [(1, 0, [])] [0] (.str []) (RB G), .run 1, .callh [] [0] (.tup [.nils 0 0, .int .i64 4]) ⟨.leaf, 0, G⟩, .run 11, .callh [(1, 0, [])] [0] (.int .u64 0) (RB G), .run 23, .can 0 [0] [2, 3] [], .run 1, .done] ((AN (.slc 2 0 0 x cp) s G)) = ((za fun j => some (.int .u8 (yy s j))) ∧ (za fun j => some (.int .u8 (yy s j))) ∧ (Goal P (2) 55 (fun v h => v = AV.int IntKind.u64 (0 : Int) ∧ h = RZ s G) (zf P 55 [.ptr 0 0 0] (RG s 0 x cp G))) ∧ (Goal P (1) 56 (fun v h => v = AV.str [] ∧ h = RB G) (zf P 56 [.ptr 0 0 0] (RB G))) ∧ (Goal P (1) 55 (fun v h => v = AV.int IntKind.u64 (0 : Int) ∧ h = RB G) (zf P 55 [.ptr 0 0 0] (RB G))) ∧ (Goal P (1) 56 (fun v h => v = AV.str [] ∧ h = RB G) (zf P 56 [.ptr 0 0 0] (RB G))) ∧ (Goal P (0) 19 (fun v h => v = AV.tup [AV.nils (0 : Nat) (0 : Nat), AV.int IntKind.i64 (4 : Int)] ∧ h = { objs := T.leaf, next := (0 : Nat), glob := G }) (zc P 19 [.str []] G)) ∧ (Goal P (1) 55 (fun v h => v = AV.int IntKind.u64 (0 : Int) ∧ h = RB G) (zf P 55 [.ptr 0 0 0] (RB G))) ∧ (R (.tup [.agg [.int .i64 0, .str [], .nils 0 0, .nils 0 0, .int .u64 0], .int .i64 4]) ((HR0 G)))) := by kernel_rfl
theorem s2 (R : AV → AHeap → Prop) (s : List UInt8) (n : Int) (x cp x1 y1 : Nat) (G : T (T AV)) (_K : AM → Prop) : Obl P 25 (fun v h => R v h) 0 _K [.run 6, .callh [(1, 0, []), (2, 0, [0])] [0] (.int .u64 n) (RG s y1 x1 x1 G), .run 8, .know 15 true, .run 7, .can 0 [0] [2, 3] [], .run 1, .done] ((AN (.slc 2 0 0 x cp) s G)) = ((za fun j => some (.int .u8 (yy s j))) ∧ (za fun j => some (.int .u8 (yy s j))) ∧ (Goal P (2) 55 (fun v h => v = AV.int IntKind.u64 n ∧ h = RG s y1 x1 x1 G) (zf P 55 [.ptr 0 0 0] (RG s 0 x cp G))) ∧ (decide (n > (14 : Int)) = true) ∧ (R (.tup [.agg [.int .i64 0, .str [], .nils 0 0, .nils 0 0, .int .u64 0], .int .i64 4]) ((HR0 G)))) := by kernel_rfl
theorem s3 (R : AV → AHeap → Prop) (s : List UInt8) (n : Int) (x cp x1 y1 : Nat) (G : T (T AV)) (_K : AM → Prop) : Obl P 25 (fun v h => R v h) 0 _K [.run 6, .callh [(1, 0, []), (2, 0, [0])] [0] (.int .u64 n) (RG s y1 x1 x1 G), .run 8, .know 15 false, .run 8, .callh [(1, 0, []), (2, 0, [0])] [0] (.str []) (RZ s G), .run 9, .callh [(1, 0, [])] [0] (.int .u64 0) (RB G), .run 15, .callh [(1, 0, [])] [0] (.str []) (RB G), .run 1, .callh [] [0] (.tup [.nils 0 0, .int .i64 4]) ⟨.leaf, 0, G⟩, .run 11, .callh [(1, 0, [])] [0] (.int .u64 0) (RB G), .run 23, .can 0 [0] [2, 3] [], .run 1, .done] ((AN (.slc 2 0 0 x cp) s G)) = ((za fun j => some (.int .u8 (yy s j))) ∧ (za fun j => some (.int .u8 (yy s j))) ∧ (Goal P (2) 55 (fun v h => v = AV.int IntKind.u64 n ∧ h = RG s y1 x1 x1 G) (zf P 55 [.ptr 0 0 0] (RG s 0 x cp G))) ∧ (decide (n > (14 : Int)) = false) ∧ (za fun j => some (.int .u8 (yy s j))) ∧ (za fun j => some (.int .u8 (yy s j))) ∧ (Goal P (2) 56 (fun v h => v = AV.str [] ∧ h = RZ s G) (zf P 56 [.ptr 0 0 0] (RG s y1 x1 x1 G))) ∧ (Goal P (1) 55 (fun v h => v = AV.int IntKind.u64 (0 : Int) ∧ h = RB G) (zf P 55 [.ptr 0 0 0] (RB G))) ∧ (Goal P (1) 56 (fun v h => v = AV.str [] ∧ h = RB G) (zf P 56 [.ptr 0 0 0] (RB G))) ∧ (Goal P (0) 19 (fun v h => v = AV.tup [AV.nils (0 : Nat) (0 : Nat), AV.int IntKind.i64 (4 : Int)] ∧ h = { objs := T.leaf, next := (0 : Nat), glob := G }) (zc P 19 [.str []] G)) ∧ (Goal P (1) 55 (fun v h => v = AV.int IntKind.u64 (0 : Int) ∧ h = RB G) (zf P 55 [.ptr 0 0 0] (RB G))) ∧ (R (.tup [.agg [.int .i64 0, .str [], .nils 0 0, .nils 0 0, .int .u64 0], .int .i64 4]) ((HR0 G)))) := by kernel_rfl
theorem s4 (R : AV → AHeap → Prop) (s t : List UInt8) (n : Int) (x cp x1 y1 x2 y2 : Nat) (G : T (T AV)) (_K : AM → Prop) : Obl P 25 (fun v h => R v h) 0 _K [.run 6, .callh [(1, 0, []), (2, 0, [0])] [0] (.int .u64 n) (RG s y1 x1 x1 G), .run 8, .know 15 false, .run 8, .callh [(1, 0, []), (2, 0, [0])] [0] (.str t) (RG s y2 x2 x2 G), .run 9, .callh [(1, 0, []), (2, 0, [0])] [0] (.int .u64 0) (RZ s G), .run 15, .callh [(1, 0, [])] [0] (.str []) (RB G), .run 1, .callh [] [0] (.tup [.nils 0 0, .int .i64 4]) ⟨.leaf, 0, G⟩, .run 11, .callh [(1, 0, [])] [0] (.int .u64 0) (RB G), .run 23, .can 0 [0] [2, 3] [], .run 1, .done] ((AN (.slc 2 0 0 x cp) s G)) = ((za fun j => some (.int .u8 (yy s j))) ∧ (za fun j => some (.int .u8 (yy s j))) ∧ (Goal P (2) 55 (fun v h => v = AV.int IntKind.u64 n ∧ h = RG s y1 x1 x1 G) (zf P 55 [.ptr 0 0 0] (RG s 0 x cp G))) ∧ (decide (n > (14 : Int)) = false) ∧ (za fun j => some (.int .u8 (yy s j))) ∧ (za fun j => some (.int .u8 (yy s j))) ∧ (Goal P (2) 56 (fun v h => v = AV.str t ∧ h = RG s y2 x2 x2 G) (zf P 56 [.ptr 0 0 0] (RG s y1 x1 x1 G))) ∧ (za fun j => some (.int .u8 (yy s j))) ∧ (za fun j => some (.int .u8 (yy s j))) ∧ (Goal P (2) 55 (fun v h => v = AV.int IntKind.u64 (0 : Int) ∧ h = RZ s G) (zf P 55 [.ptr 0 0 0] (RG s y2 x2 x2 G))) ∧ (Goal P (1) 56 (fun v h => v = AV.str [] ∧ h = RB G) (zf P 56 [.ptr 0 0 0] (RB G))) ∧ (Goal P (0) 19 (fun v h => v = AV.tup [AV.nils (0 : Nat) (0 : Nat), AV.int IntKind.i64 (4 : Int)] ∧ h = { objs := T.leaf, next := (0 : Nat), glob := G }) (zc P 19 [.str []] G)) ∧ (Goal P (1) 55 (fun v h => v = AV.int IntKind.u64 (0 : Int) ∧ h = RB G) (zf P 55 [.ptr 0 0 0] (RB G))) ∧ (R (.tup [.agg [.int .i64 0, .str [], .nils 0 0, .nils 0 0, .int .u64 0], .int .i64 4]) ((HR0 G)))) := by kernel_rfl
theorem s5 (R : AV → AHeap → Prop) (s t : List UInt8) (n k : Int) (x cp x1 y1 x2 y2 x3 y3 : Nat) (G : T (T AV)) (K : AM → Prop) : Obl P 25 (fun v h => R v h) 0 K [.run 6, .callh [(1, 0, []), (2, 0, [0])] [0] (.int .u64 n) (RG s y1 x1 x1 G), .run 8, .know 15 false, .run 8, .callh [(1, 0, []), (2, 0, [0])] [0] (.str t) (RG s y2 x2 x2 G), .run 9, .callh [(1, 0, []), (2, 0, [0])] [0] (.int .u64 k) (RG s y3 x3 x3 G), .run 4, .can 0 [0, 1, 3, 2] [2, 4, 6, 23, 24] []] ((AN (.slc 2 0 0 x cp) s G)) = ((za fun j => some (.int .u8 (yy s j))) ∧ (za fun j => some (.int .u8 (yy s j))) ∧ (Goal P (2) 55 (fun v h => v = AV.int IntKind.u64 n ∧ h = RG s y1 x1 x1 G) (zf P 55 [.ptr 0 0 0] (RG s 0 x cp G))) ∧ (decide (n > (14 : Int)) = false) ∧ (za fun j => some (.int .u8 (yy s j))) ∧ (za fun j => some (.int .u8 (yy s j))) ∧ (Goal P (2) 56 (fun v h => v = AV.str t ∧ h = RG s y2 x2 x2 G) (zf P 56 [.ptr 0 0 0] (RG s y1 x1 x1 G))) ∧ (za fun j => some (.int .u8 (yy s j))) ∧ (za fun j => some (.int .u8 (yy s j))) ∧ (Goal P (2) 55 (fun v h => v = AV.int IntKind.u64 k ∧ h = RG s y3 x3 x3 G) (zf P 55 [.ptr 0 0 0] (RG s y2 x2 x2 G))) ∧ (za fun j => some (.int .u8 (yy s j))) ∧ K (ALA s t (IntKind.i64.wrap n) k (Int.ofNat (0)) x3 y3 G)) := by kernel_rfl
theorem lAg (R : AV → AHeap → Prop) (pc' : Nat → AV) (s t p : List UInt8) (n k i : Int) (x y x2 y2 z' : Nat) (G : T (T AV)) (K : AM → Prop) : Obl P 25 (fun v h => R v h) 0 K [.run 5, .know 25 true, .run 8, .callh [(1, 0, []), (3, 0, [0])] [0] (.str p) (RG s y2 x2 x2 G), .run 45, .told 5 (.fn fun j => some (pc' j)) z', .can 0 [0, 1, 2, 3, 5] [2, 4, 6, 23, 24] []] ((ALA s t n k i x y G)) = ((decide (i < k) = true) ∧ (za fun j => some (.int .u8 (yy s j))) ∧ (za fun j => some (.int .u8 (yy s j))) ∧ (Goal P (2) 56 (fun v h => v = AV.str p ∧ h = RG s y2 x2 x2 G) (zf P 56 [.ptr 0 0 0] (RG s y x x G))) ∧ (xR (z') ((.fn fun j => some (pc' j))) ((.node .leaf (some (.str p)) .leaf))) ∧ (z' = 1) ∧ (za fun j => some (.int .u8 (yy s j))) ∧ (za fun j => some (pc' j)) ∧ K (ALB pc' s t n k (IntKind.u64.wrap (i + (1 : Int))) x2 y2 (1) z' G)) := by kernel_rfl
theorem lAb (R : AV → AHeap → Prop) (s t : List UInt8) (n k i : Int) (x y : Nat) (G : T (T AV)) (_K : AM → Prop) : Obl P 25 (fun v h => R v h) 0 _K [.run 5, .know 25 true, .run 8, .callh [(1, 0, []), (3, 0, [0])] [0] (.str []) (RZ s G), .run 34, .callh [(1, 0, [])] [0] (.str []) (RB G), .run 1, .callh [] [0] (.tup [.nils 0 0, .int .i64 4]) ⟨.leaf, 0, G⟩, .run 11, .callh [(1, 0, [])] [0] (.int .u64 0) (RB G), .run 23, .can 0 [0] [2, 3] [], .run 1, .done] ((ALA s t n k i x y G)) = ((decide (i < k) = true) ∧ (za fun j => some (.int .u8 (yy s j))) ∧ (za fun j => some (.int .u8 (yy s j))) ∧ (Goal P (2) 56 (fun v h => v = AV.str [] ∧ h = RZ s G) (zf P 56 [.ptr 0 0 0] (RG s y x x G))) ∧ (Goal P (1) 56 (fun v h => v = AV.str [] ∧ h = RB G) (zf P 56 [.ptr 0 0 0] (RB G))) ∧ (Goal P (0) 19 (fun v h => v = AV.tup [AV.nils (0 : Nat) (0 : Nat), AV.int IntKind.i64 (4 : Int)] ∧ h = { objs := T.leaf, next := (0 : Nat), glob := G }) (zc P 19 [.str []] G)) ∧ (Goal P (1) 55 (fun v h => v = AV.int IntKind.u64 (0 : Int) ∧ h = RB G) (zf P 55 [.ptr 0 0 0] (RB G))) ∧ (R (.tup [.agg [.int .i64 0, .str [], .nils 0 0, .nils 0 0, .int .u64 0], .int .i64 4]) ((HR0 G)))) := by kernel_rfl
theorem eA1 (R : AV → AHeap → Prop) (s t : List UInt8) (n k i : Int) (x y : Nat) (G : T (T AV)) (_K : AM → Prop) : Obl P 25 (fun v h => R v h) 0 _K [.run 5, .know 25 false, .run 6, .callh [(1, 0, []), (3, 0, [0])] [0] (.str []) (RZ s G), .run 1, .callh [] [0] (.tup [.nils 0 0, .int .i64 4]) ⟨.leaf, 0, G⟩, .run 11, .callh [(1, 0, [])] [0] (.int .u64 0) (RB G), .run 23, .can 0 [0] [2, 3] [], .run 1, .done] ((ALA s t n k i x y G)) = ((decide (i < k) = false) ∧ (za fun j => some (.int .u8 (yy s j))) ∧ (za fun j => some (.int .u8 (yy s j))) ∧ (Goal P (2) 56 (fun v h => v = AV.str [] ∧ h = RZ s G) (zf P 56 [.ptr 0 0 0] (RG s y x x G))) ∧ (Goal P (0) 19 (fun v h => v = AV.tup [AV.nils (0 : Nat) (0 : Nat), AV.int IntKind.i64 (4 : Int)] ∧ h = { objs := T.leaf, next := (0 : Nat), glob := G }) (zc P 19 [.str []] G)) ∧ (Goal P (1) 55 (fun v h => v = AV.int IntKind.u64 (0 : Int) ∧ h = RB G) (zf P 55 [.ptr 0 0 0] (RB G))) ∧ (R (.tup [.agg [.int .i64 0, .str [], .nils 0 0, .nils 0 0, .int .u64 0], .int .i64 4]) ((HR0 G)))) := by kernel_rfl
theorem eA2 (R : AV → AHeap → Prop) (s t u : List UInt8) (n k i nu : Int) (x y x2 y2 x3 y3 : Nat) (G : T (T AV)) (_K : AM → Prop) : Obl P 25 (fun v h => R v h) 0 _K [.run 5, .know 25 false, .run 6, .callh [(1, 0, []), (3, 0, [0])] [0] (.str u) (RG s y2 x2 x2 G), .run 1, .callh [] [0] (.tup [.nils 0 0, .int .i64 4]) ⟨.leaf, 0, G⟩, .run 11, .callh [(1, 0, []), (3, 0, [0])] [0] (.int .u64 nu) (RG s y3 x3 x3 G), .run 23, .can 0 [0] [2, 3] [], .run 1, .done] ((ALA s t n k i x y G)) = ((decide (i < k) = false) ∧ (za fun j => some (.int .u8 (yy s j))) ∧ (za fun j => some (.int .u8 (yy s j))) ∧ (Goal P (2) 56 (fun v h => v = AV.str u ∧ h = RG s y2 x2 x2 G) (zf P 56 [.ptr 0 0 0] (RG s y x x G))) ∧ (Goal P (0) 19 (fun v h => v = AV.tup [AV.nils (0 : Nat) (0 : Nat), AV.int IntKind.i64 (4 : Int)] ∧ h = { objs := T.leaf, next := (0 : Nat), glob := G }) (zc P 19 [.str u] G)) ∧ (za fun j => some (.int .u8 (yy s j))) ∧ (za fun j => some (.int .u8 (yy s j))) ∧ (Goal P (2) 55 (fun v h => v = AV.int IntKind.u64 nu ∧ h = RG s y3 x3 x3 G) (zf P 55 [.ptr 0 0 0] (RG s y2 x2 x2 G))) ∧ (R (.tup [.agg [.int .i64 0, .str [], .nils 0 0, .nils 0 0, .int .u64 0], .int .i64 4]) ((HR0 G)))) := by kernel_rfl
theorem eA3 (R : AV → AHeap → Prop) (s t u : List UInt8) (n k i : Int) (x y x2 y2 : Nat) (G : T (T AV)) (_K : AM → Prop) : Obl P 25 (fun v h => R v h) 0 _K [.run 5, .know 25 false, .run 6, .callh [(1, 0, []), (3, 0, [0])] [0] (.str u) (RG s y2 x2 x2 G), .run 1, .callh [] [0] (.tup [.nils 0 0, .int .i64 4]) ⟨.leaf, 0, G⟩, .run 11, .callh [(1, 0, []), (3, 0, [0])] [0] (.int .u64 0) (RZ s G), .run 23, .can 0 [0] [2, 3] [], .run 1, .done] ((ALA s t n k i x y G)) = ((decide (i < k) = false) ∧ (za fun j => some (.int .u8 (yy s j))) ∧ (za fun j => some (.int .u8 (yy s j))) ∧ (Goal P (2) 56 (fun v h => v = AV.str u ∧ h = RG s y2 x2 x2 G) (zf P 56 [.ptr 0 0 0] (RG s y x x G))) ∧ (Goal P (0) 19 (fun v h => v = AV.tup [AV.nils (0 : Nat) (0 : Nat), AV.int IntKind.i64 (4 : Int)] ∧ h = { objs := T.leaf, next := (0 : Nat), glob := G }) (zc P 19 [.str u] G)) ∧ (za fun j => some (.int .u8 (yy s j))) ∧ (za fun j => some (.int .u8 (yy s j))) ∧ (Goal P (2) 55 (fun v h => v = AV.int IntKind.u64 (0 : Int) ∧ h = RZ s G) (zf P 55 [.ptr 0 0 0] (RG s y2 x2 x2 G))) ∧ (R (.tup [.agg [.int .i64 0, .str [], .nils 0 0, .nils 0 0, .int .u64 0], .int .i64 4]) ((HR0 G)))) := by kernel_rfl
theorem eAnb (R : AV → AHeap → Prop) (s t u : List UInt8) (n k i : Int) (x y x2 y2 : Nat) (G : T (T AV)) (_K : AM → Prop) : Obl P 25 (fun v h => R v h) 0 _K [.run 5, .know 25 false, .run 6, .callh [(1, 0, []), (3, 0, [0])] [0] (.str u) (RG s y2 x2 x2 G), .run 1, .callh [] [0] (.tup [.nils 0 0, .int .i64 0]) ⟨.leaf, 0, G⟩, .run 11, .callh [(1, 0, []), (3, 0, [0])] [0] (.int .u64 0) (RZ s G), .run 62, .can 0 [0] [2, 3] [], .run 1, .done] ((ALA s t n k i x y G)) = ((decide (i < k) = false) ∧ (za fun j => some (.int .u8 (yy s j))) ∧ (za fun j => some (.int .u8 (yy s j))) ∧ (Goal P (2) 56 (fun v h => v = AV.str u ∧ h = RG s y2 x2 x2 G) (zf P 56 [.ptr 0 0 0] (RG s y x x G))) ∧ (Goal P (0) 19 (fun v h => v = AV.tup [AV.nils (0 : Nat) (0 : Nat), AV.int IntKind.i64 (0 : Int)] ∧ h = { objs := T.leaf, next := (0 : Nat), glob := G }) (zc P 19 [.str u] G)) ∧ (za fun j => some (.int .u8 (yy s j))) ∧ (za fun j => some (.int .u8 (yy s j))) ∧ (Goal P (2) 55 (fun v h => v = AV.int IntKind.u64 (0 : Int) ∧ h = RZ s G) (zf P 55 [.ptr 0 0 0] (RG s y2 x2 x2 G))) ∧ (R (.tup [.agg [.int .i64 0, .str [], .nils 0 0, .nils 0 0, .int .u64 0], .int .i64 4]) ((HR0 G)))) := by kernel_rfl
theorem eAnx (R : AV → AHeap → Prop) (s t u : List UInt8) (n k i nu : Int) (x y x2 y2 x3 y3 : Nat) (G : T (T AV)) (_K : AM → Prop) : Obl P 25 (fun v h => R v h) 0 _K [.run 5, .know 25 false, .run 6, .callh [(1, 0, []), (3, 0, [0])] [0] (.str u) (RG s y2 x2 x2 G), .run 1, .callh [] [0] (.tup [.nils 0 0, .int .i64 0]) ⟨.leaf, 0, G⟩, .run 11, .callh [(1, 0, []), (3, 0, [0])] [0] (.int .u64 nu) (RG s y3 x3 x3 G), .run 55, .know 55 true, .run 7, .can 0 [0] [2, 3] [], .run 1, .done] ((ALA s t n k i x y G)) = ((decide (i < k) = false) ∧ (za fun j => some (.int .u8 (yy s j))) ∧ (za fun j => some (.int .u8 (yy s j))) ∧ (Goal P (2) 56 (fun v h => v = AV.str u ∧ h = RG s y2 x2 x2 G) (zf P 56 [.ptr 0 0 0] (RG s y x x G))) ∧ (Goal P (0) 19 (fun v h => v = AV.tup [AV.nils (0 : Nat) (0 : Nat), AV.int IntKind.i64 (0 : Int)] ∧ h = { objs := T.leaf, next := (0 : Nat), glob := G }) (zc P 19 [.str u] G)) ∧ (za fun j => some (.int .u8 (yy s j))) ∧ (za fun j => some (.int .u8 (yy s j))) ∧ (Goal P (2) 55 (fun v h => v = AV.int IntKind.u64 nu ∧ h = RG s y3 x3 x3 G) (zf P 55 [.ptr 0 0 0] (RG s y2 x2 x2 G))) ∧ ((!(↑x3 : Int) == (0 : Int)) = true) ∧ (R (.tup [.agg [.int .i64 0, .str [], .nils 0 0, .nils 0 0, .int .u64 0], .int .i64 4]) ((HR0 G)))) := by kernel_rfl
theorem eAnz (R : AV → AHeap → Prop) (s t u : List UInt8) (n k i nu : Int) (x y x2 y2 y3 : Nat) (G : T (T AV)) (_K : AM → Prop) : Obl P 25 (fun v h => R v h) 0 _K [.run 5, .know 25 false, .run 6, .callh [(1, 0, []), (3, 0, [0])] [0] (.str u) (RG s y2 x2 x2 G), .run 1, .callh [] [0] (.tup [.nils 0 0, .int .i64 0]) ⟨.leaf, 0, G⟩, .run 11, .callh [(1, 0, []), (3, 0, [0])] [0] (.int .u64 nu) (RG s y3 0 0 G), .run 63, .can 0 [0] [2, 3] [], .run 1, .done] ((ALA s t n k i x y G)) = ((decide (i < k) = false) ∧ (za fun j => some (.int .u8 (yy s j))) ∧ (za fun j => some (.int .u8 (yy s j))) ∧ (Goal P (2) 56 (fun v h => v = AV.str u ∧ h = RG s y2 x2 x2 G) (zf P 56 [.ptr 0 0 0] (RG s y x x G))) ∧ (Goal P (0) 19 (fun v h => v = AV.tup [AV.nils (0 : Nat) (0 : Nat), AV.int IntKind.i64 (0 : Int)] ∧ h = { objs := T.leaf, next := (0 : Nat), glob := G }) (zc P 19 [.str u] G)) ∧ (za fun j => some (.int .u8 (yy s j))) ∧ (za fun j => some (.int .u8 (yy s j))) ∧ (Goal P (2) 55 (fun v h => v = AV.int IntKind.u64 nu ∧ h = RG s y3 (0 : Nat) (0 : Nat) G) (zf P 55 [.ptr 0 0 0] (RG s y2 x2 x2 G))) ∧ (R (.tup [.agg [.int .i64 n, .str t, .nils 0 0, .nils 0 0, .int .u64 nu], .int .i64 0]) (⟨(.node .leaf (some (.cells (.node (.node (.node .leaf (some (.nils 0 0)) .leaf) (some (.str t)) .leaf) (some (.int .i64 n)) (.node (.node .leaf (some (.int .u64 nu)) .leaf) (some (.nils 0 0)) .leaf)) 5 45 0 0 1 0 false .leaf)) .leaf), 1, G⟩))) := by kernel_rfl
theorem eArb (R : AV → AHeap → Prop) (cell : Nat → AV) (s t u : List UInt8) (n k i : Int) (x y x2 y2 m' zd : Nat) (G : T (T AV)) (_K : AM → Prop) : Obl P 25 (fun v h => R v h) 0 _K [.run 5, .know 25 false, .run 6, .callh [(1, 0, []), (3, 0, [0])] [0] (.str u) (RG s y2 x2 x2 G), .run 1, .callh [] [0] (.tup [.slg 0 0 0 m' 0, .int .i64 0]) ⟨(.node .leaf (some (.cells (.fn fun j => some (cell j)) zd 35 0 0 1 0 false .leaf)) .leaf), 1, G⟩, .run 11, .callh [(1, 0, []), (3, 0, [0])] [0] (.int .u64 0) (RZ s G), .run 62, .can 0 [0] [2, 3] [], .run 1, .done] ((ALA s t n k i x y G)) = ((decide (i < k) = false) ∧ (za fun j => some (.int .u8 (yy s j))) ∧ (za fun j => some (.int .u8 (yy s j))) ∧ (Goal P (2) 56 (fun v h => v = AV.str u ∧ h = RG s y2 x2 x2 G) (zf P 56 [.ptr 0 0 0] (RG s y x x G))) ∧ (za fun j => some (cell j)) ∧ (Goal P (0) 19 (fun v h => v = AV.tup [AV.slg (0 : Nat) (0 : Nat) (0 : Nat) m' (0 : Nat), AV.int IntKind.i64 (0 : Int)] ∧ h = { objs := T.leaf.node (some (AObj.cells (T.fn fun j => some (cell j)) zd (35 : TypeId) (0 : Nat) (0 : Nat) (1 : Nat) (0 : Nat) false T.leaf)) T.leaf, next := (1 : Nat), glob := G }) (zc P 19 [.str u] G)) ∧ (za fun j => some (.int .u8 (yy s j))) ∧ (za fun j => some (.int .u8 (yy s j))) ∧ (Goal P (2) 55 (fun v h => v = AV.int IntKind.u64 (0 : Int) ∧ h = RZ s G) (zf P 55 [.ptr 0 0 0] (RG s y2 x2 x2 G))) ∧ (R (.tup [.agg [.int .i64 0, .str [], .nils 0 0, .nils 0 0, .int .u64 0], .int .i64 4]) ((HR0 G)))) := by kernel_rfl
theorem eArx (R : AV → AHeap → Prop) (cell : Nat → AV) (s t u : List UInt8) (n k i nu : Int) (x y x2 y2 x3 y3 m' zd : Nat) (G : T (T AV)) (_K : AM → Prop) : Obl P 25 (fun v h => R v h) 0 _K [.run 5, .know 25 false, .run 6, .callh [(1, 0, []), (3, 0, [0])] [0] (.str u) (RG s y2 x2 x2 G), .run 1, .callh [] [0] (.tup [.slg 0 0 0 m' 0, .int .i64 0]) ⟨(.node .leaf (some (.cells (.fn fun j => some (cell j)) zd 35 0 0 1 0 false .leaf)) .leaf), 1, G⟩, .run 11, .callh [(1, 0, []), (3, 0, [0])] [0] (.int .u64 nu) (RG s y3 x3 x3 G), .run 55, .know 55 true, .run 7, .can 0 [0] [2, 3] [], .run 1, .done] ((ALA s t n k i x y G)) = ((decide (i < k) = false) ∧ (za fun j => some (.int .u8 (yy s j))) ∧ (za fun j => some (.int .u8 (yy s j))) ∧ (Goal P (2) 56 (fun v h => v = AV.str u ∧ h = RG s y2 x2 x2 G) (zf P 56 [.ptr 0 0 0] (RG s y x x G))) ∧ (za fun j => some (cell j)) ∧ (Goal P (0) 19 (fun v h => v = AV.tup [AV.slg (0 : Nat) (0 : Nat) (0 : Nat) m' (0 : Nat), AV.int IntKind.i64 (0 : Int)] ∧ h = { objs := T.leaf.node (some (AObj.cells (T.fn fun j => some (cell j)) zd (35 : TypeId) (0 : Nat) (0 : Nat) (1 : Nat) (0 : Nat) false T.leaf)) T.leaf, next := (1 : Nat), glob := G }) (zc P 19 [.str u] G)) ∧ (za fun j => some (.int .u8 (yy s j))) ∧ (za fun j => some (.int .u8 (yy s j))) ∧ (Goal P (2) 55 (fun v h => v = AV.int IntKind.u64 nu ∧ h = RG s y3 x3 x3 G) (zf P 55 [.ptr 0 0 0] (RG s y2 x2 x2 G))) ∧ ((!(↑x3 : Int) == (0 : Int)) = true) ∧ (R (.tup [.agg [.int .i64 0, .str [], .nils 0 0, .nils 0 0, .int .u64 0], .int .i64 4]) ((HR0 G)))) := by kernel_rfl
theorem eArz (R : AV → AHeap → Prop) (cell : Nat → AV) (s t u : List UInt8) (n k i nu : Int) (x y x2 y2 y3 m' zd : Nat) (G : T (T AV)) (_K : AM → Prop) : Obl P 25 (fun v h => R v h) 0 _K [.run 5, .know 25 false, .run 6, .callh [(1, 0, []), (3, 0, [0])] [0] (.str u) (RG s y2 x2 x2 G), .run 1, .callh [] [0] (.tup [.slg 0 0 0 m' 0, .int .i64 0]) ⟨(.node .leaf (some (.cells (.fn fun j => some (cell j)) zd 35 0 0 1 0 false .leaf)) .leaf), 1, G⟩, .run 11, .callh [(1, 0, []), (3, 0, [0])] [0] (.int .u64 nu) (RG s y3 0 0 G), .run 63, .can 0 [0, 4] [2, 3] [], .run 1, .done] ((ALA s t n k i x y G)) = ((decide (i < k) = false) ∧ (za fun j => some (.int .u8 (yy s j))) ∧ (za fun j => some (.int .u8 (yy s j))) ∧ (Goal P (2) 56 (fun v h => v = AV.str u ∧ h = RG s y2 x2 x2 G) (zf P 56 [.ptr 0 0 0] (RG s y x x G))) ∧ (za fun j => some (cell j)) ∧ (Goal P (0) 19 (fun v h => v = AV.tup [AV.slg (0 : Nat) (0 : Nat) (0 : Nat) m' (0 : Nat), AV.int IntKind.i64 (0 : Int)] ∧ h = { objs := T.leaf.node (some (AObj.cells (T.fn fun j => some (cell j)) zd (35 : TypeId) (0 : Nat) (0 : Nat) (1 : Nat) (0 : Nat) false T.leaf)) T.leaf, next := (1 : Nat), glob := G }) (zc P 19 [.str u] G)) ∧ (za fun j => some (.int .u8 (yy s j))) ∧ (za fun j => some (.int .u8 (yy s j))) ∧ (Goal P (2) 55 (fun v h => v = AV.int IntKind.u64 nu ∧ h = RG s y3 (0 : Nat) (0 : Nat) G) (zf P 55 [.ptr 0 0 0] (RG s y2 x2 x2 G))) ∧ (za fun j => some (cell j)) ∧ (R (.tup [.agg [.int .i64 n, .str t, .nils 0 0, .slg 1 0 0 m' 0, .int .u64 nu], .int .i64 0]) (⟨(.node (.node .leaf (some (.cells (.fn fun j => some (cell j)) zd 35 0 0 1 0 false .leaf)) .leaf) (some (.cells (.node (.node (.node .leaf (some (.slg 1 0 0 m' 0)) .leaf) (some (.str t)) .leaf) (some (.int .i64 n)) (.node (.node .leaf (some (.int .u64 nu)) .leaf) (some (.nils 0 0)) .leaf)) 5 45 0 0 1 0 false .leaf)) .leaf), 2, G⟩))) := by kernel_rfl
theorem lBg (R : AV → AHeap → Prop) (pc pc' : Nat → AV) (s t p : List UInt8) (n k i : Int) (x y x2 y2 m z z' : Nat) (G : T (T AV)) (K : AM → Prop) : Obl P 25 (fun v h => R v h) 0 K [.run 5, .know 25 true, .run 8, .callh [(1, 0, []), (3, 0, [0])] [0] (.str p) (RG s y2 x2 x2 G), .run 35, .opw false, .run 9, .told 4 (.fn fun j => some (pc' j)) z', .can 0 [0, 1, 2, 3, 4] [2, 4, 6, 23, 24] []] ((ALB pc s t n k i x y m z G)) = ((decide (i < k) = true) ∧ (za fun j => some (.int .u8 (yy s j))) ∧ (za fun j => some (.int .u8 (yy s j))) ∧ (Goal P (2) 56 (fun v h => v = AV.str p ∧ h = RG s y2 x2 x2 G) (zf P 56 [.ptr 0 0 0] (RG s y x x G))) ∧ ((0 + 1 * 1 ≤ 1 ∧ ∀ (k : Nat), k < 1 * 1 → ∃ v, (T.leaf.node (some (AV.str p)) T.leaf).get (0 + k) = some v ∧ v.one = true) ∧ (0 : Nat) < 1 ∧ 0 + m * 1 ≤ z ∧ 0 ≤ 0 + m * 1 ∧ 0 = 0 * 1 ∧ xw (m + 1) (16) = true ∧ z < 0 + (m + 1) * 1) ∧ (xR (z') ((.fn fun j => some (pc' j))) ((.fn fun k => bif (0 + m * 1).ble k && k.blt (0 + m * 1 + 1 * 1) then (fun k => (T.leaf.node (some (AV.str p)) T.leaf).get (0 + k)) (k - (0 + m * 1)) else (T.fn fun c => some (pc c)).get k))) ∧ (z' = 0 + m * 1 + 1) ∧ (za fun j => some (.int .u8 (yy s j))) ∧ (za fun j => some (pc' j)) ∧ K (ALB pc' s t n k (IntKind.u64.wrap (i + (1 : Int))) x2 y2 (m + 1) z' G)) := by kernel_rfl
theorem lBb (R : AV → AHeap → Prop) (pc : Nat → AV) (s t : List UInt8) (n k i : Int) (x y m z : Nat) (G : T (T AV)) (_K : AM → Prop) : Obl P 25 (fun v h => R v h) 0 _K [.run 5, .know 25 true, .run 8, .callh [(1, 0, []), (3, 0, [0])] [0] (.str []) (RZ s G), .run 34, .callh [(1, 0, [])] [0] (.str []) (RB G), .run 1, .callh [] [0] (.tup [.nils 0 0, .int .i64 4]) ⟨.leaf, 0, G⟩, .run 11, .callh [(1, 0, [])] [0] (.int .u64 0) (RB G), .run 23, .can 0 [0] [2, 3] [], .run 1, .done] ((ALB pc s t n k i x y m z G)) = ((decide (i < k) = true) ∧ (za fun j => some (.int .u8 (yy s j))) ∧ (za fun j => some (.int .u8 (yy s j))) ∧ (Goal P (2) 56 (fun v h => v = AV.str [] ∧ h = RZ s G) (zf P 56 [.ptr 0 0 0] (RG s y x x G))) ∧ (Goal P (1) 56 (fun v h => v = AV.str [] ∧ h = RB G) (zf P 56 [.ptr 0 0 0] (RB G))) ∧ (Goal P (0) 19 (fun v h => v = AV.tup [AV.nils (0 : Nat) (0 : Nat), AV.int IntKind.i64 (4 : Int)] ∧ h = { objs := T.leaf, next := (0 : Nat), glob := G }) (zc P 19 [.str []] G)) ∧ (Goal P (1) 55 (fun v h => v = AV.int IntKind.u64 (0 : Int) ∧ h = RB G) (zf P 55 [.ptr 0 0 0] (RB G))) ∧ (R (.tup [.agg [.int .i64 0, .str [], .nils 0 0, .nils 0 0, .int .u64 0], .int .i64 4]) ((HR0 G)))) := by kernel_rfl
theorem eB1 (R : AV → AHeap → Prop) (pc : Nat → AV) (s t : List UInt8) (n k i : Int) (x y m z : Nat) (G : T (T AV)) (_K : AM → Prop) : Obl P 25 (fun v h => R v h) 0 _K [.run 5, .know 25 false, .run 6, .callh [(1, 0, []), (3, 0, [0])] [0] (.str []) (RZ s G), .run 1, .callh [] [0] (.tup [.nils 0 0, .int .i64 4]) ⟨.leaf, 0, G⟩, .run 11, .callh [(1, 0, [])] [0] (.int .u64 0) (RB G), .run 23, .can 0 [0] [2, 3] [], .run 1, .done] ((ALB pc s t n k i x y m z G)) = ((decide (i < k) = false) ∧ (za fun j => some (.int .u8 (yy s j))) ∧ (za fun j => some (.int .u8 (yy s j))) ∧ (Goal P (2) 56 (fun v h => v = AV.str [] ∧ h = RZ s G) (zf P 56 [.ptr 0 0 0] (RG s y x x G))) ∧ (Goal P (0) 19 (fun v h => v = AV.tup [AV.nils (0 : Nat) (0 : Nat), AV.int IntKind.i64 (4 : Int)] ∧ h = { objs := T.leaf, next := (0 : Nat), glob := G }) (zc P 19 [.str []] G)) ∧ (Goal P (1) 55 (fun v h => v = AV.int IntKind.u64 (0 : Int) ∧ h = RB G) (zf P 55 [.ptr 0 0 0] (RB G))) ∧ (R (.tup [.agg [.int .i64 0, .str [], .nils 0 0, .nils 0 0, .int .u64 0], .int .i64 4]) ((HR0 G)))) := by kernel_rfl
theorem eB2 (R : AV → AHeap → Prop) (pc : Nat → AV) (s t u : List UInt8) (n k i nu : Int) (x y x2 y2 x3 y3 m z : Nat) (G : T (T AV)) (_K : AM → Prop) : Obl P 25 (fun v h => R v h) 0 _K [.run 5, .know 25 false, .run 6, .callh [(1, 0, []), (3, 0, [0])] [0] (.str u) (RG s y2 x2 x2 G), .run 1, .callh [] [0] (.tup [.nils 0 0, .int .i64 4]) ⟨.leaf, 0, G⟩, .run 11, .callh [(1, 0, []), (3, 0, [0])] [0] (.int .u64 nu) (RG s y3 x3 x3 G), .run 23, .can 0 [0] [2, 3] [], .run 1, .done] ((ALB pc s t n k i x y m z G)) = ((decide (i < k) = false) ∧ (za fun j => some (.int .u8 (yy s j))) ∧ (za fun j => some (.int .u8 (yy s j))) ∧ (Goal P (2) 56 (fun v h => v = AV.str u ∧ h = RG s y2 x2 x2 G) (zf P 56 [.ptr 0 0 0] (RG s y x x G))) ∧ (Goal P (0) 19 (fun v h => v = AV.tup [AV.nils (0 : Nat) (0 : Nat), AV.int IntKind.i64 (4 : Int)] ∧ h = { objs := T.leaf, next := (0 : Nat), glob := G }) (zc P 19 [.str u] G)) ∧ (za fun j => some (.int .u8 (yy s j))) ∧ (za fun j => some (.int .u8 (yy s j))) ∧ (Goal P (2) 55 (fun v h => v = AV.int IntKind.u64 nu ∧ h = RG s y3 x3 x3 G) (zf P 55 [.ptr 0 0 0] (RG s y2 x2 x2 G))) ∧ (R (.tup [.agg [.int .i64 0, .str [], .nils 0 0, .nils 0 0, .int .u64 0], .int .i64 4]) ((HR0 G)))) := by kernel_rfl
theorem eB3 (R : AV → AHeap → Prop) (pc : Nat → AV) (s t u : List UInt8) (n k i : Int) (x y x2 y2 m z : Nat) (G : T (T AV)) (_K : AM → Prop) : Obl P 25 (fun v h => R v h) 0 _K [.run 5, .know 25 false, .run 6, .callh [(1, 0, []), (3, 0, [0])] [0] (.str u) (RG s y2 x2 x2 G), .run 1, .callh [] [0] (.tup [.nils 0 0, .int .i64 4]) ⟨.leaf, 0, G⟩, .run 11, .callh [(1, 0, []), (3, 0, [0])] [0] (.int .u64 0) (RZ s G), .run 23, .can 0 [0] [2, 3] [], .run 1, .done] ((ALB pc s t n k i x y m z G)) = ((decide (i < k) = false) ∧ (za fun j => some (.int .u8 (yy s j))) ∧ (za fun j => some (.int .u8 (yy s j))) ∧ (Goal P (2) 56 (fun v h => v = AV.str u ∧ h = RG s y2 x2 x2 G) (zf P 56 [.ptr 0 0 0] (RG s y x x G))) ∧ (Goal P (0) 19 (fun v h => v = AV.tup [AV.nils (0 : Nat) (0 : Nat), AV.int IntKind.i64 (4 : Int)] ∧ h = { objs := T.leaf, next := (0 : Nat), glob := G }) (zc P 19 [.str u] G)) ∧ (za fun j => some (.int .u8 (yy s j))) ∧ (za fun j => some (.int .u8 (yy s j))) ∧ (Goal P (2) 55 (fun v h => v = AV.int IntKind.u64 (0 : Int) ∧ h = RZ s G) (zf P 55 [.ptr 0 0 0] (RG s y2 x2 x2 G))) ∧ (R (.tup [.agg [.int .i64 0, .str [], .nils 0 0, .nils 0 0, .int .u64 0], .int .i64 4]) ((HR0 G)))) := by kernel_rfl
theorem eBnb (R : AV → AHeap → Prop) (pc : Nat → AV) (s t u : List UInt8) (n k i : Int) (x y x2 y2 m z : Nat) (G : T (T AV)) (_K : AM → Prop) : Obl P 25 (fun v h => R v h) 0 _K [.run 5, .know 25 false, .run 6, .callh [(1, 0, []), (3, 0, [0])] [0] (.str u) (RG s y2 x2 x2 G), .run 1, .callh [] [0] (.tup [.nils 0 0, .int .i64 0]) ⟨.leaf, 0, G⟩, .run 11, .callh [(1, 0, []), (3, 0, [0])] [0] (.int .u64 0) (RZ s G), .run 62, .can 0 [0] [2, 3] [], .run 1, .done] ((ALB pc s t n k i x y m z G)) = ((decide (i < k) = false) ∧ (za fun j => some (.int .u8 (yy s j))) ∧ (za fun j => some (.int .u8 (yy s j))) ∧ (Goal P (2) 56 (fun v h => v = AV.str u ∧ h = RG s y2 x2 x2 G) (zf P 56 [.ptr 0 0 0] (RG s y x x G))) ∧ (Goal P (0) 19 (fun v h => v = AV.tup [AV.nils (0 : Nat) (0 : Nat), AV.int IntKind.i64 (0 : Int)] ∧ h = { objs := T.leaf, next := (0 : Nat), glob := G }) (zc P 19 [.str u] G)) ∧ (za fun j => some (.int .u8 (yy s j))) ∧ (za fun j => some (.int .u8 (yy s j))) ∧ (Goal P (2) 55 (fun v h => v = AV.int IntKind.u64 (0 : Int) ∧ h = RZ s G) (zf P 55 [.ptr 0 0 0] (RG s y2 x2 x2 G))) ∧ (R (.tup [.agg [.int .i64 0, .str [], .nils 0 0, .nils 0 0, .int .u64 0], .int .i64 4]) ((HR0 G)))) := by kernel_rfl
theorem eBnx (R : AV → AHeap → Prop) (pc : Nat → AV) (s t u : List UInt8) (n k i nu : Int) (x y x2 y2 x3 y3 m z : Nat) (G : T (T AV)) (_K : AM → Prop) : Obl P 25 (fun v h => R v h) 0 _K [.run 5, .know 25 false, .run 6, .callh [(1, 0, []), (3, 0, [0])] [0] (.str u) (RG s y2 x2 x2 G), .run 1, .callh [] [0] (.tup [.nils 0 0, .int .i64 0]) ⟨.leaf, 0, G⟩, .run 11, .callh [(1, 0, []), (3, 0, [0])] [0] (.int .u64 nu) (RG s y3 x3 x3 G), .run 55, .know 55 true, .run 7, .can 0 [0] [2, 3] [], .run 1, .done] ((ALB pc s t n k i x y m z G)) = ((decide (i < k) = false) ∧ (za fun j => some (.int .u8 (yy s j))) ∧ (za fun j => some (.int .u8 (yy s j))) ∧ (Goal P (2) 56 (fun v h => v = AV.str u ∧ h = RG s y2 x2 x2 G) (zf P 56 [.ptr 0 0 0] (RG s y x x G))) ∧ (Goal P (0) 19 (fun v h => v = AV.tup [AV.nils (0 : Nat) (0 : Nat), AV.int IntKind.i64 (0 : Int)] ∧ h = { objs := T.leaf, next := (0 : Nat), glob := G }) (zc P 19 [.str u] G)) ∧ (za fun j => some (.int .u8 (yy s j))) ∧ (za fun j => some (.int .u8 (yy s j))) ∧ (Goal P (2) 55 (fun v h => v = AV.int IntKind.u64 nu ∧ h = RG s y3 x3 x3 G) (zf P 55 [.ptr 0 0 0] (RG s y2 x2 x2 G))) ∧ ((!(↑x3 : Int) == (0 : Int)) = true) ∧ (R (.tup [.agg [.int .i64 0, .str [], .nils 0 0, .nils 0 0, .int .u64 0], .int .i64 4]) ((HR0 G)))) := by kernel_rfl
theorem eBnz (R : AV → AHeap → Prop) (pc : Nat → AV) (s t u : List UInt8) (n k i nu : Int) (x y x2 y2 y3 m z : Nat) (G : T (T AV)) (_K : AM → Prop) : Obl P 25 (fun v h => R v h) 0 _K [.run 5, .know 25 false, .run 6, .callh [(1, 0, []), (3, 0, [0])] [0] (.str u) (RG s y2 x2 x2 G), .run 1, .callh [] [0] (.tup [.nils 0 0, .int .i64 0]) ⟨.leaf, 0, G⟩, .run 11, .callh [(1, 0, []), (3, 0, [0])] [0] (.int .u64 nu) (RG s y3 0 0 G), .run 63, .can 0 [0, 4] [2, 3] [], .run 1, .done] ((ALB pc s t n k i x y m z G)) = ((decide (i < k) = false) ∧ (za fun j => some (.int .u8 (yy s j))) ∧ (za fun j => some (.int .u8 (yy s j))) ∧ (Goal P (2) 56 (fun v h => v = AV.str u ∧ h = RG s y2 x2 x2 G) (zf P 56 [.ptr 0 0 0] (RG s y x x G))) ∧ (Goal P (0) 19 (fun v h => v = AV.tup [AV.nils (0 : Nat) (0 : Nat), AV.int IntKind.i64 (0 : Int)] ∧ h = { objs := T.leaf, next := (0 : Nat), glob := G }) (zc P 19 [.str u] G)) ∧ (za fun j => some (.int .u8 (yy s j))) ∧ (za fun j => some (.int .u8 (yy s j))) ∧ (Goal P (2) 55 (fun v h => v = AV.int IntKind.u64 nu ∧ h = RG s y3 (0 : Nat) (0 : Nat) G) (zf P 55 [.ptr 0 0 0] (RG s y2 x2 x2 G))) ∧ (za fun c => some (pc c)) ∧ (R (.tup [.agg [.int .i64 n, .str t, .slg 1 0 0 m 0, .nils 0 0, .int .u64 nu], .int .i64 0]) (⟨(.node (.node .leaf (some (.cells (.fn fun c => some (pc c)) z 9 0 0 1 0 false .leaf)) .leaf) (some (.cells (.node (.node (.node .leaf (some (.nils 0 0)) .leaf) (some (.str t)) .leaf) (some (.int .i64 n)) (.node (.node .leaf (some (.int .u64 nu)) .leaf) (some (.slg 1 0 0 m 0)) .leaf)) 5 45 0 0 1 0 false .leaf)) .leaf), 2, G⟩))) := by kernel_rfl
theorem eBrb (R : AV → AHeap → Prop) (cell pc : Nat → AV) (s t u : List UInt8) (n k i : Int) (x y x2 y2 m m' z zd : Nat) (G : T (T AV)) (_K : AM → Prop) : Obl P 25 (fun v h => R v h) 0 _K [.run 5, .know 25 false, .run 6, .callh [(1, 0, []), (3, 0, [0])] [0] (.str u) (RG s y2 x2 x2 G), .run 1, .callh [] [0] (.tup [.slg 0 0 0 m' 0, .int .i64 0]) ⟨(.node .leaf (some (.cells (.fn fun j => some (cell j)) zd 35 0 0 1 0 false .leaf)) .leaf), 1, G⟩, .run 11, .callh [(1, 0, []), (3, 0, [0])] [0] (.int .u64 0) (RZ s G), .run 62, .can 0 [0] [2, 3] [], .run 1, .done] ((ALB pc s t n k i x y m z G)) = ((decide (i < k) = false) ∧ (za fun j => some (.int .u8 (yy s j))) ∧ (za fun j => some (.int .u8 (yy s j))) ∧ (Goal P (2) 56 (fun v h => v = AV.str u ∧ h = RG s y2 x2 x2 G) (zf P 56 [.ptr 0 0 0] (RG s y x x G))) ∧ (za fun j => some (cell j)) ∧ (Goal P (0) 19 (fun v h => v = AV.tup [AV.slg (0 : Nat) (0 : Nat) (0 : Nat) m' (0 : Nat), AV.int IntKind.i64 (0 : Int)] ∧ h = { objs := T.leaf.node (some (AObj.cells (T.fn fun j => some (cell j)) zd (35 : TypeId) (0 : Nat) (0 : Nat) (1 : Nat) (0 : Nat) false T.leaf)) T.leaf, next := (1 : Nat), glob := G }) (zc P 19 [.str u] G)) ∧ (za fun j => some (.int .u8 (yy s j))) ∧ (za fun j => some (.int .u8 (yy s j))) ∧ (Goal P (2) 55 (fun v h => v = AV.int IntKind.u64 (0 : Int) ∧ h = RZ s G) (zf P 55 [.ptr 0 0 0] (RG s y2 x2 x2 G))) ∧ (R (.tup [.agg [.int .i64 0, .str [], .nils 0 0, .nils 0 0, .int .u64 0], .int .i64 4]) ((HR0 G)))) := by kernel_rfl
theorem eBrx (R : AV → AHeap → Prop) (cell pc : Nat → AV) (s t u : List UInt8) (n k i nu : Int) (x y x2 y2 x3 y3 m m' z zd : Nat) (G : T (T AV)) (_K : AM → Prop) : Obl P 25 (fun v h => R v h) 0 _K [.run 5, .know 25 false, .run 6, .callh [(1, 0, []), (3, 0, [0])] [0] (.str u) (RG s y2 x2 x2 G), .run 1, .callh [] [0] (.tup [.slg 0 0 0 m' 0, .int .i64 0]) ⟨(.node .leaf (some (.cells (.fn fun j => some (cell j)) zd 35 0 0 1 0 false .leaf)) .leaf), 1, G⟩, .run 11, .callh [(1, 0, []), (3, 0, [0])] [0] (.int .u64 nu) (RG s y3 x3 x3 G), .run 55, .know 55 true, .run 7, .can 0 [0] [2, 3] [], .run 1, .done] ((ALB pc s t n k i x y m z G)) = ((decide (i < k) = false) ∧ (za fun j => some (.int .u8 (yy s j))) ∧ (za fun j => some (.int .u8 (yy s j))) ∧ (Goal P (2) 56 (fun v h => v = AV.str u ∧ h = RG s y2 x2 x2 G) (zf P 56 [.ptr 0 0 0] (RG s y x x G))) ∧ (za fun j => some (cell j)) ∧ (Goal P (0) 19 (fun v h => v = AV.tup [AV.slg (0 : Nat) (0 : Nat) (0 : Nat) m' (0 : Nat), AV.int IntKind.i64 (0 : Int)] ∧ h = { objs := T.leaf.node (some (AObj.cells (T.fn fun j => some (cell j)) zd (35 : TypeId) (0 : Nat) (0 : Nat) (1 : Nat) (0 : Nat) false T.leaf)) T.leaf, next := (1 : Nat), glob := G }) (zc P 19 [.str u] G)) ∧ (za fun j => some (.int .u8 (yy s j))) ∧ (za fun j => some (.int .u8 (yy s j))) ∧ (Goal P (2) 55 (fun v h => v = AV.int IntKind.u64 nu ∧ h = RG s y3 x3 x3 G) (zf P 55 [.ptr 0 0 0] (RG s y2 x2 x2 G))) ∧ ((!(↑x3 : Int) == (0 : Int)) = true) ∧ (R (.tup [.agg [.int .i64 0, .str [], .nils 0 0, .nils 0 0, .int .u64 0], .int .i64 4]) ((HR0 G)))) := by kernel_rfl
theorem eBrz (R : AV → AHeap → Prop) (cell pc : Nat → AV) (s t u : List UInt8) (n k i nu : Int) (x y x2 y2 y3 m m' z zd : Nat) (G : T (T AV)) (_K : AM → Prop) : Obl P 25 (fun v h => R v h) 0 _K [.run 5, .know 25 false, .run 6, .callh [(1, 0, []), (3, 0, [0])] [0] (.str u) (RG s y2 x2 x2 G), .run 1, .callh [] [0] (.tup [.slg 0 0 0 m' 0, .int .i64 0]) ⟨(.node .leaf (some (.cells (.fn fun j => some (cell j)) zd 35 0 0 1 0 false .leaf)) .leaf), 1, G⟩, .run 11, .callh [(1, 0, []), (3, 0, [0])] [0] (.int .u64 nu) (RG s y3 0 0 G), .run 63, .can 0 [0, 5, 4] [2, 3] [], .run 1, .done] ((ALB pc s t n k i x y m z G)) = ((decide (i < k) = false) ∧ (za fun j => some (.int .u8 (yy s j))) ∧ (za fun j => some (.int .u8 (yy s j))) ∧ (Goal P (2) 56 (fun v h => v = AV.str u ∧ h = RG s y2 x2 x2 G) (zf P 56 [.ptr 0 0 0] (RG s y x x G))) ∧ (za fun j => some (cell j)) ∧ (Goal P (0) 19 (fun v h => v = AV.tup [AV.slg (0 : Nat) (0 : Nat) (0 : Nat) m' (0 : Nat), AV.int IntKind.i64 (0 : Int)] ∧ h = { objs := T.leaf.node (some (AObj.cells (T.fn fun j => some (cell j)) zd (35 : TypeId) (0 : Nat) (0 : Nat) (1 : Nat) (0 : Nat) false T.leaf)) T.leaf, next := (1 : Nat), glob := G }) (zc P 19 [.str u] G)) ∧ (za fun j => some (.int .u8 (yy s j))) ∧ (za fun j => some (.int .u8 (yy s j))) ∧ (Goal P (2) 55 (fun v h => v = AV.int IntKind.u64 nu ∧ h = RG s y3 (0 : Nat) (0 : Nat) G) (zf P 55 [.ptr 0 0 0] (RG s y2 x2 x2 G))) ∧ (za fun j => some (cell j)) ∧ (za fun c => some (pc c)) ∧ (R (.tup [.agg [.int .i64 n, .str t, .slg 2 0 0 m 0, .slg 1 0 0 m' 0, .int .u64 nu], .int .i64 0]) (⟨(.node (.node .leaf (some (.cells (.fn fun j => some (cell j)) zd 35 0 0 1 0 false .leaf)) .leaf) (some (.cells (.node (.node (.node .leaf (some (.slg 1 0 0 m' 0)) .leaf) (some (.str t)) .leaf) (some (.int .i64 n)) (.node (.node .leaf (some (.int .u64 nu)) .leaf) (some (.slg 2 0 0 m 0)) .leaf)) 5 45 0 0 1 0 false .leaf)) (.node .leaf (some (.cells (.fn fun c => some (pc c)) z 9 0 0 1 0 false .leaf)) .leaf)), 3, G⟩))) := by kernel_rfl
theorem zmw (s : List UInt8) (Q : AV → AHeap → Prop) (G : T (T AV)) (K : AM → Prop) : Obl P 25 Q 0 K [.cap 1 0] (AN (.slg 2 0 0 s.length 0) s G) = (0 < s.length ∧ ∀ cap, s.length ≤ cap → K (AN (.slc 2 0 0 s.length cap) s G)) := by kernel_rfl
def es (g : Nat → List UInt8) (j : Nat) : AV := .str (g j)
theorem qg (g : Nat → List UInt8) : za fun j => some (es g j) := by
 intro k v h
 cases h
 rfl
theorem zl7 (p : List UInt8) : xR 1 (.fn fun j => some (es (fun _ => p) j)) (.node .leaf (some (.str p)) .leaf) := by
 intro k v hk h
 obtain rfl : k = 0 := by omega
 exact h
theorem zlQ (g : Nat → List UInt8) (m : Nat) (p : List UInt8) :
 xR (0 + m * 1 + 1) (.fn fun j => some (es (upd g m p) j)) (.fn fun k => bif (0 + m * 1).ble k && k.blt (0 + m * 1 + 1 * 1) then (fun k => (T.leaf.node (some (AV.str p)) T.leaf).get (0 + k)) (k - (0 + m * 1)) else (T.fn fun j => some (es g j)).get k) := by
 intro k v hk h
 have h : some (es (upd g m p) k) = some v := h
 rw [← h]
 show (bif (0 + m * 1).ble k && k.blt (0 + m * 1 + 1 * 1) then (T.leaf.node (some (AV.str p)) T.leaf).get (0 + (k - (0 + m * 1))) else some (es g k)) = _
 by_cases hin : k = m
 · have e : ((0 + m * 1).ble k && k.blt (0 + m * 1 + 1 * 1)) = true := by
    rw [Bool.and_eq_true, Nat.ble_eq, Nat.blt_eq]; omega
   have e2 : 0 + (k - (0 + m * 1)) = 0 := by omega
   rw [e, cond_true, e2]
   show some (AV.str p) = _
   unfold es upd
   rw [if_pos hin]
 · have e : ((0 + m * 1).ble k && k.blt (0 + m * 1 + 1 * 1)) = false := by
    rw [← Bool.not_eq_true, Bool.and_eq_true, Nat.ble_eq, Nat.blt_eq]; omega
   rw [e, cond_false]
   unfold es upd
   rw [if_neg hin]
def zz (p : List UInt8) : List UInt8 := row (p.length : Nat) ++ p
noncomputable def vw (k : Int) (t : List UInt8) (ps : List (List UInt8)) (ms : List Dg) (nu : Int) : List UInt8 :=
 row k ++ (row (t.length : Nat) ++ (t ++ (row (ps.length : Nat) ++ (ps.flatMap zz ++ (row ((zX ms).length : Nat) ++ (zX ms ++ row nu))))))
abbrev ziZ (m : AM) : Prop := Goal P 0 25 (fun v h => v = .tup [.agg [.int .i64 0, .str [], .nils 0 0, .nils 0 0, .int .u64 0], .int .i64 4] ∧ h = HR0 GW) m
theorem yB : Bad (zc P 19 [.str []] GW) := zeH (by simp) fun l _ h => by
 have := zbn l
 rw [h] at this
 simp at this
section
variable {s : List UInt8}
def NoR (s : List UInt8) : Prop := ∀ k t ps ms nu, 0 ≤ k → k ≤ 14 → So ms ms → 0 ≤ nu → nu ≤ 18446744073709551615 → vw k t ps ms nu ≠ s
theorem an_B (hs : s.length ≤ 200000) (hno : NoR s) {code : Int} (hc0 : 0 ≤ code) (hc1 : code ≤ 14) {t : List UInt8} {k : Int} (x : Nat) : ∀ (y m z : Nat) (g : Nat → List UInt8), St s x y → 0 < m → z = m * 1 → m + x ≤ s.length → (m : Int) ≤ k →
 s = row code ++ (row (t.length : Nat) ++ (t ++ (row k ++ ((sl g 0 m).flatMap zz ++ mq.ahead s x)))) → ziZ (ALB (es g) s t code k (m : Int) x y m z GW) := by
 induction x using Nat.strongRecOn with
 | _ x ih =>
  intro y m z g st hm hz hmx hmk hpre
  subst hz
  have hx := st.1
  by_cases hi : (m : Int) < k
  · rcases yM hs st (Nat.le_refl _) with ⟨p, x2, y2, g1, s2, e1⟩ | g1
    · have hl := ye st
      have hl2 := ye s2
      have hr := zm (p.length : Nat)
      rw [e1] at hl
      simp only [List.length_append] at hl
      rw [hl2] at hl
      have hih := ih x2 (by omega) y2 (m + 1) (0 + m * 1 + 1) (upd g m p) s2 (by omega) (by omega) (by omega) (by omega) (by
       conv => lhs; rw [hpre]
       rw [e1, vh, Nat.zero_add, List.flatMap_append, List.flatMap_cons, List.flatMap_nil, List.append_nil]
       have u1 : upd g m p m = p := by unfold upd; rw [if_pos rfl]
       have u2 : sl (upd g m p) 0 m = sl g 0 m := yi m 0 fun t h1 h2 => by unfold upd; rw [if_neg (by omega)]
       rw [u1, u2]
       unfold zz
       simp only [List.append_assoc])
      exact Obl.goal (K := Goal P 0 25 _) mix (fun _ h => h) (cast (lBg _ (es g) (es (upd g m p)) _ _ (p) _ _ _ _ _ _ _ _ _ _ GW _).symm ⟨decide_eq_true hi, zb s, zb s, g1, ⟨⟨by omega, fun k hk => by
       obtain rfl : k = 0 := by omega
       exact ⟨_, rfl, rfl⟩⟩, by omega, by omega, by omega, by omega, by
        unfold xw
        rw [Bool.and_eq_true, Nat.ble_eq, Nat.blt_eq]
        constructor <;> omega, by omega⟩, zlQ g m p, rfl, zb s, qg _, by rw [up64 m (by omega)]; exact hih⟩)
    · exact Obl.goal (K := Goal P 0 25 _) mix (fun _ h => h) (cast (lBb _ (es g) _ _ _ _ _ _ _ _ _ GW _).symm ⟨decide_eq_true hi, zb s, zb s, g1, qL, yB, zcI, rfl, rfl⟩)
  · have hk : k = (m : Int) := by omega
    rcases yM hs st (Nat.le_refl _) with ⟨u, x2, y2, g1, s2, e1⟩ | g1
    · have hu : u.length ≤ 200000 := by
       have := ye st
       rw [e1] at this
       simp only [List.length_append] at this
       have := st.1
       omega
      by_cases hex : ∃ l, So l l ∧ zX l = u
      · obtain ⟨ms, hm, he⟩ := hex
        rcases vj hs s2 (Nat.le_refl _) with ⟨nu, x3, y3, g2, s3, v0, v1, e2⟩ | g2
        · by_cases hx : x3 = 0
          · subst hx
            exfalso
            apply hno code t (sl g 0 m) ms nu hc0 hc1 hm v0 v1
            rw [vw, he, hpre, e1, e2, zax, List.append_nil]
            rw [qV, hk]
          · rcases zba hu hm he with ⟨_, hg⟩ | ⟨_, f1, _, hg⟩
            · exact Obl.goal (K := Goal P 0 25 _) mix (fun _ h => h) (cast (eBnx _ (es g) _ _ _ _ _ _ _ _ _ _ _ _ _ _ _ GW _).symm ⟨decide_eq_false hi, zb s, zb s, g1, hg, zb s, zb s, g2, nzT (by omega), rfl, rfl⟩)
            · exact Obl.goal (K := Goal P 0 25 _) mix (fun _ h => h) (cast (eBrx _ (el f1) (es g) _ _ _ _ _ _ _ _ _ _ _ _ _ _ _ _ _ GW _).symm ⟨decide_eq_false hi, zb s, zb s, g1, zg _, hg, zb s, zb s, g2, nzT (by omega), rfl, rfl⟩)
        · rcases zba hu hm he with ⟨_, hg⟩ | ⟨_, f1, _, hg⟩
          · exact Obl.goal (K := Goal P 0 25 _) mix (fun _ h => h) (cast (eBnb _ (es g) _ _ _ _ _ _ _ _ _ _ _ _ GW _).symm ⟨decide_eq_false hi, zb s, zb s, g1, hg, zb s, zb s, g2, rfl, rfl⟩)
          · exact Obl.goal (K := Goal P 0 25 _) mix (fun _ h => h) (cast (eBrb _ (el f1) (es g) _ _ _ _ _ _ _ _ _ _ _ _ _ _ GW _).symm ⟨decide_eq_false hi, zb s, zb s, g1, zg _, hg, zb s, zb s, g2, rfl, rfl⟩)
      · have hg := zeH hu fun l hl he => hex ⟨l, hl, he⟩
        rcases vj hs s2 (Nat.le_refl _) with ⟨nu, x3, y3, g2, s3, v0, v1, e2⟩ | g2
        · exact Obl.goal (K := Goal P 0 25 _) mix (fun _ h => h) (cast (eB2 _ (es g) _ _ _ _ _ _ _ _ _ _ _ _ _ _ _ GW _).symm ⟨decide_eq_false hi, zb s, zb s, g1, hg, zb s, zb s, g2, rfl, rfl⟩)
        · exact Obl.goal (K := Goal P 0 25 _) mix (fun _ h => h) (cast (eB3 _ (es g) _ _ _ _ _ _ _ _ _ _ _ _ GW _).symm ⟨decide_eq_false hi, zb s, zb s, g1, hg, zb s, zb s, g2, rfl, rfl⟩)
    · exact Obl.goal (K := Goal P 0 25 _) mix (fun _ h => h) (cast (eB1 _ (es g) _ _ _ _ _ _ _ _ _ GW _).symm ⟨decide_eq_false hi, zb s, zb s, g1, yB, zcI, rfl, rfl⟩)
theorem an_A (hs : s.length ≤ 200000) (hno : NoR s) {code : Int} (hc0 : 0 ≤ code) (hc1 : code ≤ 14) {t : List UInt8} {k : Int} {x y : Nat} (st : St s x y) (hk0 : 0 ≤ k)
 (hpre : s = row code ++ (row (t.length : Nat) ++ (t ++ (row k ++ mq.ahead s x)))) : ziZ (ALA s t code k 0 x y GW) := by
 have hx := st.1
 by_cases hi : (0 : Int) < k
 · rcases yM hs st (Nat.le_refl _) with ⟨p, x2, y2, g1, s2, e1⟩ | g1
   · have hl := ye st
     have hl2 := ye s2
     have hr := zm (p.length : Nat)
     rw [e1] at hl
     simp only [List.length_append] at hl
     rw [hl2] at hl
     have hB := an_B hs hno hc0 hc1 (t := t) (k := k) x2 y2 1 1 (fun _ => p) s2 (by omega) (by omega) (by omega) (by omega) (by
      conv => lhs; rw [hpre]
      rw [e1]
      show _ = row code ++ (row (t.length : Nat) ++ (t ++ (row k ++ ((zz p ++ []) ++ mq.ahead s x2))))
      unfold zz
      simp only [List.append_assoc, List.append_nil])
     exact Obl.goal (K := Goal P 0 25 _) mix (fun _ h => h) (cast (lAg _ (es (fun _ => p)) _ _ (p) _ _ _ _ _ _ _ (1) GW _).symm ⟨decide_eq_true hi, zb s, zb s, g1, zl7 p, rfl, zb s, qg _, hB⟩)
   · exact Obl.goal (K := Goal P 0 25 _) mix (fun _ h => h) (cast (lAb _ _ _ _ _ _ _ _ GW _).symm ⟨decide_eq_true hi, zb s, zb s, g1, qL, yB, zcI, rfl, rfl⟩)
 · have hk : k = 0 := by omega
   rcases yM hs st (Nat.le_refl _) with ⟨u, x2, y2, g1, s2, e1⟩ | g1
   · have hu : u.length ≤ 200000 := by
      have := ye st
      rw [e1] at this
      simp only [List.length_append] at this
      have := st.1
      omega
     by_cases hex : ∃ l, So l l ∧ zX l = u
     · obtain ⟨ms, hm, he⟩ := hex
       rcases vj hs s2 (Nat.le_refl _) with ⟨nu, x3, y3, g2, s3, v0, v1, e2⟩ | g2
       · by_cases hx : x3 = 0
         · subst hx
           exfalso
           apply hno code t ([]) ms nu hc0 hc1 hm v0 v1
           rw [vw, he, hpre, e1, e2, zax, List.append_nil]
           (rw [hk]; rfl)
         · rcases zba hu hm he with ⟨_, hg⟩ | ⟨_, f1, _, hg⟩
           · exact Obl.goal (K := Goal P 0 25 _) mix (fun _ h => h) (cast (eAnx _ _ _ _ _ _ _ _ _ _ _ _ _ _ GW _).symm ⟨decide_eq_false hi, zb s, zb s, g1, hg, zb s, zb s, g2, nzT (by omega), rfl, rfl⟩)
           · exact Obl.goal (K := Goal P 0 25 _) mix (fun _ h => h) (cast (eArx _ (el f1) _ _ _ _ _ _ _ _ _ _ _ _ _ _ _ GW _).symm ⟨decide_eq_false hi, zb s, zb s, g1, zg _, hg, zb s, zb s, g2, nzT (by omega), rfl, rfl⟩)
       · rcases zba hu hm he with ⟨_, hg⟩ | ⟨_, f1, _, hg⟩
         · exact Obl.goal (K := Goal P 0 25 _) mix (fun _ h => h) (cast (eAnb _ _ _ _ _ _ _ _ _ _ _ GW _).symm ⟨decide_eq_false hi, zb s, zb s, g1, hg, zb s, zb s, g2, rfl, rfl⟩)
         · exact Obl.goal (K := Goal P 0 25 _) mix (fun _ h => h) (cast (eArb _ (el f1) _ _ _ _ _ _ _ _ _ _ _ _ GW _).symm ⟨decide_eq_false hi, zb s, zb s, g1, zg _, hg, zb s, zb s, g2, rfl, rfl⟩)
     · have hg := zeH hu fun l hl he => hex ⟨l, hl, he⟩
       rcases vj hs s2 (Nat.le_refl _) with ⟨nu, x3, y3, g2, s3, v0, v1, e2⟩ | g2
       · exact Obl.goal (K := Goal P 0 25 _) mix (fun _ h => h) (cast (eA2 _ _ _ _ _ _ _ _ _ _ _ _ _ _ GW _).symm ⟨decide_eq_false hi, zb s, zb s, g1, hg, zb s, zb s, g2, rfl, rfl⟩)
       · exact Obl.goal (K := Goal P 0 25 _) mix (fun _ h => h) (cast (eA3 _ _ _ _ _ _ _ _ _ _ _ GW _).symm ⟨decide_eq_false hi, zb s, zb s, g1, hg, zb s, zb s, g2, rfl, rfl⟩)
   · exact Obl.goal (K := Goal P 0 25 _) mix (fun _ h => h) (cast (eA1 _ _ _ _ _ _ _ _ GW _).symm ⟨decide_eq_false hi, zb s, zb s, g1, yB, zcI, rfl, rfl⟩)
theorem zhl (h0 : 0 < s.length) {Q : AV → AHeap → Prop} (h : ∀ cap, s.length ≤ cap → Goal P 0 25 Q (AN (.slc 2 0 0 s.length cap) s GW)) : Goal P 0 25 Q (zc P 25 [.str s] GW) :=
 Obl.goal (K := Goal P 0 25 _) mix (fun _ h => h) (cast (a0 _ _ GW _).symm ⟨zb s, zcp 0 s, zb s, Obl.goal (K := Goal P 0 25 _) mix (fun _ h => h) (cast (zmw s _ GW _).symm ⟨h0, h⟩)⟩)
theorem zjm (hs : s.length ≤ 200000) (hno : NoR s) : ziZ (zc P 25 [.str s] GW) := by
 by_cases h0 : 0 < s.length
 · refine zhl h0 fun cap hcap => ?_
   rcases vj hs (st0 s) hcap with ⟨n, x1, y1, g0, s1, n0, n1, e0⟩ | g0
   · by_cases hn : n > 14
     · exact Obl.goal (K := Goal P 0 25 _) mix (fun _ h => h) (cast (s2 _ (s) _ (s.length) (cap) _ _ GW _).symm ⟨zb s, zb s, g0, decide_eq_true hn, rfl, rfl⟩)
     · have w : IntKind.i64.wrap n = n := IntWalk.i64_in _ (by omega)
       rcases yM hs s1 (Nat.le_refl _) with ⟨t, x2, y2, g1, s2, e1⟩ | g1
       · rcases vj hs s2 (Nat.le_refl _) with ⟨k, x3, y3, g2, s3, k0, k1, e2⟩ | g2
         · exact Obl.goal (K := Goal P 0 25 _) mix (fun _ h => h) (cast (s5 _ (s) _ _ _ (s.length) (cap) _ _ _ _ _ _ GW _).symm ⟨zb s, zb s, g0, decide_eq_false hn, zb s, zb s, g1, zb s, zb s, g2, zb s, by rw [w]; exact an_A hs hno n0 (by omega) s3 k0 (by rw [← e2, ← e1, ← e0, vA])⟩)
         · exact Obl.goal (K := Goal P 0 25 _) mix (fun _ h => h) (cast (s4 _ (s) _ _ (s.length) (cap) _ _ _ _ GW _).symm ⟨zb s, zb s, g0, decide_eq_false hn, zb s, zb s, g1, zb s, zb s, g2, qL, yB, zcI, rfl, rfl⟩)
       · exact Obl.goal (K := Goal P 0 25 _) mix (fun _ h => h) (cast (s3 _ (s) _ (s.length) (cap) _ _ GW _).symm ⟨zb s, zb s, g0, decide_eq_false hn, zb s, zb s, g1, zcI, qL, yB, zcI, rfl, rfl⟩)
   · exact Obl.goal (K := Goal P 0 25 _) mix (fun _ h => h) (cast (s1 _ (s) (s.length) (cap) GW _).symm ⟨zb s, zb s, g0, qL, zcI, qL, yB, zcI, rfl, rfl⟩)
 · obtain rfl : s = [] := List.eq_nil_of_length_eq_zero (by omega)
   exact Obl.goal (K := Goal P 0 25 _) mix (fun _ h => h) (cast (aE _ GW _).symm ⟨rfl, rfl⟩)
end
end Go.Proofs.YtdbfpjgnlfejmaaDoor.dg
end
section
set_option maxRecDepth 100000
set_option linter.unusedVariables false
namespace Go.Proofs.YtdbfpjgnlfejmaaDoor.dg
open Go Ev mq
noncomputable def HRn (k : Int) (t : List UInt8) (nu : Int) (G : T (T AV)) : AHeap := ⟨(.node .leaf (some (.cells (.node (.node (.node .leaf (some (.nils 0 0)) .leaf) (some (.str t)) .leaf) (some (.int .i64 k)) (.node (.node .leaf (some (.int .u64 nu)) .leaf) (some (.nils 0 0)) .leaf)) 5 45 0 0 1 0 false .leaf)) .leaf), 1, G⟩
noncomputable def HRd (k : Int) (t : List UInt8) (nu : Int) (f : Nat → Dg) (m : Nat) (G : T (T AV)) : AHeap := ⟨(.node (.node .leaf (some (.cells (.fn fun c => some (el f c)) (m * 3) 35 0 0 1 0 false .leaf)) .leaf) (some (.cells (.node (.node (.node .leaf (some (.slg 1 0 0 m 0)) .leaf) (some (.str t)) .leaf) (some (.int .i64 k)) (.node (.node .leaf (some (.int .u64 nu)) .leaf) (some (.nils 0 0)) .leaf)) 5 45 0 0 1 0 false .leaf)) .leaf), 2, G⟩
noncomputable def HRp (k : Int) (t : List UInt8) (nu : Int) (g : Nat → List UInt8) (q : Nat) (G : T (T AV)) : AHeap := ⟨(.node (.node .leaf (some (.cells (.fn fun c => some (es g c)) (q * 1) 9 0 0 1 0 false .leaf)) .leaf) (some (.cells (.node (.node (.node .leaf (some (.nils 0 0)) .leaf) (some (.str t)) .leaf) (some (.int .i64 k)) (.node (.node .leaf (some (.int .u64 nu)) .leaf) (some (.slg 1 0 0 q 0)) .leaf)) 5 45 0 0 1 0 false .leaf)) .leaf), 2, G⟩
noncomputable def HRb (k : Int) (t : List UInt8) (nu : Int) (g : Nat → List UInt8) (q : Nat) (f : Nat → Dg) (m : Nat) (G : T (T AV)) : AHeap := ⟨(.node (.node .leaf (some (.cells (.fn fun c => some (el f c)) (m * 3) 35 0 0 1 0 false .leaf)) .leaf) (some (.cells (.node (.node (.node .leaf (some (.slg 1 0 0 m 0)) .leaf) (some (.str t)) .leaf) (some (.int .i64 k)) (.node (.node .leaf (some (.int .u64 nu)) .leaf) (some (.slg 2 0 0 q 0)) .leaf)) 5 45 0 0 1 0 false .leaf)) (.node .leaf (some (.cells (.fn fun c => some (es g c)) (q * 1) 9 0 0 1 0 false .leaf)) .leaf)), 3, G⟩
def OkA (k : Int) (t : List UInt8) (ms : List Dg) (nu : Int) (M : AM) : Prop :=
 (ms = [] ∧ Goal P 0 25 (fun v h => v = .tup [.agg [.int .i64 k, .str t, .nils 0 0, .nils 0 0, .int .u64 nu], .int .i64 0] ∧ h = HRn k t nu GW) M) ∨
  (0 < ms.length ∧ ∃ f, sl f 0 ms.length = ms ∧ Goal P 0 25 (fun v h => v = .tup [.agg [.int .i64 k, .str t, .nils 0 0, .slg 1 0 0 ms.length 0, .int .u64 nu], .int .i64 0] ∧ h = HRd k t nu f ms.length GW) M)
def OkB (k : Int) (t : List UInt8) (g : Nat → List UInt8) (q : Nat) (ms : List Dg) (nu : Int) (M : AM) : Prop :=
 (ms = [] ∧ Goal P 0 25 (fun v h => v = .tup [.agg [.int .i64 k, .str t, .slg 1 0 0 q 0, .nils 0 0, .int .u64 nu], .int .i64 0] ∧ h = HRp k t nu g q GW) M) ∨
  (0 < ms.length ∧ ∃ f, sl f 0 ms.length = ms ∧ Goal P 0 25 (fun v h => v = .tup [.agg [.int .i64 k, .str t, .slg 2 0 0 q 0, .slg 1 0 0 ms.length 0, .int .u64 nu], .int .i64 0] ∧ h = HRb k t nu g q f ms.length GW) M)
section
variable {s : List UInt8}
theorem znz (hs : s.length ≤ 200000) {code : Int} {t : List UInt8} {ms : List Dg} (hm : So ms ms) {nu : Int} (v0 : 0 ≤ nu) (v1 : nu ≤ 18446744073709551615) {k : Int} {x y : Nat} (st : St s x y) (hi : ¬ (0 : Int) < k)
 (ha : mq.ahead s x = row ((zX ms).length : Nat) ++ (zX ms ++ row nu)) : OkA code t ms nu (ALA s t code k 0 x y GW) := by
 obtain ⟨x2, y2, g1, s2, e1⟩ := qS hs st (Nat.le_refl _) (t := zX ms) (rest := row nu) ha
 obtain ⟨x3, y3, g2, s3, e2⟩ := zdc hs s2 (Nat.le_refl _) v0 v1 (rest := []) (by rw [List.append_nil]; exact e1)
 have hx : x3 = 0 := by
  have := ye s3
  rw [e2] at this
  exact this.symm
 subst hx
 have hu : (zX ms).length ≤ 200000 := by
  have := ye st
  rw [ha] at this
  simp only [List.length_append] at this
  have := st.1
  omega
 rcases zba hu hm rfl with ⟨h0, hg⟩ | ⟨h0, f, hf, hg⟩
 · exact .inl ⟨h0, Obl.goal (K := Goal P 0 25 _) mix (fun _ h => h) (cast (eAnz _ _ _ _ _ _ _ _ _ _ _ _ _ GW _).symm ⟨decide_eq_false hi, zb s, zb s, g1, hg, zb s, zb s, g2, rfl, rfl⟩)⟩
 · exact .inr ⟨h0, f, hf, Obl.goal (K := Goal P 0 25 _) mix (fun _ h => h) (cast (eArz _ (el f) _ _ _ _ _ _ _ _ _ _ _ _ _ _ GW _).symm ⟨decide_eq_false hi, zb s, zb s, g1, zg _, hg, zb s, zb s, g2, zg _, rfl, rfl⟩)⟩
theorem zn3 (hs : s.length ≤ 200000) {code : Int} {t : List UInt8} {ms : List Dg} (hm : So ms ms) {nu : Int} (v0 : 0 ≤ nu) (v1 : nu ≤ 18446744073709551615) {x y m z : Nat} {g : Nat → List UInt8} (hz : z = m * 1) (st : St s x y) (hi : ¬ (m : Int) < (m : Int))
 (ha : mq.ahead s x = row ((zX ms).length : Nat) ++ (zX ms ++ row nu)) : OkB code t g m ms nu (ALB (es g) s t code m m x y m z GW) := by
 subst hz
 obtain ⟨x2, y2, g1, s2, e1⟩ := qS hs st (Nat.le_refl _) (t := zX ms) (rest := row nu) ha
 obtain ⟨x3, y3, g2, s3, e2⟩ := zdc hs s2 (Nat.le_refl _) v0 v1 (rest := []) (by rw [List.append_nil]; exact e1)
 have hx : x3 = 0 := by
  have := ye s3
  rw [e2] at this
  exact this.symm
 subst hx
 have hu : (zX ms).length ≤ 200000 := by
  have := ye st
  rw [ha] at this
  simp only [List.length_append] at this
  have := st.1
  omega
 rcases zba hu hm rfl with ⟨h0, hg⟩ | ⟨h0, f, hf, hg⟩
 · exact .inl ⟨h0, Obl.goal (K := Goal P 0 25 _) mix (fun _ h => h) (cast (eBnz _ (es g) _ _ _ _ _ _ _ _ _ _ _ _ _ _ GW _).symm ⟨decide_eq_false hi, zb s, zb s, g1, hg, zb s, zb s, g2, qg g, rfl, rfl⟩)⟩
 · exact .inr ⟨h0, f, hf, Obl.goal (K := Goal P 0 25 _) mix (fun _ h => h) (cast (eBrz _ (el f) (es g) _ _ _ _ _ _ _ _ _ _ _ _ _ _ _ _ GW _).symm ⟨decide_eq_false hi, zb s, zb s, g1, zg _, hg, zb s, zb s, g2, zg _, qg g, rfl, rfl⟩)⟩
theorem OkA.mono {k : Int} {t : List UInt8} {ms : List Dg} {nu : Int} {M M' : AM} (h : ∀ Q : AV → AHeap → Prop, Goal P 0 25 Q M → Goal P 0 25 Q M') (a : OkA k t ms nu M) : OkA k t ms nu M' := by
 rcases a with ⟨a1, a2⟩ | ⟨a1, f, a2, a3⟩
 · exact .inl ⟨a1, h _ a2⟩
 · exact .inr ⟨a1, f, a2, h _ a3⟩
theorem OkB.mono {k : Int} {t : List UInt8} {g : Nat → List UInt8} {q : Nat} {ms : List Dg} {nu : Int} {M M' : AM} (h : ∀ Q : AV → AHeap → Prop, Goal P 0 25 Q M → Goal P 0 25 Q M') (a : OkB k t g q ms nu M) : OkB k t g q ms nu M' := by
 rcases a with ⟨a1, a2⟩ | ⟨a1, f, a2, a3⟩
 · exact .inl ⟨a1, h _ a2⟩
 · exact .inr ⟨a1, f, a2, h _ a3⟩
theorem zfX (hs : s.length ≤ 200000) {code : Int} {t : List UInt8} {ms : List Dg} (hm : So ms ms) {nu : Int} (v0 : 0 ≤ nu) (v1 : nu ≤ 18446744073709551615) {w : Nat → List UInt8} {q : Nat} : ∀ (r m x y z : Nat) (g : Nat → List UInt8), m + r = q → 0 < m → z = m * 1 → m + x ≤ s.length → (∀ j, j < m → g j = w j) → St s x y → mq.ahead s x = (sl w m r).flatMap zz ++ (row ((zX ms).length : Nat) ++ (zX ms ++ row nu)) →
 ∃ g', sl g' 0 q = sl w 0 q ∧ OkB code t g' q ms nu (ALB (es g) s t code q m x y m z GW)
 | 0, m, x, y, z, g, hr, h0, hz, hmx, hg, st, ha => by
  obtain rfl : m = q := by omega
  exact ⟨g, yi m 0 fun j _ h => hg j (by omega), zn3 hs hm v0 v1 hz st (by omega) ha⟩
 | r + 1, m, x, y, z, g, hr, h0, hz, hmx, hg, st, ha => by
  subst hz
  have hx := st.1
  rw [kW, List.flatMap_cons] at ha
  unfold zz at ha
  simp only [List.append_assoc] at ha
  have hl := ye st
  rw [ha] at hl
  simp only [List.length_append] at hl
  have hr1 := zm ((w m).length : Nat)
  obtain ⟨x2, y2, g1, s2, e1⟩ := qS hs st (Nat.le_refl _) ha
  have hl2 := ye s2
  rw [e1] at hl2
  simp only [List.length_append] at hl2
  obtain ⟨g', q1, q2⟩ := zfX hs (code := code) (t := t) hm v0 v1 (w := w) (q := q) r (m + 1) x2 y2 (0 + m * 1 + 1) (upd g m (w m)) (by omega) (by omega) (by omega) (by omega) (fun j hj => by
   unfold upd
   by_cases h : j = m
   · rw [if_pos h, h]
   · rw [if_neg h]; exact hg j (by omega)) s2 (by rw [e1]; unfold zz; rfl)
  refine ⟨g', q1, q2.mono fun Q h => ?_⟩
  exact Obl.goal (K := Goal P 0 25 _) mix (fun _ h => h) (cast (lBg _ (es g) (es (upd g m (w m))) _ _ (w m) _ _ _ _ _ _ _ _ _ _ GW _).symm ⟨decide_eq_true (by omega), zb s, zb s, g1, ⟨⟨by omega, fun k hk => by
   obtain rfl : k = 0 := by omega
   exact ⟨_, rfl, rfl⟩⟩, by omega, by omega, by omega, by omega, by
    unfold xw
    rw [Bool.and_eq_true, Nat.ble_eq, Nat.blt_eq]
    constructor <;> omega, by omega⟩, zlQ g m (w m), rfl, zb s, qg _, by rw [up64 m (by omega)]; exact h⟩)
theorem ze6 (hs : s.length ≤ 200000) {code : Int} (hc0 : 0 ≤ code) (hc1 : code ≤ 14) {t : List UInt8} {k : Int} (k0 : 0 ≤ k) (k1 : k ≤ 18446744073709551615) {rest : List UInt8} (hrest : 0 < rest.length) (he : row code ++ (row (t.length : Nat) ++ (t ++ (row k ++ rest))) = s) :
 ∃ x y, St s x y ∧ mq.ahead s x = rest ∧ x + 1 ≤ s.length ∧ ∀ Q : AV → AHeap → Prop, Goal P 0 25 Q (ALA s t code k 0 x y GW) → Goal P 0 25 Q (zc P 25 [.str s] GW) := by
 have hp := zm code
 have hlen := congrArg List.length he
 simp only [List.length_append] at hlen
 have h0 : 0 < s.length := by omega
 have w : IntKind.i64.wrap code = code := IntWalk.i64_in _ (by omega)
 have x3 : rest.length + 1 ≤ s.length := by omega
 have key : ∀ cap, s.length ≤ cap → ∃ x y, St s x y ∧ mq.ahead s x = rest ∧ ∀ Q : AV → AHeap → Prop, Goal P 0 25 Q (ALA s t code k 0 x y GW) → Goal P 0 25 Q (AN (.slc 2 0 0 s.length cap) s GW) := by
  intro cap hcap
  obtain ⟨x1, y1, g0, s1, e1⟩ := zdc hs (st0 s) hcap hc0 (by omega) ((vA s).trans he.symm)
  obtain ⟨x2, y2, g1, s2, e2⟩ := qS hs s1 (Nat.le_refl _) e1
  obtain ⟨x3, y3, g2, s3, e3⟩ := zdc hs s2 (Nat.le_refl _) k0 k1 e2
  exact ⟨x3, y3, s3, e3, fun Q h => Obl.goal (K := Goal P 0 25 _) mix (fun _ h => h) (cast (s5 _ (s) _ _ _ (s.length) (cap) _ _ _ _ _ _ GW _).symm ⟨zb s, zb s, g0, decide_eq_false (by omega), zb s, zb s, g1, zb s, zb s, g2, zb s, by rw [w]; exact h⟩)⟩
 have uniq : ∀ x y, St s x y → mq.ahead s x = rest → x = rest.length := fun x y h1 h2 => by rw [← ye h1, h2]
 refine ⟨rest.length, s.length - rest.length, ⟨by omega, fun _ => by omega⟩, ?_, by omega, fun Q h => zhl h0 fun cap hcap => ?_⟩
 · obtain ⟨x, y, h1, h2, _⟩ := key s.length (Nat.le_refl _)
   rw [← uniq x y h1 h2]
   exact h2
 · obtain ⟨x, y, h1, h2, h3⟩ := key cap hcap
   have e := uniq x y h1 h2
   have hy := h1.2 (by omega)
   have : y = s.length - rest.length := by omega
   rw [e, this] at h3
   exact h3 _ h
theorem znS (hs : s.length ≤ 200000) {k : Int} (h0 : 0 ≤ k) (h1 : k ≤ 14) {t : List UInt8} {ms : List Dg} (hm : So ms ms) {nu : Int} (v0 : 0 ≤ nu) (v1 : nu ≤ 18446744073709551615) (he : vw k t [] ms nu = s) : OkA k t ms nu (zc P 25 [.str s] GW) := by
 have hr : 0 < (row ((zX ms).length : Nat) ++ (zX ms ++ row nu)).length := by
  have := zm nu
  simp only [List.length_append]
  omega
 obtain ⟨x, y, st, ha, _, hgo⟩ := ze6 hs h0 h1 (t := t) (k := 0) (by omega) (by omega) hr he
 exact (znz hs hm v0 v1 st (by omega) ha).mono hgo
theorem zno (hs : s.length ≤ 200000) {k : Int} (h0 : 0 ≤ k) (h1 : k ≤ 14) {t : List UInt8} {ms : List Dg} (hm : So ms ms) {nu : Int} (v0 : 0 ≤ nu) (v1 : nu ≤ 18446744073709551615) {ps : List (List UInt8)} (hp : 0 < ps.length) (he : vw k t ps ms nu = s) : ∃ g, sl g 0 ps.length = ps ∧ OkB k t g ps.length ms nu (zc P 25 [.str s] GW) := by
 obtain ⟨q, hq⟩ : ∃ q, ps.length = q + 1 := ⟨ps.length - 1, by omega⟩
 have hw : sl (fun i => ps.getD i []) 0 (q + 1) = ps := by
  refine List.ext_getElem? fun i => ?_
  by_cases hi : i < q + 1
  · rw [zc6 _ _ _ _ hi, Nat.zero_add, List.getD_eq_getElem?_getD, List.getElem?_eq_getElem (by omega)]
    rfl
  · rw [List.getElem?_eq_none (by rw [qV]; omega), List.getElem?_eq_none (by omega)]
 generalize (fun i => ps.getD i []) = w at hw
 have hlen := congrArg List.length he
 unfold vw at hlen
 simp only [List.length_append] at hlen
 have hll : ps.length ≤ (ps.flatMap zz).length := by
  have : ∀ l : List (List UInt8), l.length ≤ (l.flatMap zz).length := by
   intro l
   induction l with
   | nil => simp
   | cons a r ih =>
    have h1 : (zz a).length = (row (a.length : Nat)).length + a.length := List.length_append
    have := zm (a.length : Nat)
    simp only [List.flatMap_cons, List.length_append, List.length_cons, h1]
    omega
  exact this ps
 have hr : 0 < (ps.flatMap zz ++ (row ((zX ms).length : Nat) ++ (zX ms ++ row nu))).length := by
  have := zm nu
  simp only [List.length_append]
  omega
 obtain ⟨x, y, st, ha, _, hgo⟩ := ze6 hs h0 h1 (t := t) (k := (ps.length : Nat)) (by omega) (by omega) hr he
 have hps : ps.flatMap zz = zz (w 0) ++ (sl w 1 q).flatMap zz := by
  rw [← hw, kW, List.flatMap_cons]
 rw [hps] at ha
 unfold zz at ha
 simp only [List.append_assoc] at ha
 have hl := ye st
 rw [ha] at hl
 simp only [List.length_append] at hl
 have hr1 := zm ((w 0).length : Nat)
 obtain ⟨x2, y2, g1, s2, e1⟩ := qS hs st (Nat.le_refl _) ha
 have hl2 := ye s2
 rw [e1] at hl2
 simp only [List.length_append] at hl2
 have hx := st.1
 obtain ⟨g', q1, q2⟩ := zfX hs (code := k) (t := t) hm v0 v1 (w := w) (q := q + 1) q 1 x2 y2 1 (fun _ => w 0) (by omega) (by omega) (by omega) (by omega) (fun j hj => by
  obtain rfl : j = 0 := by omega
  rfl) s2 (by rw [e1]; unfold zz; rfl)
 rw [hw] at q1
 rw [← hq] at q1 q2
 refine ⟨g', q1, q2.mono fun Q h => hgo Q ?_⟩
 exact Obl.goal (K := Goal P 0 25 _) mix (fun _ h => h) (cast (lAg _ (es (fun _ => w 0)) _ _ (w 0) _ _ _ _ _ _ _ (1) GW _).symm ⟨decide_eq_true (by omega), zb s, zb s, g1, zl7 (w 0), rfl, zb s, qg _, h⟩)
end
end Go.Proofs.YtdbfpjgnlfejmaaDoor.dg
end
section
set_option maxRecDepth 100000
set_option linter.unusedVariables false
namespace Go.Proofs.YtdbfpjgnlfejmaaDoor.dg
open Go Ev mq
noncomputable def AwP (pc : Nat → AV) (s t : List UInt8) (n nu i : Int) (q z L N : Nat) (G : T (T AV)) : AM := ⟨⟨30, 48, (.node (.node (.node (.node (.node (.node .leaf (some (.int .i64 i)) .leaf) none .leaf) none .leaf) (some (.ptr 2 0 0)) .leaf) (some (.ptr 1 0 0)) (.node .leaf none (.node .leaf none (.node .leaf (some (.slg 0 0 0 q 0)) .leaf)))) none (.node .leaf none (.node .leaf none (.node .leaf none (.node .leaf (some (.int .i64 (q : Int))) .leaf))))),
 [.code (cd P (30 : Nat) [(1 : Nat), (1 : Nat), (1 : Nat), (1 : Nat), (1 : Nat), (0 : Nat), (1 : Nat), (0 : Nat), (0 : Nat)]), .inLoop (cd P (30 : Nat) [(1 : Nat), (1 : Nat), (1 : Nat), (1 : Nat), (1 : Nat), (0 : Nat), (1 : Nat), (0 : Nat), (0 : Nat)]), .inBlock 0, .code (cd P (30 : Nat) [(1 : Nat), (1 : Nat), (1 : Nat), (1 : Nat), (1 : Nat), (1 : Nat)])], [], .run, CallKind.normal, none⟩,
 [],
 ⟨(.node (.node (.node .leaf (some (.cells (.fn fun k => some (.int .u8 ((s.getD k (0 : UInt8)).toNat : Int))) N 5 0 0 1 0 false .leaf)) .leaf) (some (.cells (.node (.node (.node .leaf (some (.nils 0 0)) .leaf) (some (.str t)) .leaf) (some (.int .i64 n)) (.node (.node .leaf (some (.int .u64 nu)) .leaf) (some (.slg 0 0 0 q 0)) .leaf)) 5 45 0 0 1 0 false .leaf)) .leaf) (some (.cells (.fn fun c => some (pc c)) z 9 0 0 1 0 false .leaf)) (.node .leaf (some (.cells (.node (.node .leaf (some (.slg 3 0 0 L 0)) .leaf) (some (.ptr 2 0 0)) .leaf) 2 69 0 0 1 0 false .leaf)) .leaf)), 4, G⟩⟩
noncomputable def AwB (pc cell : Nat → AV) (s t : List UInt8) (n nu i : Int) (m q z zd L N : Nat) (G : T (T AV)) : AM := ⟨⟨30, 48, (.node (.node (.node (.node (.node (.node .leaf (some (.int .i64 i)) .leaf) none .leaf) none .leaf) (some (.ptr 3 0 0)) .leaf) (some (.ptr 2 0 0)) (.node .leaf none (.node .leaf none (.node .leaf (some (.slg 0 0 0 q 0)) .leaf)))) none (.node .leaf none (.node .leaf none (.node .leaf none (.node .leaf (some (.int .i64 (q : Int))) .leaf))))),
 [.code (cd P (30 : Nat) [(1 : Nat), (1 : Nat), (1 : Nat), (1 : Nat), (1 : Nat), (0 : Nat), (1 : Nat), (0 : Nat), (0 : Nat)]), .inLoop (cd P (30 : Nat) [(1 : Nat), (1 : Nat), (1 : Nat), (1 : Nat), (1 : Nat), (0 : Nat), (1 : Nat), (0 : Nat), (0 : Nat)]), .inBlock 0, .code (cd P (30 : Nat) [(1 : Nat), (1 : Nat), (1 : Nat), (1 : Nat), (1 : Nat), (1 : Nat)])], [], .run, CallKind.normal, none⟩,
 [],
 ⟨(.node (.node (.node .leaf (some (.cells (.node (.node .leaf (some (.slg 4 0 0 L 0)) .leaf) (some (.ptr 3 0 0)) .leaf) 2 69 0 0 1 0 false .leaf)) .leaf) (some (.cells (.fn fun c => some (cell c)) zd 35 0 0 1 0 false .leaf)) .leaf) (some (.cells (.fn fun c => some (pc c)) z 9 0 0 1 0 false .leaf)) (.node (.node .leaf (some (.cells (.fn fun k => some (.int .u8 ((s.getD k (0 : UInt8)).toNat : Int))) N 5 0 0 1 0 false .leaf)) .leaf) (some (.cells (.node (.node (.node .leaf (some (.slg 1 0 0 m 0)) .leaf) (some (.str t)) .leaf) (some (.int .i64 n)) (.node (.node .leaf (some (.int .u64 nu)) .leaf) (some (.slg 0 0 0 q 0)) .leaf)) 5 45 0 0 1 0 false .leaf)) .leaf)), 5, G⟩⟩
noncomputable def Aen (s : List UInt8) (L N : Nat) (G : T (T AV)) : AM := ⟨⟨30, 48, (.node (.node (.node .leaf (some (.ptr 0 0 0)) .leaf) none .leaf) none .leaf),
 [.code (cd P (30 : Nat) [(1 : Nat), (1 : Nat), (1 : Nat), (1 : Nat), (1 : Nat), (1 : Nat), (1 : Nat)])], [], .run, CallKind.normal, none⟩,
 [],
 ⟨(.node (.node .leaf (some (.cells (.fn fun k => some (.int .u8 ((s.getD k (0 : UInt8)).toNat : Int))) N 5 0 0 1 0 false .leaf)) .leaf) (some (.cells (.node (.node .leaf (some (.slg 1 0 0 L 0)) .leaf) (some (.ptr 0 0 0)) .leaf) 2 69 0 0 1 0 false .leaf)) .leaf), 2, G⟩⟩
noncomputable def Aed (cell : Nat → AV) (s : List UInt8) (zd L N : Nat) (G : T (T AV)) : AM := ⟨⟨30, 48, (.node (.node (.node .leaf (some (.ptr 1 0 0)) .leaf) none .leaf) none .leaf),
 [.code (cd P (30 : Nat) [(1 : Nat), (1 : Nat), (1 : Nat), (1 : Nat), (1 : Nat), (1 : Nat), (1 : Nat)])], [], .run, CallKind.normal, none⟩,
 [],
 ⟨(.node (.node .leaf (some (.cells (.node (.node .leaf (some (.slg 2 0 0 L 0)) .leaf) (some (.ptr 1 0 0)) .leaf) 2 69 0 0 1 0 false .leaf)) .leaf) (some (.cells (.fn fun c => some (cell c)) zd 35 0 0 1 0 false .leaf)) (.node .leaf (some (.cells (.fn fun k => some (.int .u8 ((s.getD k (0 : UInt8)).toNat : Int))) N 5 0 0 1 0 false .leaf)) .leaf)), 3, G⟩⟩
noncomputable def Aep (pc : Nat → AV) (s : List UInt8) (z L N : Nat) (G : T (T AV)) : AM := ⟨⟨30, 48, (.node (.node (.node .leaf (some (.ptr 1 0 0)) .leaf) none .leaf) none .leaf),
 [.code (cd P (30 : Nat) [(1 : Nat), (1 : Nat), (1 : Nat), (1 : Nat), (1 : Nat), (1 : Nat), (1 : Nat)])], [], .run, CallKind.normal, none⟩,
 [],
 ⟨(.node (.node .leaf (some (.cells (.node (.node .leaf (some (.slg 2 0 0 L 0)) .leaf) (some (.ptr 1 0 0)) .leaf) 2 69 0 0 1 0 false .leaf)) .leaf) (some (.cells (.fn fun c => some (pc c)) z 9 0 0 1 0 false .leaf)) (.node .leaf (some (.cells (.fn fun k => some (.int .u8 ((s.getD k (0 : UInt8)).toNat : Int))) N 5 0 0 1 0 false .leaf)) .leaf)), 3, G⟩⟩
noncomputable def Aeb (pc cell : Nat → AV) (s : List UInt8) (z zd L N : Nat) (G : T (T AV)) : AM := ⟨⟨30, 48, (.node (.node (.node .leaf (some (.ptr 2 0 0)) .leaf) none .leaf) none .leaf),
 [.code (cd P (30 : Nat) [(1 : Nat), (1 : Nat), (1 : Nat), (1 : Nat), (1 : Nat), (1 : Nat), (1 : Nat)])], [], .run, CallKind.normal, none⟩,
 [],
 ⟨(.node (.node (.node .leaf (some (.cells (.fn fun k => some (.int .u8 ((s.getD k (0 : UInt8)).toNat : Int))) N 5 0 0 1 0 false .leaf)) .leaf) (some (.cells (.fn fun c => some (cell c)) zd 35 0 0 1 0 false .leaf)) .leaf) (some (.cells (.fn fun c => some (pc c)) z 9 0 0 1 0 false .leaf)) (.node .leaf (some (.cells (.node (.node .leaf (some (.slg 3 0 0 L 0)) .leaf) (some (.ptr 2 0 0)) .leaf) 2 69 0 0 1 0 false .leaf)) .leaf)), 4, G⟩⟩
theorem awne (R : AV → AHeap → Prop) (t w0 w1 w2 e : List UInt8) (n nu : Int) (w w4 : List UInt8) (G : T (T AV)) (K : AM → Prop) : Obl P 30 (fun v h => R v h) 0 K [.run 12, .know 9 false, .run 5, .know 13 false, .run 14, .callv [0, 1] (.str w0), .run 1, .callv [0, 1] (.str w1), .run 40, .opw false, .run 21, .callv [0, 1] (.str w2), .run 41, .opw false, .run 14, .told 2 (.fn fun k => some (.int .u8 (((w1 ++ w2).getD k (0 : UInt8)).toNat : Int))) (w1 ++ w2).length, .can 0 [0, 1, 2] [1, 3] [], .run 24, .callh [] [0] (.str e) ⟨.leaf, 0, G⟩, .run 1, .callv [0, 1] (.str w), .run 1, .callv [0, 1] (.str w4), .run 41, .opw false, .run 14, .told 2 (.fn fun k => some (.int .u8 ((((w1 ++ w2) ++ w4).getD k (0 : UInt8)).toNat : Int))) ((w1 ++ w2) ++ w4).length, .can 0 [1, 2] [3] []] ((zc P 30 [(.agg [.int .i64 n, .str t, .nils 0 0, .nils 0 0, .int .u64 nu])] G)) = ((decide (n < (0 : Int)) = false) ∧ (decide (n > (14 : Int)) = false) ∧ (Goal P (0) 48 (fun v _ => v = AV.str w0) (zc P 48 [.str [], .int .u64 (IntKind.u64.wrap n)] G)) ∧ (some (AV.str t) = some (AV.str t)) ∧ (Goal P (0) 49 (fun v _ => v = AV.str w1) (zc P 49 [.str w0, .str t] G)) ∧ (w1.length ≤ w1.length ∧ (0 : Nat) < w1.length ∧ xw w1.length (1) = true) ∧ (Goal P (0) 48 (fun v _ => v = AV.str w2) (zc P 48 [.str [], .int .u64 0] G)) ∧ (w2.length ≤ w2.length ∧ (0 : Nat) < w2.length ∧ 0 + w1.length * 1 ≤ w1.length * 1 ∧ 0 ≤ 0 + w1.length * 1 ∧ 0 = 0 * 1 ∧ xw (w1.length + w2.length) (1) = true ∧ w1.length * 1 < 0 + (w1.length + w2.length) * 1) ∧ (xR ((w1 ++ w2).length) ((.fn fun k => some (AV.int IntKind.u8 (↑((w1 ++ w2).getD k (0 : UInt8)).toNat : Int)))) ((.fn fun k => bif (0 + w1.length * 1).ble k && k.blt (0 + w1.length * 1 + w2.length * 1) then (fun k => some (AV.int IntKind.u8 (↑(w2.getD k (0 : UInt8)).toNat : Int))) (k - (0 + w1.length * 1)) else (T.fn fun k => some (AV.int IntKind.u8 (↑(w1.getD k (0 : UInt8)).toNat : Int))).get k))) ∧ ((w1 ++ w2).length = 0 + w1.length * 1 + w2.length * 1) ∧ (za fun k => some (AV.int IntKind.u8 (↑((w1 ++ w2).getD k (0 : UInt8)).toNat : Int))) ∧ (Goal P (0) 14 (fun v h => v = AV.str e ∧ h = { objs := T.leaf, next := (0 : Nat), glob := G }) (zc P 14 [.nils 0 0] G)) ∧ (some (AV.int IntKind.u64 nu) = some (AV.int IntKind.u64 nu)) ∧ (Goal P (0) 49 (fun v _ => v = AV.str w) (zc P 49 [.str [], .str e] G)) ∧ (some (AV.int IntKind.u64 nu) = some (AV.int IntKind.u64 nu)) ∧ (Goal P (0) 48 (fun v _ => v = AV.str w4) (zc P 48 [.str w, .int .u64 nu] G)) ∧ (w4.length ≤ w4.length ∧ (0 : Nat) < w4.length ∧ 0 + (w1.length + w2.length) * 1 ≤ (w1 ++ w2).length ∧ 0 ≤ 0 + (w1.length + w2.length) * 1 ∧ 0 = 0 * 1 ∧ xw (w1.length + w2.length + w4.length) (1) = true ∧ (w1 ++ w2).length < 0 + (w1.length + w2.length + w4.length) * 1) ∧ (xR ((w1 ++ w2 ++ w4).length) ((.fn fun k => some (AV.int IntKind.u8 (↑((w1 ++ w2 ++ w4).getD k (0 : UInt8)).toNat : Int)))) ((.fn fun k => bif (0 + (w1.length + w2.length) * 1).ble k && k.blt (0 + (w1.length + w2.length) * 1 + w4.length * 1) then (fun k => some (AV.int IntKind.u8 (↑(w4.getD k (0 : UInt8)).toNat : Int))) (k - (0 + (w1.length + w2.length) * 1)) else (T.fn fun k => some (AV.int IntKind.u8 (↑((w1 ++ w2).getD k (0 : UInt8)).toNat : Int))).get k))) ∧ ((w1 ++ w2 ++ w4).length = 0 + (w1.length + w2.length) * 1 + w4.length * 1) ∧ (za fun k => some (AV.int IntKind.u8 (↑((w1 ++ w2 ++ w4).getD k (0 : UInt8)).toNat : Int))) ∧ K (Aen (w1 ++ w2 ++ w4) (w1.length + w2.length + w4.length) (w1 ++ w2 ++ w4).length G)) := by kernel_rfl
theorem awde (R : AV → AHeap → Prop) (cell : Nat → AV) (t w0 w1 w2 e : List UInt8) (n nu : Int) (w w4 : List UInt8) (m zd : Nat) (G : T (T AV)) (K : AM → Prop) : Obl P 30 (fun v h => R v h) 1 K [.run 12, .know 9 false, .run 5, .know 13 false, .run 14, .callv [0, 1] (.str w0), .run 1, .callv [0, 1] (.str w1), .run 40, .opw false, .run 21, .callv [0, 1] (.str w2), .run 41, .opw false, .run 14, .told 3 (.fn fun k => some (.int .u8 (((w1 ++ w2).getD k (0 : UInt8)).toNat : Int))) (w1 ++ w2).length, .can 1 [0, 1, 2, 3] [1, 3] [], .run 24, .callh [(0, 0, [])] [0] (.str e) ⟨(.node .leaf (some (.cells (.fn fun j => some (cell j)) zd 35 0 0 1 0 false .leaf)) .leaf), 1, G⟩, .run 1, .callv [0, 1] (.str w), .run 1, .callv [0, 1] (.str w4), .run 41, .opw false, .run 14, .told 3 (.fn fun k => some (.int .u8 ((((w1 ++ w2) ++ w4).getD k (0 : UInt8)).toNat : Int))) ((w1 ++ w2) ++ w4).length, .can 1 [0, 2, 3] [3] []] ((zf P 30 [(.agg [.int .i64 n, .str t, .nils 0 0, .slg 0 0 0 m 0, .int .u64 nu])] ⟨(.node .leaf (some (.cells (.fn fun j => some (cell j)) zd 35 0 0 1 0 false .leaf)) .leaf), 1, G⟩)) = ((decide (n < (0 : Int)) = false) ∧ (decide (n > (14 : Int)) = false) ∧ (Goal P (0) 48 (fun v _ => v = AV.str w0) (zc P 48 [.str [], .int .u64 (IntKind.u64.wrap n)] G)) ∧ (some (AV.str t) = some (AV.str t)) ∧ (Goal P (0) 49 (fun v _ => v = AV.str w1) (zc P 49 [.str w0, .str t] G)) ∧ (w1.length ≤ w1.length ∧ (0 : Nat) < w1.length ∧ xw w1.length (1) = true) ∧ (Goal P (0) 48 (fun v _ => v = AV.str w2) (zc P 48 [.str [], .int .u64 0] G)) ∧ (w2.length ≤ w2.length ∧ (0 : Nat) < w2.length ∧ 0 + w1.length * 1 ≤ w1.length * 1 ∧ 0 ≤ 0 + w1.length * 1 ∧ 0 = 0 * 1 ∧ xw (w1.length + w2.length) (1) = true ∧ w1.length * 1 < 0 + (w1.length + w2.length) * 1) ∧ (xR ((w1 ++ w2).length) ((.fn fun k => some (AV.int IntKind.u8 (↑((w1 ++ w2).getD k (0 : UInt8)).toNat : Int)))) ((.fn fun k => bif (0 + w1.length * 1).ble k && k.blt (0 + w1.length * 1 + w2.length * 1) then (fun k => some (AV.int IntKind.u8 (↑(w2.getD k (0 : UInt8)).toNat : Int))) (k - (0 + w1.length * 1)) else (T.fn fun k => some (AV.int IntKind.u8 (↑(w1.getD k (0 : UInt8)).toNat : Int))).get k))) ∧ ((w1 ++ w2).length = 0 + w1.length * 1 + w2.length * 1) ∧ (za fun j => some (cell j)) ∧ (za fun k => some (AV.int IntKind.u8 (↑((w1 ++ w2).getD k (0 : UInt8)).toNat : Int))) ∧ (za fun j => some (cell j)) ∧ (za fun j => some (cell j)) ∧ (Goal P (1) 14 (fun v h => v = AV.str e ∧ h = { objs := T.leaf.node (some (AObj.cells (T.fn fun j => some (cell j)) zd (35 : TypeId) (0 : Nat) (0 : Nat) (1 : Nat) (0 : Nat) false T.leaf)) T.leaf, next := (1 : Nat), glob := G }) (zf P 14 [.slg 0 0 0 m 0] ⟨(.node .leaf (some (.cells (.fn fun j => some (cell j)) zd 35 0 0 1 0 false .leaf)) .leaf), 1, G⟩)) ∧ (some (AV.int IntKind.u64 nu) = some (AV.int IntKind.u64 nu)) ∧ (Goal P (0) 49 (fun v _ => v = AV.str w) (zc P 49 [.str [], .str e] G)) ∧ (some (AV.int IntKind.u64 nu) = some (AV.int IntKind.u64 nu)) ∧ (Goal P (0) 48 (fun v _ => v = AV.str w4) (zc P 48 [.str w, .int .u64 nu] G)) ∧ (w4.length ≤ w4.length ∧ (0 : Nat) < w4.length ∧ 0 + (w1.length + w2.length) * 1 ≤ (w1 ++ w2).length ∧ 0 ≤ 0 + (w1.length + w2.length) * 1 ∧ 0 = 0 * 1 ∧ xw (w1.length + w2.length + w4.length) (1) = true ∧ (w1 ++ w2).length < 0 + (w1.length + w2.length + w4.length) * 1) ∧ (xR ((w1 ++ w2 ++ w4).length) ((.fn fun k => some (AV.int IntKind.u8 (↑((w1 ++ w2 ++ w4).getD k (0 : UInt8)).toNat : Int)))) ((.fn fun k => bif (0 + (w1.length + w2.length) * 1).ble k && k.blt (0 + (w1.length + w2.length) * 1 + w4.length * 1) then (fun k => some (AV.int IntKind.u8 (↑(w4.getD k (0 : UInt8)).toNat : Int))) (k - (0 + (w1.length + w2.length) * 1)) else (T.fn fun k => some (AV.int IntKind.u8 (↑((w1 ++ w2).getD k (0 : UInt8)).toNat : Int))).get k))) ∧ ((w1 ++ w2 ++ w4).length = 0 + (w1.length + w2.length) * 1 + w4.length * 1) ∧ (za fun j => some (cell j)) ∧ (za fun k => some (AV.int IntKind.u8 (↑((w1 ++ w2 ++ w4).getD k (0 : UInt8)).toNat : Int))) ∧ K (Aed cell (w1 ++ w2 ++ w4) zd (w1.length + w2.length + w4.length) (w1 ++ w2 ++ w4).length G)) := by kernel_rfl
theorem awps (R : AV → AHeap → Prop) (pc : Nat → AV) (t w0 w1 w2 : List UInt8) (n nu : Int) (q z : Nat) (G : T (T AV)) (K : AM → Prop) : Obl P 30 (fun v h => R v h) 1 K [.run 12, .know 9 false, .run 5, .know 13 false, .run 14, .callv [0, 1] (.str w0), .run 1, .callv [0, 1] (.str w1), .run 40, .opw false, .run 21, .callv [0, 1] (.str w2), .run 41, .opw false, .run 24, .told 3 (.fn fun k => some (.int .u8 (((w1 ++ w2).getD k (0 : UInt8)).toNat : Int))) (w1 ++ w2).length, .can 1 [0, 1, 2, 3] [1, 3, 29, 30, 31] []] ((zf P 30 [(.agg [.int .i64 n, .str t, .slg 0 0 0 q 0, .nils 0 0, .int .u64 nu])] ⟨(.node .leaf (some (.cells (.fn fun c => some (pc c)) z 9 0 0 1 0 false .leaf)) .leaf), 1, G⟩)) = ((decide (n < (0 : Int)) = false) ∧ (decide (n > (14 : Int)) = false) ∧ (Goal P (0) 48 (fun v _ => v = AV.str w0) (zc P 48 [.str [], .int .u64 (IntKind.u64.wrap n)] G)) ∧ (some (AV.str t) = some (AV.str t)) ∧ (Goal P (0) 49 (fun v _ => v = AV.str w1) (zc P 49 [.str w0, .str t] G)) ∧ (w1.length ≤ w1.length ∧ (0 : Nat) < w1.length ∧ xw w1.length (1) = true) ∧ (Goal P (0) 48 (fun v _ => v = AV.str w2) (zc P 48 [.str [], .int .u64 (IntKind.u64.wrap (↑q : Int))] G)) ∧ (w2.length ≤ w2.length ∧ (0 : Nat) < w2.length ∧ 0 + w1.length * 1 ≤ w1.length * 1 ∧ 0 ≤ 0 + w1.length * 1 ∧ 0 = 0 * 1 ∧ xw (w1.length + w2.length) (1) = true ∧ w1.length * 1 < 0 + (w1.length + w2.length) * 1) ∧ (xR ((w1 ++ w2).length) ((.fn fun k => some (AV.int IntKind.u8 (↑((w1 ++ w2).getD k (0 : UInt8)).toNat : Int)))) ((.fn fun k => bif (0 + w1.length * 1).ble k && k.blt (0 + w1.length * 1 + w2.length * 1) then (fun k => some (AV.int IntKind.u8 (↑(w2.getD k (0 : UInt8)).toNat : Int))) (k - (0 + w1.length * 1)) else (T.fn fun k => some (AV.int IntKind.u8 (↑(w1.getD k (0 : UInt8)).toNat : Int))).get k))) ∧ ((w1 ++ w2).length = 0 + w1.length * 1 + w2.length * 1) ∧ (za fun c => some (pc c)) ∧ (za fun k => some (AV.int IntKind.u8 (↑((w1 ++ w2).getD k (0 : UInt8)).toNat : Int))) ∧ K (AwP pc (w1 ++ w2) t n nu (Int.ofNat (0)) q z (w1.length + w2.length) (w1 ++ w2).length G)) := by kernel_rfl
theorem awpl (R : AV → AHeap → Prop) (pc : Nat → AV) (s t p : List UInt8) (n nu i : Int) (w : List UInt8) (q z L N : Nat) (G : T (T AV)) (K : AM → Prop) : Obl P 30 (fun v h => R v h) 1 K [.run 5, .know 32 true, .run 6, .op, .op, .slot 34 (.str p), .run 5, .callv [0, 1] (.str w), .run 41, .opw false, .run 20, .told 3 (.fn fun k => some (.int .u8 (((s ++ w).getD k (0 : UInt8)).toNat : Int))) (s ++ w).length, .can 1 [0, 1, 2, 3] [1, 3, 29, 30, 31] []] ((AwP pc s t n nu i q z L N G)) = ((decide (i < (↑q : Int)) = true) ∧ ((0 : Int) ≤ i ∧ i < (↑q : Int)) ∧ (0 + i.toNat * 1 + (1 : Nat) ≤ z) ∧ (pc (0 + i.toNat * 1) = AV.str p) ∧ (Goal P (0) 49 (fun v _ => v = AV.str w) (zc P 49 [.str [], .str p] G)) ∧ (w.length ≤ w.length ∧ (0 : Nat) < w.length ∧ 0 + L * 1 ≤ N ∧ 0 ≤ 0 + L * 1 ∧ 0 = 0 * 1 ∧ xw (L + w.length) (1) = true ∧ N < 0 + (L + w.length) * 1) ∧ (xR ((s ++ w).length) ((.fn fun k => some (AV.int IntKind.u8 (↑((s ++ w).getD k (0 : UInt8)).toNat : Int)))) ((.fn fun k => bif (0 + L * 1).ble k && k.blt (0 + L * 1 + w.length * 1) then (fun k => some (AV.int IntKind.u8 (↑(w.getD k (0 : UInt8)).toNat : Int))) (k - (0 + L * 1)) else (T.fn fun k => some (AV.int IntKind.u8 (↑(s.getD k (0 : UInt8)).toNat : Int))).get k))) ∧ ((s ++ w).length = 0 + L * 1 + w.length * 1) ∧ (za fun c => some (pc c)) ∧ (za fun k => some (AV.int IntKind.u8 (↑((s ++ w).getD k (0 : UInt8)).toNat : Int))) ∧ K (AwP pc (s ++ w) t n nu (IntKind.i64.wrap (i + (1 : Int))) q z (L + w.length) (s ++ w).length G)) := by kernel_rfl
theorem awpe (R : AV → AHeap → Prop) (pc : Nat → AV) (s t e : List UInt8) (n nu i : Int) (w w4 : List UInt8) (q z L N : Nat) (G : T (T AV)) (K : AM → Prop) : Obl P 30 (fun v h => R v h) 1 K [.run 5, .know 32 false, .run 9, .callh [] [0] (.str e) ⟨.leaf, 0, G⟩, .run 1, .callv [0, 1] (.str w), .run 1, .callv [0, 1] (.str w4), .run 41, .opw false, .run 14, .told 3 (.fn fun k => some (.int .u8 (((s ++ w4).getD k (0 : UInt8)).toNat : Int))) (s ++ w4).length, .can 1 [0, 2, 3] [3] []] ((AwP pc s t n nu i q z L N G)) = ((decide (i < (↑q : Int)) = false) ∧ (Goal P (0) 14 (fun v h => v = AV.str e ∧ h = { objs := T.leaf, next := (0 : Nat), glob := G }) (zc P 14 [.nils 0 0] G)) ∧ (some (AV.int IntKind.u64 nu) = some (AV.int IntKind.u64 nu)) ∧ (Goal P (0) 49 (fun v _ => v = AV.str w) (zc P 49 [.str [], .str e] G)) ∧ (some (AV.int IntKind.u64 nu) = some (AV.int IntKind.u64 nu)) ∧ (Goal P (0) 48 (fun v _ => v = AV.str w4) (zc P 48 [.str w, .int .u64 nu] G)) ∧ (w4.length ≤ w4.length ∧ (0 : Nat) < w4.length ∧ 0 + L * 1 ≤ N ∧ 0 ≤ 0 + L * 1 ∧ 0 = 0 * 1 ∧ xw (L + w4.length) (1) = true ∧ N < 0 + (L + w4.length) * 1) ∧ (xR ((s ++ w4).length) ((.fn fun k => some (AV.int IntKind.u8 (↑((s ++ w4).getD k (0 : UInt8)).toNat : Int)))) ((.fn fun k => bif (0 + L * 1).ble k && k.blt (0 + L * 1 + w4.length * 1) then (fun k => some (AV.int IntKind.u8 (↑(w4.getD k (0 : UInt8)).toNat : Int))) (k - (0 + L * 1)) else (T.fn fun k => some (AV.int IntKind.u8 (↑(s.getD k (0 : UInt8)).toNat : Int))).get k))) ∧ ((s ++ w4).length = 0 + L * 1 + w4.length * 1) ∧ (za fun c => some (pc c)) ∧ (za fun k => some (AV.int IntKind.u8 (↑((s ++ w4).getD k (0 : UInt8)).toNat : Int))) ∧ K (Aep pc (s ++ w4) z (L + w4.length) (s ++ w4).length G)) := by kernel_rfl
theorem awbs (R : AV → AHeap → Prop) (pc cell : Nat → AV) (t w0 w1 w2 : List UInt8) (n nu : Int) (m q z zd : Nat) (G : T (T AV)) (K : AM → Prop) : Obl P 30 (fun v h => R v h) 2 K [.run 12, .know 9 false, .run 5, .know 13 false, .run 14, .callv [0, 1] (.str w0), .run 1, .callv [0, 1] (.str w1), .run 40, .opw false, .run 21, .callv [0, 1] (.str w2), .run 41, .opw false, .run 24, .told 4 (.fn fun k => some (.int .u8 (((w1 ++ w2).getD k (0 : UInt8)).toNat : Int))) (w1 ++ w2).length, .can 2 [0, 1, 2, 3, 4] [1, 3, 29, 30, 31] []] ((zf P 30 [(.agg [.int .i64 n, .str t, .slg 0 0 0 q 0, .slg 1 0 0 m 0, .int .u64 nu])] ⟨(.node (.node .leaf (some (.cells (.fn fun j => some (cell j)) zd 35 0 0 1 0 false .leaf)) .leaf) (some (.cells (.fn fun c => some (pc c)) z 9 0 0 1 0 false .leaf)) .leaf), 2, G⟩)) = ((decide (n < (0 : Int)) = false) ∧ (decide (n > (14 : Int)) = false) ∧ (Goal P (0) 48 (fun v _ => v = AV.str w0) (zc P 48 [.str [], .int .u64 (IntKind.u64.wrap n)] G)) ∧ (some (AV.str t) = some (AV.str t)) ∧ (Goal P (0) 49 (fun v _ => v = AV.str w1) (zc P 49 [.str w0, .str t] G)) ∧ (w1.length ≤ w1.length ∧ (0 : Nat) < w1.length ∧ xw w1.length (1) = true) ∧ (Goal P (0) 48 (fun v _ => v = AV.str w2) (zc P 48 [.str [], .int .u64 (IntKind.u64.wrap (↑q : Int))] G)) ∧ (w2.length ≤ w2.length ∧ (0 : Nat) < w2.length ∧ 0 + w1.length * 1 ≤ w1.length * 1 ∧ 0 ≤ 0 + w1.length * 1 ∧ 0 = 0 * 1 ∧ xw (w1.length + w2.length) (1) = true ∧ w1.length * 1 < 0 + (w1.length + w2.length) * 1) ∧ (xR ((w1 ++ w2).length) ((.fn fun k => some (AV.int IntKind.u8 (↑((w1 ++ w2).getD k (0 : UInt8)).toNat : Int)))) ((.fn fun k => bif (0 + w1.length * 1).ble k && k.blt (0 + w1.length * 1 + w2.length * 1) then (fun k => some (AV.int IntKind.u8 (↑(w2.getD k (0 : UInt8)).toNat : Int))) (k - (0 + w1.length * 1)) else (T.fn fun k => some (AV.int IntKind.u8 (↑(w1.getD k (0 : UInt8)).toNat : Int))).get k))) ∧ ((w1 ++ w2).length = 0 + w1.length * 1 + w2.length * 1) ∧ (za fun c => some (pc c)) ∧ (za fun j => some (cell j)) ∧ (za fun k => some (AV.int IntKind.u8 (↑((w1 ++ w2).getD k (0 : UInt8)).toNat : Int))) ∧ K (AwB pc cell (w1 ++ w2) t n nu (Int.ofNat (0)) m q z zd (w1.length + w2.length) (w1 ++ w2).length G)) := by kernel_rfl
theorem awbl (R : AV → AHeap → Prop) (pc cell : Nat → AV) (s t p : List UInt8) (n nu i : Int) (w : List UInt8) (m q z zd L N : Nat) (G : T (T AV)) (K : AM → Prop) : Obl P 30 (fun v h => R v h) 2 K [.run 5, .know 32 true, .run 6, .op, .op, .slot 34 (.str p), .run 5, .callv [0, 1] (.str w), .run 41, .opw false, .run 20, .told 4 (.fn fun k => some (.int .u8 (((s ++ w).getD k (0 : UInt8)).toNat : Int))) (s ++ w).length, .can 2 [0, 1, 2, 3, 4] [1, 3, 29, 30, 31] []] ((AwB pc cell s t n nu i m q z zd L N G)) = ((decide (i < (↑q : Int)) = true) ∧ ((0 : Int) ≤ i ∧ i < (↑q : Int)) ∧ (0 + i.toNat * 1 + (1 : Nat) ≤ z) ∧ (pc (0 + i.toNat * 1) = AV.str p) ∧ (Goal P (0) 49 (fun v _ => v = AV.str w) (zc P 49 [.str [], .str p] G)) ∧ (w.length ≤ w.length ∧ (0 : Nat) < w.length ∧ 0 + L * 1 ≤ N ∧ 0 ≤ 0 + L * 1 ∧ 0 = 0 * 1 ∧ xw (L + w.length) (1) = true ∧ N < 0 + (L + w.length) * 1) ∧ (xR ((s ++ w).length) ((.fn fun k => some (AV.int IntKind.u8 (↑((s ++ w).getD k (0 : UInt8)).toNat : Int)))) ((.fn fun k => bif (0 + L * 1).ble k && k.blt (0 + L * 1 + w.length * 1) then (fun k => some (AV.int IntKind.u8 (↑(w.getD k (0 : UInt8)).toNat : Int))) (k - (0 + L * 1)) else (T.fn fun k => some (AV.int IntKind.u8 (↑(s.getD k (0 : UInt8)).toNat : Int))).get k))) ∧ ((s ++ w).length = 0 + L * 1 + w.length * 1) ∧ (za fun c => some (pc c)) ∧ (za fun j => some (cell j)) ∧ (za fun k => some (AV.int IntKind.u8 (↑((s ++ w).getD k (0 : UInt8)).toNat : Int))) ∧ K (AwB pc cell (s ++ w) t n nu (IntKind.i64.wrap (i + (1 : Int))) m q z zd (L + w.length) (s ++ w).length G)) := by kernel_rfl
theorem awbe (R : AV → AHeap → Prop) (pc cell : Nat → AV) (s t e : List UInt8) (n nu i : Int) (w w4 : List UInt8) (m q z zd L N : Nat) (G : T (T AV)) (K : AM → Prop) : Obl P 30 (fun v h => R v h) 2 K [.run 5, .know 32 false, .run 9, .callh [(1, 0, [])] [0] (.str e) ⟨(.node .leaf (some (.cells (.fn fun j => some (cell j)) zd 35 0 0 1 0 false .leaf)) .leaf), 1, G⟩, .run 1, .callv [0, 1] (.str w), .run 1, .callv [0, 1] (.str w4), .run 41, .opw false, .run 14, .told 4 (.fn fun k => some (.int .u8 (((s ++ w4).getD k (0 : UInt8)).toNat : Int))) (s ++ w4).length, .can 2 [0, 1, 3, 4] [3] []] ((AwB pc cell s t n nu i m q z zd L N G)) = ((decide (i < (↑q : Int)) = false) ∧ (za fun j => some (cell j)) ∧ (za fun j => some (cell j)) ∧ (Goal P (1) 14 (fun v h => v = AV.str e ∧ h = { objs := T.leaf.node (some (AObj.cells (T.fn fun j => some (cell j)) zd (35 : TypeId) (0 : Nat) (0 : Nat) (1 : Nat) (0 : Nat) false T.leaf)) T.leaf, next := (1 : Nat), glob := G }) (zf P 14 [.slg 0 0 0 m 0] ⟨(.node .leaf (some (.cells (.fn fun j => some (cell j)) zd 35 0 0 1 0 false .leaf)) .leaf), 1, G⟩)) ∧ (some (AV.int IntKind.u64 nu) = some (AV.int IntKind.u64 nu)) ∧ (Goal P (0) 49 (fun v _ => v = AV.str w) (zc P 49 [.str [], .str e] G)) ∧ (some (AV.int IntKind.u64 nu) = some (AV.int IntKind.u64 nu)) ∧ (Goal P (0) 48 (fun v _ => v = AV.str w4) (zc P 48 [.str w, .int .u64 nu] G)) ∧ (w4.length ≤ w4.length ∧ (0 : Nat) < w4.length ∧ 0 + L * 1 ≤ N ∧ 0 ≤ 0 + L * 1 ∧ 0 = 0 * 1 ∧ xw (L + w4.length) (1) = true ∧ N < 0 + (L + w4.length) * 1) ∧ (xR ((s ++ w4).length) ((.fn fun k => some (AV.int IntKind.u8 (↑((s ++ w4).getD k (0 : UInt8)).toNat : Int)))) ((.fn fun k => bif (0 + L * 1).ble k && k.blt (0 + L * 1 + w4.length * 1) then (fun k => some (AV.int IntKind.u8 (↑(w4.getD k (0 : UInt8)).toNat : Int))) (k - (0 + L * 1)) else (T.fn fun k => some (AV.int IntKind.u8 (↑(s.getD k (0 : UInt8)).toNat : Int))).get k))) ∧ ((s ++ w4).length = 0 + L * 1 + w4.length * 1) ∧ (za fun c => some (pc c)) ∧ (za fun j => some (cell j)) ∧ (za fun k => some (AV.int IntKind.u8 (↑((s ++ w4).getD k (0 : UInt8)).toNat : Int))) ∧ K (Aeb pc cell (s ++ w4) z zd (L + w4.length) (s ++ w4).length G)) := by kernel_rfl
theorem awzn (R : AV → AHeap → Prop) (s : List UInt8) (L N r0 : Nat) (G : T (T AV)) (_K : AM → Prop) : Obl P 30 (fun v h => R v h) 0 _K [.run 13, .slot 6 (.slg 1 0 0 (r0 + 1) 0), .run 6, .ext s, .run 7, .can 0 [] [2] [], .done] ((Aen s L N G)) = ((AV.slg (1) (0) (0) L (0) = AV.slg (1) (0) (0) (r0 + (1 : Nat)) (0)) ∧ ((0 : Int) < (↑L : Int) ∧ (↑L : Int) < (2 : Int) ^ (40 : Nat) ∧ (↑L : Int).toNat ≤ N ∧ P.cellsOf (5) = (1 : Nat) ∧ zG (zq (T.fn fun k => some (AV.int IntKind.u8 (↑(s.getD k (0 : UInt8)).toNat : Int))) (0 : Nat) (↑L : Int).toNat) = some (AV.str s)) ∧ (R (.str s) (⟨.leaf, 0, G⟩))) := by kernel_rfl
theorem awzd (R : AV → AHeap → Prop) (cell : Nat → AV) (s : List UInt8) (zd L N r0 : Nat) (G : T (T AV)) (_K : AM → Prop) : Obl P 30 (fun v h => R v h) 1 _K [.run 13, .slot 6 (.slg 2 0 0 (r0 + 1) 0), .run 6, .ext s, .run 7, .can 1 [0] [2] [], .done] ((Aed cell s zd L N G)) = ((AV.slg (2) (0) (0) L (0) = AV.slg (2) (0) (0) (r0 + (1 : Nat)) (0)) ∧ ((0 : Int) < (↑L : Int) ∧ (↑L : Int) < (2 : Int) ^ (40 : Nat) ∧ (↑L : Int).toNat ≤ N ∧ P.cellsOf (5) = (1 : Nat) ∧ zG (zq (T.fn fun k => some (AV.int IntKind.u8 (↑(s.getD k (0 : UInt8)).toNat : Int))) (0 : Nat) (↑L : Int).toNat) = some (AV.str s)) ∧ (za fun j => some (cell j)) ∧ (R (.str s) (⟨(.node .leaf (some (.cells (.fn fun j => some (cell j)) zd 35 0 0 1 0 false .leaf)) .leaf), 1, G⟩))) := by kernel_rfl
theorem awzp (R : AV → AHeap → Prop) (pc : Nat → AV) (s : List UInt8) (z L N r0 : Nat) (G : T (T AV)) (_K : AM → Prop) : Obl P 30 (fun v h => R v h) 1 _K [.run 13, .slot 6 (.slg 2 0 0 (r0 + 1) 0), .run 6, .ext s, .run 7, .can 1 [0] [2] [], .done] ((Aep pc s z L N G)) = ((AV.slg (2) (0) (0) L (0) = AV.slg (2) (0) (0) (r0 + (1 : Nat)) (0)) ∧ ((0 : Int) < (↑L : Int) ∧ (↑L : Int) < (2 : Int) ^ (40 : Nat) ∧ (↑L : Int).toNat ≤ N ∧ P.cellsOf (5) = (1 : Nat) ∧ zG (zq (T.fn fun k => some (AV.int IntKind.u8 (↑(s.getD k (0 : UInt8)).toNat : Int))) (0 : Nat) (↑L : Int).toNat) = some (AV.str s)) ∧ (za fun c => some (pc c)) ∧ (R (.str s) (⟨(.node .leaf (some (.cells (.fn fun c => some (pc c)) z 9 0 0 1 0 false .leaf)) .leaf), 1, G⟩))) := by kernel_rfl
theorem awzb (R : AV → AHeap → Prop) (pc cell : Nat → AV) (s : List UInt8) (z zd L N r0 : Nat) (G : T (T AV)) (_K : AM → Prop) : Obl P 30 (fun v h => R v h) 2 _K [.run 13, .slot 6 (.slg 3 0 0 (r0 + 1) 0), .run 6, .ext s, .run 7, .can 2 [0, 1] [2] [], .done] ((Aeb pc cell s z zd L N G)) = ((AV.slg (3) (0) (0) L (0) = AV.slg (3) (0) (0) (r0 + (1 : Nat)) (0)) ∧ ((0 : Int) < (↑L : Int) ∧ (↑L : Int) < (2 : Int) ^ (40 : Nat) ∧ (↑L : Int).toNat ≤ N ∧ P.cellsOf (5) = (1 : Nat) ∧ zG (zq (T.fn fun k => some (AV.int IntKind.u8 (↑(s.getD k (0 : UInt8)).toNat : Int))) (0 : Nat) (↑L : Int).toNat) = some (AV.str s)) ∧ (za fun c => some (pc c)) ∧ (za fun j => some (cell j)) ∧ (R (.str s) (⟨(.node (.node .leaf (some (.cells (.fn fun j => some (cell j)) zd 35 0 0 1 0 false .leaf)) .leaf) (some (.cells (.fn fun c => some (pc c)) z 9 0 0 1 0 false .leaf)) .leaf), 2, G⟩))) := by kernel_rfl
noncomputable def HPp (g : Nat → List UInt8) (z : Nat) : AHeap := ⟨(.node .leaf (some (.cells (.fn fun c => some (es g c)) z 9 0 0 1 0 false .leaf)) .leaf), 1, GW⟩
noncomputable def HPb (g : Nat → List UInt8) (z : Nat) (f : Nat → Dg) (zd : Nat) : AHeap := ⟨(.node (.node .leaf (some (.cells (.fn fun c => some (el f c)) zd 35 0 0 1 0 false .leaf)) .leaf) (some (.cells (.fn fun c => some (es g c)) z 9 0 0 1 0 false .leaf)) .leaf), 2, GW⟩
theorem zga (p : List UInt8) (h : p.length < 1000000) : Goal P 0 49 (fun x _ => x = .str (zz p)) (zc P 49 [.str [], .str p] GW) := by
 have := zoc [] p (by show 0 + _ + 9 < _; omega)
 rw [zl2 _ h, List.nil_append] at this
 exact this
theorem zlx (n : Int) (t : List UInt8) (h : t.length < 1000000) : Goal P 0 49 (fun x _ => x = .str (row n ++ zz t)) (zc P 49 [.str (row n), .str t] GW) := by
 have hr := zi n
 have := zoc (row n) t (by omega)
 rw [zl2 _ h, List.append_assoc] at this
 exact this
theorem zoU (g : Nat → List UInt8) (i : Nat) : es g (0 + ((i : Nat) : Int).toNat * 1) = AV.str (g i) := by
 rw [Int.toNat_natCast, Nat.zero_add, Nat.mul_one]
 rfl
theorem aw_p {q z : Nat} {g : Nat → List UInt8} (hz : q * 1 ≤ z) {n nu : Int} (v0 : 0 ≤ nu) (v1 : nu ≤ 18446744073709551615) {t : List UInt8} {S : List UInt8} (hq : q ≤ 100000) (hS : S.length ≤ 100000000) (hb : ∀ j, j < q → (g j).length < 1000000) (he : (zX []).length < 1000000) :
 ∀ r i (s : List UInt8) L N, i + r = q → L = s.length → N = s.length → 0 < s.length → s ++ (sl g i r).flatMap zz ++ (zz (zX []) ++ row nu) = S →
  Goal P 1 30 (fun v h => v = .str S ∧ h = HPp g z) (AwP (es g) s t n nu (i : Int) q z L N GW)
 | 0, i, s, L, N, hi, hL, hN, h0, hs => by
  obtain rfl : q = i := by omega
  subst hL hN
  have hlen := congrArg List.length hs
  have hs' : s ++ (zz (zX []) ++ row nu) = S := by rw [← hs]; show _ = s ++ [] ++ _; rw [List.append_nil]
  have hp := zm nu
  rw [← hs'] at hS ⊢
  simp only [List.length_append] at hS
  obtain ⟨r0, hr0⟩ : ∃ r0, s.length + (zz (zX []) ++ row nu).length = r0 + 1 := ⟨s.length + (zz (zX []) ++ row nu).length - 1, by simp only [List.length_append]; omega⟩
  have h4 : (zz (zX []) ++ row nu).length = (zz (zX [])).length + (row nu).length := List.length_append
  have h5 : (s ++ (zz (zX []) ++ row nu)).length = s.length + (zz (zX []) ++ row nu).length := List.length_append
  exact Obl.goal (K := Goal P 1 30 _) mix (fun _ h => h) (cast (awpe _ (es g) _ _ (zX []) _ _ _ (zz (zX [])) (zz (zX []) ++ row nu) (q) (z) _ _ GW _).symm ⟨decide_eq_false (by omega), zbU, rfl, zga _ he, rfl, zcJ _ _ v0 v1 (by omega), ⟨Nat.le_refl _, by omega, by omega, by omega, by omega, room _ (by omega), by omega⟩, wn s _ _ rfl rfl, by rw [List.length_append]; omega, qg _, xz _, Obl.goal (K := Goal P 1 30 _) mix (fun _ h => h) (cast (awzp _ (es g) _ (z) _ _ (r0) GW _).symm ⟨by rw [hr0], ⟨by omega, by omega, by rw [Int.toNat_natCast]; omega, by kernel_rfl, vv _ _ (by rw [Int.toNat_natCast]; simp only [List.length_append])⟩, qg _, rfl, rfl⟩)⟩)
 | r + 1, i, s, L, N, hi, hL, hN, h0, hs => by
  subst hL hN
  rw [kW, List.flatMap_cons] at hs
  have hlen := congrArg List.length hs
  simp only [List.length_append] at hlen
  have hp : 0 < (zz (g i)).length := by unfold zz; rw [List.length_append]; have := zm ((g i).length : Nat); omega
  have ih := aw_p hz v0 v1 (t := t) (n := n) hq hS hb he r (i + 1) (s ++ zz (g i)) (s.length + (zz (g i)).length) (s ++ zz (g i)).length (by omega) (by rw [List.length_append]) rfl (by rw [List.length_append]; omega) (by rw [← hs]; simp only [List.append_assoc])
  exact Obl.goal (K := Goal P 1 30 _) mix (fun _ h => h) (cast (awpl _ (es g) _ _ (g i) _ _ _ (zz (g i)) (q) (z) _ _ GW _).symm ⟨decide_eq_true (by omega), ⟨by omega, by omega⟩, by rw [Int.toNat_natCast]; omega, zoU g i, zga _ (hb i (by omega)), ⟨Nat.le_refl _, by omega, by omega, by omega, by omega, room _ (by omega), by omega⟩, wn s _ _ rfl rfl, by rw [List.length_append]; omega, qg _, xz _, by rw [up1 i (by omega)]; exact ih⟩)
theorem aw_b {m zd : Nat} {f : Nat → Dg} (hm : m < 100000) (hzd : m * 3 ≤ zd) {l : List Dg} (hl : So (sl f 0 m) l) {q z : Nat} {g : Nat → List UInt8} (hz : q * 1 ≤ z) {n nu : Int} (v0 : 0 ≤ nu) (v1 : nu ≤ 18446744073709551615) {t : List UInt8} {S : List UInt8} (hq : q ≤ 100000) (hS : S.length ≤ 100000000) (hb : ∀ j, j < q → (g j).length < 1000000) (he : (zX l).length < 1000000) :
 ∀ r i (s : List UInt8) L N, i + r = q → L = s.length → N = s.length → 0 < s.length → s ++ (sl g i r).flatMap zz ++ (zz (zX l) ++ row nu) = S →
  Goal P 2 30 (fun v h => v = .str S ∧ h = HPb g z f zd) (AwB (es g) (el f) s t n nu (i : Int) m q z zd L N GW)
 | 0, i, s, L, N, hi, hL, hN, h0, hs => by
  obtain rfl : q = i := by omega
  subst hL hN
  have hlen := congrArg List.length hs
  have hs' : s ++ (zz (zX l) ++ row nu) = S := by rw [← hs]; show _ = s ++ [] ++ _; rw [List.append_nil]
  have hp := zm nu
  rw [← hs'] at hS ⊢
  simp only [List.length_append] at hS
  obtain ⟨r0, hr0⟩ : ∃ r0, s.length + (zz (zX l) ++ row nu).length = r0 + 1 := ⟨s.length + (zz (zX l) ++ row nu).length - 1, by simp only [List.length_append]; omega⟩
  have h4 : (zz (zX l) ++ row nu).length = (zz (zX l)).length + (row nu).length := List.length_append
  have h5 : (s ++ (zz (zX l) ++ row nu)).length = s.length + (zz (zX l) ++ row nu).length := List.length_append
  exact Obl.goal (K := Goal P 2 30 _) mix (fun _ h => h) (cast (awbe _ (es g) (el f) _ _ (zX l) _ _ _ (zz (zX l)) (zz (zX l) ++ row nu) (m) (q) (z) (zd) _ _ GW _).symm ⟨decide_eq_false (by omega), zg _, zg _, zcc (off := 0) (cp := 0) hzd hm hl, rfl, zga _ he, rfl, zcJ _ _ v0 v1 (by omega), ⟨Nat.le_refl _, by omega, by omega, by omega, by omega, room _ (by omega), by omega⟩, wn s _ _ rfl rfl, by rw [List.length_append]; omega, qg _, zg _, xz _, Obl.goal (K := Goal P 2 30 _) mix (fun _ h => h) (cast (awzb _ (es g) (el f) _ (z) (zd) _ _ (r0) GW _).symm ⟨by rw [hr0], ⟨by omega, by omega, by rw [Int.toNat_natCast]; omega, by kernel_rfl, vv _ _ (by rw [Int.toNat_natCast]; simp only [List.length_append])⟩, qg _, zg _, rfl, rfl⟩)⟩)
 | r + 1, i, s, L, N, hi, hL, hN, h0, hs => by
  subst hL hN
  rw [kW, List.flatMap_cons] at hs
  have hlen := congrArg List.length hs
  simp only [List.length_append] at hlen
  have hp : 0 < (zz (g i)).length := by unfold zz; rw [List.length_append]; have := zm ((g i).length : Nat); omega
  have ih := aw_b hm hzd hl hz v0 v1 (t := t) (n := n) hq hS hb he r (i + 1) (s ++ zz (g i)) (s.length + (zz (g i)).length) (s ++ zz (g i)).length (by omega) (by rw [List.length_append]) rfl (by rw [List.length_append]; omega) (by rw [← hs]; simp only [List.append_assoc])
  exact Obl.goal (K := Goal P 2 30 _) mix (fun _ h => h) (cast (awbl _ (es g) (el f) _ _ (g i) _ _ _ (zz (g i)) (m) (q) (z) (zd) _ _ GW _).symm ⟨decide_eq_true (by omega), ⟨by omega, by omega⟩, by rw [Int.toNat_natCast]; omega, zoU g i, zga _ (hb i (by omega)), ⟨Nat.le_refl _, by omega, by omega, by omega, by omega, room _ (by omega), by omega⟩, wn s _ _ rfl rfl, by rw [List.length_append]; omega, qg _, zg _, xz _, by rw [up1 i (by omega)]; exact ih⟩)
theorem zld {n nu : Int} (n0 : 0 ≤ n) (n1 : n ≤ 14) (v0 : 0 ≤ nu) (v1 : nu ≤ 18446744073709551615) {t : List UInt8} (ht : t.length < 1000000) (he : (zX []).length < 1000000) (hF : (vw n t [] [] nu).length ≤ 100000000) :
 Goal P 0 30 (fun v h => v = .str (vw n t [] [] nu) ∧ h = ⟨.leaf, 0, GW⟩) (zc P 30 [.agg [.int .i64 n, .str t, .nils 0 0, .nils 0 0, .int .u64 nu]] GW) := by
 have w : IntKind.u64.wrap n = n := IntWalk.u64_in _ (by omega)
 have g48 := zcJ [] n (by omega) (by omega) (by show 0 + 9 < _; omega)
 rw [List.nil_append] at g48
 have hr := zi n
 have g49 := zlx n t ht
 have hpn := zm n
 have hlt : (row n ++ zz t).length = (row n).length + (row (t.length : Nat)).length + t.length := by unfold zz; simp only [List.length_append]; omega
 have hrt := zi (t.length : Nat)
 have w2 : IntKind.u64.wrap ((0 : Nat) : Int) = ((0 : Nat) : Int) := IntWalk.u64_in _ (by omega)
 have gq := zcJ [] ((0 : Nat) : Int) (by omega) (by omega) (by show 0 + 9 < _; omega)
 rw [List.nil_append] at gq
 have hrq := zi ((0 : Nat) : Int)
 have hpq := zm ((0 : Nat) : Int)
 have e : row n ++ zz t ++ row ((0 : Nat) : Int) ++ (zz (zX []) ++ row nu) = vw n t [] [] nu := by
  unfold vw zz
  show _ = row n ++ (row (t.length : Nat) ++ (t ++ (row ((0 : Nat) : Int) ++ ([] ++ _))))
  simp only [List.append_assoc, List.nil_append]
 have hp := zm nu
 have h4 : (zz (zX []) ++ row nu).length = (zz (zX [])).length + (row nu).length := List.length_append
 have h5 : (row n ++ zz t ++ row ((0 : Nat) : Int)).length = (row n ++ zz t).length + (row ((0 : Nat) : Int)).length := List.length_append
 rw [← e] at hF ⊢
 have h6 : (row n ++ zz t ++ row ((0 : Nat) : Int) ++ (zz (zX []) ++ row nu)).length = (row n ++ zz t ++ row ((0 : Nat) : Int)).length + (zz (zX []) ++ row nu).length := List.length_append
 obtain ⟨r0, hr0⟩ : ∃ r0, (row n ++ zz t).length + (row ((0 : Nat) : Int)).length + (zz (zX []) ++ row nu).length = r0 + 1 := ⟨(row n ++ zz t).length + (row ((0 : Nat) : Int)).length + (zz (zX []) ++ row nu).length - 1, by omega⟩
 exact Obl.goal (K := Goal P 0 30 _) mix (fun _ h => h) (cast (awne _ _ (row n) (row n ++ zz t) (row ((0 : Nat) : Int)) (zX []) _ _ (zz (zX [])) (zz (zX []) ++ row nu) GW _).symm ⟨decide_eq_false (by omega), decide_eq_false (by omega), by rw [w]; exact g48, rfl, g49, ⟨Nat.le_refl _, by omega, room _ (by omega)⟩, gq, ⟨Nat.le_refl _, by omega, by omega, by omega, by omega, room _ (by omega), by omega⟩, wn _ _ _ rfl rfl, by rw [List.length_append]; omega, xz _, zbU, rfl, zga _ he, rfl, zcJ _ _ v0 v1 (by omega), ⟨Nat.le_refl _, by omega, by omega, by omega, by omega, room _ (by omega), by omega⟩, wn _ _ _ (by simp only [List.length_append]) rfl, by rw [List.length_append]; omega, xz _, Obl.goal (K := Goal P 0 30 _) mix (fun _ h => h) (cast (awzn _ _ _ _ (r0) GW _).symm ⟨by rw [hr0], ⟨by omega, by omega, by rw [Int.toNat_natCast]; omega, by kernel_rfl, vv _ _ (by rw [Int.toNat_natCast]; simp only [List.length_append])⟩, rfl, rfl⟩)⟩)
theorem zkt {m zd : Nat} {f : Nat → Dg} (hm : m < 100000) (hzd : m * 3 ≤ zd) {l : List Dg} (hl : So (sl f 0 m) l) {n nu : Int} (n0 : 0 ≤ n) (n1 : n ≤ 14) (v0 : 0 ≤ nu) (v1 : nu ≤ 18446744073709551615) {t : List UInt8} (ht : t.length < 1000000) (he : (zX l).length < 1000000) (hF : (vw n t [] l nu).length ≤ 100000000) :
 Goal P 1 30 (fun v h => v = .str (vw n t [] l nu) ∧ h = HCo f 0 zd) (zf P 30 [.agg [.int .i64 n, .str t, .nils 0 0, .slg 0 0 0 m 0, .int .u64 nu]] (HCo f 0 zd)) := by
 have w : IntKind.u64.wrap n = n := IntWalk.u64_in _ (by omega)
 have g48 := zcJ [] n (by omega) (by omega) (by show 0 + 9 < _; omega)
 rw [List.nil_append] at g48
 have hr := zi n
 have g49 := zlx n t ht
 have hpn := zm n
 have hlt : (row n ++ zz t).length = (row n).length + (row (t.length : Nat)).length + t.length := by unfold zz; simp only [List.length_append]; omega
 have hrt := zi (t.length : Nat)
 have w2 : IntKind.u64.wrap ((0 : Nat) : Int) = ((0 : Nat) : Int) := IntWalk.u64_in _ (by omega)
 have gq := zcJ [] ((0 : Nat) : Int) (by omega) (by omega) (by show 0 + 9 < _; omega)
 rw [List.nil_append] at gq
 have hrq := zi ((0 : Nat) : Int)
 have hpq := zm ((0 : Nat) : Int)
 have e : row n ++ zz t ++ row ((0 : Nat) : Int) ++ (zz (zX l) ++ row nu) = vw n t [] l nu := by
  unfold vw zz
  show _ = row n ++ (row (t.length : Nat) ++ (t ++ (row ((0 : Nat) : Int) ++ ([] ++ _))))
  simp only [List.append_assoc, List.nil_append]
 have hp := zm nu
 have h4 : (zz (zX l) ++ row nu).length = (zz (zX l)).length + (row nu).length := List.length_append
 have h5 : (row n ++ zz t ++ row ((0 : Nat) : Int)).length = (row n ++ zz t).length + (row ((0 : Nat) : Int)).length := List.length_append
 rw [← e] at hF ⊢
 have h6 : (row n ++ zz t ++ row ((0 : Nat) : Int) ++ (zz (zX l) ++ row nu)).length = (row n ++ zz t ++ row ((0 : Nat) : Int)).length + (zz (zX l) ++ row nu).length := List.length_append
 obtain ⟨r0, hr0⟩ : ∃ r0, (row n ++ zz t).length + (row ((0 : Nat) : Int)).length + (zz (zX l) ++ row nu).length = r0 + 1 := ⟨(row n ++ zz t).length + (row ((0 : Nat) : Int)).length + (zz (zX l) ++ row nu).length - 1, by omega⟩
 exact Obl.goal (K := Goal P 1 30 _) mix (fun _ h => h) (cast (awde _ (el f) _ (row n) (row n ++ zz t) (row ((0 : Nat) : Int)) (zX l) _ _ (zz (zX l)) (zz (zX l) ++ row nu) (m) (zd) GW _).symm ⟨decide_eq_false (by omega), decide_eq_false (by omega), by rw [w]; exact g48, rfl, g49, ⟨Nat.le_refl _, by omega, room _ (by omega)⟩, gq, ⟨Nat.le_refl _, by omega, by omega, by omega, by omega, room _ (by omega), by omega⟩, wn _ _ _ rfl rfl, by rw [List.length_append]; omega, zg _, xz _, zg _, zg _, zcc (off := 0) (cp := 0) hzd hm hl, rfl, zga _ he, rfl, zcJ _ _ v0 v1 (by omega), ⟨Nat.le_refl _, by omega, by omega, by omega, by omega, room _ (by omega), by omega⟩, wn _ _ _ (by simp only [List.length_append]) rfl, by rw [List.length_append]; omega, zg _, xz _, Obl.goal (K := Goal P 1 30 _) mix (fun _ h => h) (cast (awzd _ (el f) _ (zd) _ _ (r0) GW _).symm ⟨by rw [hr0], ⟨by omega, by omega, by rw [Int.toNat_natCast]; omega, by kernel_rfl, vv _ _ (by rw [Int.toNat_natCast]; simp only [List.length_append])⟩, zg _, rfl, rfl⟩)⟩)
theorem zlo {q z : Nat} {g : Nat → List UInt8} (hz : q * 1 ≤ z) (hq : q ≤ 100000) (hb : ∀ j, j < q → (g j).length < 1000000) {n nu : Int} (n0 : 0 ≤ n) (n1 : n ≤ 14) (v0 : 0 ≤ nu) (v1 : nu ≤ 18446744073709551615) {t : List UInt8} (ht : t.length < 1000000) (he : (zX []).length < 1000000) (hF : (vw n t (sl g 0 q) [] nu).length ≤ 100000000) :
 Goal P 1 30 (fun v h => v = .str (vw n t (sl g 0 q) [] nu) ∧ h = HPp g z) (zf P 30 [.agg [.int .i64 n, .str t, .slg 0 0 0 q 0, .nils 0 0, .int .u64 nu]] (HPp g z)) := by
 have w : IntKind.u64.wrap n = n := IntWalk.u64_in _ (by omega)
 have g48 := zcJ [] n (by omega) (by omega) (by show 0 + 9 < _; omega)
 rw [List.nil_append] at g48
 have hr := zi n
 have g49 := zlx n t ht
 have hpn := zm n
 have hlt : (row n ++ zz t).length = (row n).length + (row (t.length : Nat)).length + t.length := by unfold zz; simp only [List.length_append]; omega
 have hrt := zi (t.length : Nat)
 have w2 : IntKind.u64.wrap ((q : Nat) : Int) = ((q : Nat) : Int) := IntWalk.u64_in _ (by omega)
 have gq := zcJ [] ((q : Nat) : Int) (by omega) (by omega) (by show 0 + 9 < _; omega)
 rw [List.nil_append] at gq
 have hrq := zi ((q : Nat) : Int)
 have hpq := zm ((q : Nat) : Int)
 have hS := hF
 have e : row n ++ zz t ++ row ((q : Nat) : Int) ++ (sl g 0 q).flatMap zz ++ (zz (zX []) ++ row nu) = vw n t (sl g 0 q) [] nu := by
  unfold vw zz
  rw [qV]
  simp only [List.append_assoc]
 exact Obl.goal (K := Goal P 1 30 _) mix (fun _ h => h) (cast (awps _ (es g) _ (row n) (row n ++ zz t) (row ((q : Nat) : Int)) _ _ (q) (z) GW _).symm ⟨decide_eq_false (by omega), decide_eq_false (by omega), by rw [w]; exact g48, rfl, g49, ⟨Nat.le_refl _, by omega, room _ (by omega)⟩, by rw [w2]; exact gq, ⟨Nat.le_refl _, by omega, by omega, by omega, by omega, room _ (by omega), by omega⟩, wn _ _ _ rfl rfl, by rw [List.length_append]; omega, qg _, xz _, aw_p hz v0 v1 hq hF hb he q 0 _ _ _ (by omega) (by simp only [List.length_append]) rfl (by simp only [List.length_append]; omega) e⟩)
theorem zlq {m zd : Nat} {f : Nat → Dg} (hm : m < 100000) (hzd : m * 3 ≤ zd) {l : List Dg} (hl : So (sl f 0 m) l) {q z : Nat} {g : Nat → List UInt8} (hz : q * 1 ≤ z) (hq : q ≤ 100000) (hb : ∀ j, j < q → (g j).length < 1000000) {n nu : Int} (n0 : 0 ≤ n) (n1 : n ≤ 14) (v0 : 0 ≤ nu) (v1 : nu ≤ 18446744073709551615) {t : List UInt8} (ht : t.length < 1000000) (he : (zX l).length < 1000000) (hF : (vw n t (sl g 0 q) l nu).length ≤ 100000000) :
 Goal P 2 30 (fun v h => v = .str (vw n t (sl g 0 q) l nu) ∧ h = HPb g z f zd) (zf P 30 [.agg [.int .i64 n, .str t, .slg 0 0 0 q 0, .slg 1 0 0 m 0, .int .u64 nu]] (HPb g z f zd)) := by
 have w : IntKind.u64.wrap n = n := IntWalk.u64_in _ (by omega)
 have g48 := zcJ [] n (by omega) (by omega) (by show 0 + 9 < _; omega)
 rw [List.nil_append] at g48
 have hr := zi n
 have g49 := zlx n t ht
 have hpn := zm n
 have hlt : (row n ++ zz t).length = (row n).length + (row (t.length : Nat)).length + t.length := by unfold zz; simp only [List.length_append]; omega
 have hrt := zi (t.length : Nat)
 have w2 : IntKind.u64.wrap ((q : Nat) : Int) = ((q : Nat) : Int) := IntWalk.u64_in _ (by omega)
 have gq := zcJ [] ((q : Nat) : Int) (by omega) (by omega) (by show 0 + 9 < _; omega)
 rw [List.nil_append] at gq
 have hrq := zi ((q : Nat) : Int)
 have hpq := zm ((q : Nat) : Int)
 have hS := hF
 have e : row n ++ zz t ++ row ((q : Nat) : Int) ++ (sl g 0 q).flatMap zz ++ (zz (zX l) ++ row nu) = vw n t (sl g 0 q) l nu := by
  unfold vw zz
  rw [qV]
  simp only [List.append_assoc]
 exact Obl.goal (K := Goal P 2 30 _) mix (fun _ h => h) (cast (awbs _ (es g) (el f) _ (row n) (row n ++ zz t) (row ((q : Nat) : Int)) _ _ (m) (q) (z) (zd) GW _).symm ⟨decide_eq_false (by omega), decide_eq_false (by omega), by rw [w]; exact g48, rfl, g49, ⟨Nat.le_refl _, by omega, room _ (by omega)⟩, by rw [w2]; exact gq, ⟨Nat.le_refl _, by omega, by omega, by omega, by omega, room _ (by omega), by omega⟩, wn _ _ _ rfl rfl, by rw [List.length_append]; omega, qg _, zg _, xz _, aw_b hm hzd hl hz v0 v1 hq hF hb he q 0 _ _ _ (by omega) (by simp only [List.length_append]) rfl (by simp only [List.length_append]; omega) e⟩)
end Go.Proofs.YtdbfpjgnlfejmaaDoor.dg
end
section
set_option maxRecDepth 100000
set_option linter.unusedVariables false
namespace Go.Proofs.YtdbfpjgnlfejmaaDoor.dg
open Go Ev mq
noncomputable def O1 (w : List UInt8) (G : T (T AV)) : AM := ⟨⟨10, 95, (.node .leaf (some (.str w)) .leaf),
 [.ops (rg P 10 [1, 1, 1, 1, 0]).toList (rg P 10 [1, 1, 1, 1, 0]).toList, .code (cd P (10 : Nat) [(1 : Nat), (1 : Nat), (1 : Nat), (1 : Nat), (1 : Nat)])], [], .run, CallKind.normal, none⟩,
 [],
 ⟨.leaf, 0, G⟩⟩
noncomputable def OL1 (w : List UInt8) (i : Int) (G : T (T AV)) : AM := ⟨⟨10, 95, (.node (.node (.node (.node .leaf (some (.int .i64 i)) .leaf) none .leaf) none .leaf) (some (.str w)) .leaf),
 [.code (cd P (10 : Nat) [(1 : Nat), (1 : Nat), (1 : Nat), (0 : Nat), (1 : Nat), (0 : Nat), (1 : Nat), (1 : Nat), (1 : Nat), (0 : Nat), (0 : Nat)]), .inLoop (cd P (10 : Nat) [(1 : Nat), (1 : Nat), (1 : Nat), (0 : Nat), (1 : Nat), (0 : Nat), (1 : Nat), (1 : Nat), (1 : Nat), (0 : Nat), (0 : Nat)]), .inBlock 0, .code (cd P (10 : Nat) [(1 : Nat), (1 : Nat), (1 : Nat), (1 : Nat)])], [], .run, CallKind.normal, none⟩,
 [],
 ⟨.leaf, 0, G⟩⟩
noncomputable def OL2 (w : List UInt8) (i : Int) (G : T (T AV)) : AM := ⟨⟨10, 95, (.node (.node (.node .leaf none (.node .leaf (some (.int .i64 i)) .leaf)) none .leaf) (some (.str w)) .leaf),
 [.code (cd P (10 : Nat) [(1 : Nat), (1 : Nat), (1 : Nat), (1 : Nat), (1 : Nat), (0 : Nat), (1 : Nat), (0 : Nat), (1 : Nat), (1 : Nat), (0 : Nat), (0 : Nat)]), .inLoop (cd P (10 : Nat) [(1 : Nat), (1 : Nat), (1 : Nat), (1 : Nat), (1 : Nat), (0 : Nat), (1 : Nat), (0 : Nat), (1 : Nat), (1 : Nat), (0 : Nat), (0 : Nat)]), .inBlock 2, .code (cd P (10 : Nat) [(1 : Nat), (1 : Nat), (1 : Nat), (1 : Nat), (1 : Nat), (1 : Nat)])], [], .run, CallKind.normal, none⟩,
 [],
 ⟨.leaf, 0, G⟩⟩
theorem ob (R : AV → Prop) (s w : List UInt8) (G : T (T AV)) (K : AM → Prop) : Obl P 10 (fun v _ => R v) 0 K [.run 10, .op, .slot 18 (.str w), .run 6, .callh [] [0] (.tup [.agg [.int .i64 0, .str [], .str [], .str []], .int .i64 4]) ⟨(.node .leaf (some (.cells (.node (.node (.node .leaf (some (.str [])) .leaf) (some (.str [])) .leaf) (some (.int .i64 0)) (.node .leaf (some (.str [])) .leaf)) 4 39 0 0 1 0 false .leaf)) .leaf), 1, G⟩, .run 28, .can 0 [] [0] []] ((zc P 10 [.str s] G)) = ((((0 : Int) ≤ if decide ((1000 : Int) < (↑s.length : Int)) = true then (1000 : Int) else (↑s.length : Int)) ∧ (if decide ((1000 : Int) < (↑s.length : Int)) = true then (1000 : Int) else (↑s.length : Int)) ≤ (↑s.length : Int)) ∧ (AV.str (List.take ((if decide ((1000 : Int) < (↑s.length : Int)) = true then (1000 : Int) else (↑s.length : Int)).toNat - (0 : Nat)) (List.drop (0 : Nat) s)) = AV.str w) ∧ (Goal P (0) 23 (fun v h => v = AV.tup [AV.agg [AV.int IntKind.i64 (0 : Int), AV.str [], AV.str [], AV.str []], AV.int IntKind.i64 (4 : Int)] ∧ h = { objs := T.leaf.node (some (AObj.cells (((T.leaf.node (some (AV.str [])) T.leaf).node (some (AV.str [])) T.leaf).node (some (AV.int IntKind.i64 (0 : Int))) (T.leaf.node (some (AV.str [])) T.leaf)) (4 : Nat) (39 : TypeId) (0 : Nat) (0 : Nat) (1 : Nat) (0 : Nat) false T.leaf)) T.leaf, next := (1 : Nat), glob := G }) (zc P 23 [.str w] G)) ∧ K (O1 w G)) := by kernel_rfl
theorem oo (R : AV → Prop) (s w a b c : List UInt8) (k : Int) (G : T (T AV)) (K : AM → Prop) : Obl P 10 (fun v _ => R v) 0 K [.run 10, .op, .slot 18 (.str w), .run 6, .callh [] [0] (.tup [.agg [.int .i64 k, .str a, .str b, .str c], .int .i64 0]) ⟨(.node .leaf (some (.cells (.node (.node (.node .leaf (some (.str c)) .leaf) (some (.str a)) .leaf) (some (.int .i64 k)) (.node .leaf (some (.str b)) .leaf)) 4 39 0 0 1 0 false .leaf)) .leaf), 1, G⟩, .run 18, .callv [0] (.tup [.str w, .int .i64 0]), .run 17, .know 37 false, .run 8, .can 0 [] [0, 7] []] ((zc P 10 [.str s] G)) = ((((0 : Int) ≤ if decide ((1000 : Int) < (↑s.length : Int)) = true then (1000 : Int) else (↑s.length : Int)) ∧ (if decide ((1000 : Int) < (↑s.length : Int)) = true then (1000 : Int) else (↑s.length : Int)) ≤ (↑s.length : Int)) ∧ (AV.str (List.take ((if decide ((1000 : Int) < (↑s.length : Int)) = true then (1000 : Int) else (↑s.length : Int)).toNat - (0 : Nat)) (List.drop (0 : Nat) s)) = AV.str w) ∧ (Goal P (0) 23 (fun v h => v = AV.tup [AV.agg [AV.int IntKind.i64 k, AV.str a, AV.str b, AV.str c], AV.int IntKind.i64 (0 : Int)] ∧ h = { objs := T.leaf.node (some (AObj.cells (((T.leaf.node (some (AV.str c)) T.leaf).node (some (AV.str a)) T.leaf).node (some (AV.int IntKind.i64 k)) (T.leaf.node (some (AV.str b)) T.leaf)) (4 : Nat) (39 : TypeId) (0 : Nat) (0 : Nat) (1 : Nat) (0 : Nat) false T.leaf)) T.leaf, next := (1 : Nat), glob := G }) (zc P 23 [.str w] G)) ∧ (Goal P (0) 33 (fun v _ => v = AV.tup [AV.str w, AV.int IntKind.i64 (0 : Int)]) (zc P 33 [.agg [.int .i64 k, .str a, .str b, .str c]] G)) ∧ ((!w == w) = false) ∧ K (OL1 w (Int.ofNat (0)) G)) := by kernel_rfl
theorem ol (R : AV → Prop) (w u : List UInt8) (i : Int) (G : T (T AV)) (K : AM → Prop) : Obl P 10 (fun v _ => R v) 0 K [.run 8, .know 41 true, .run 8, .op, .slot 47 (.str u), .run 1, .callh [] [0] (.tup [.agg [.int .i64 0, .str [], .str [], .str []], .int .i64 4]) ⟨(.node .leaf (some (.cells (.node (.node (.node .leaf (some (.str [])) .leaf) (some (.str [])) .leaf) (some (.int .i64 0)) (.node .leaf (some (.str [])) .leaf)) 4 39 0 0 1 0 false .leaf)) .leaf), 1, G⟩, .run 21, .can 0 [] [0, 7] []] ((OL1 w i G)) = ((decide (i < (↑w.length : Int)) = true) ∧ ((0 : Int) ≤ i ∧ i ≤ (↑w.length : Int)) ∧ (AV.str (List.take (i.toNat - (0 : Nat)) (List.drop (0 : Nat) w)) = AV.str u) ∧ (Goal P (0) 23 (fun v h => v = AV.tup [AV.agg [AV.int IntKind.i64 (0 : Int), AV.str [], AV.str [], AV.str []], AV.int IntKind.i64 (4 : Int)] ∧ h = { objs := T.leaf.node (some (AObj.cells (((T.leaf.node (some (AV.str [])) T.leaf).node (some (AV.str [])) T.leaf).node (some (AV.int IntKind.i64 (0 : Int))) (T.leaf.node (some (AV.str [])) T.leaf)) (4 : Nat) (39 : TypeId) (0 : Nat) (0 : Nat) (1 : Nat) (0 : Nat) false T.leaf)) T.leaf, next := (1 : Nat), glob := G }) (zc P 23 [.str u] G)) ∧ K (OL1 w (IntKind.i64.wrap (i + (1 : Int))) G)) := by kernel_rfl
theorem oe (R : AV → Prop) (w : List UInt8) (i : Int) (G : T (T AV)) (K : AM → Prop) : Obl P 10 (fun v _ => R v) 0 K [.run 8, .know 41 false, .run 4, .can 0 [] [0] []] ((OL1 w i G)) = ((decide (i < (↑w.length : Int)) = false) ∧ K (O1 w G)) := by kernel_rfl
theorem oan (R : AV → Prop) (t w : List UInt8) (k nu : Int) (G : T (T AV)) (K : AM → Prop) : Obl P 10 (fun v _ => R v) 0 K [.run 2, .callh [] [0] (.tup [.agg [.int .i64 k, .str t, .nils 0 0, .nils 0 0, .int .u64 nu], .int .i64 0]) ⟨(.node .leaf (some (.cells (.node (.node (.node .leaf (some (.nils 0 0)) .leaf) (some (.str t)) .leaf) (some (.int .i64 k)) (.node (.node .leaf (some (.int .u64 nu)) .leaf) (some (.nils 0 0)) .leaf)) 5 45 0 0 1 0 false .leaf)) .leaf), 1, G⟩, .run 19, .callv [0] (.str w), .run 3, .know 70 false, .run 8, .can 0 [] [0, 11] []] ((O1 w G)) = ((Goal P (0) 25 (fun v h => v = AV.tup [AV.agg [AV.int IntKind.i64 k, AV.str t, AV.nils (0 : Nat) (0 : Nat), AV.nils (0 : Nat) (0 : Nat), AV.int IntKind.u64 nu], AV.int IntKind.i64 (0 : Int)] ∧ h = { objs := T.leaf.node (some (AObj.cells (((T.leaf.node (some (AV.nils (0 : Nat) (0 : Nat))) T.leaf).node (some (AV.str t)) T.leaf).node (some (AV.int IntKind.i64 k)) ((T.leaf.node (some (AV.int IntKind.u64 nu)) T.leaf).node (some (AV.nils (0 : Nat) (0 : Nat))) T.leaf)) (5 : Nat) (45 : TypeId) (0 : Nat) (0 : Nat) (1 : Nat) (0 : Nat) false T.leaf)) T.leaf, next := (1 : Nat), glob := G }) (zc P 25 [.str w] G)) ∧ (Goal P (0) 30 (fun v _ => v = AV.str w) (zc P 30 [.agg [.int .i64 k, .str t, .nils 0 0, .nils 0 0, .int .u64 nu]] G)) ∧ ((!w == w) = false) ∧ K (OL2 w (Int.ofNat (0)) G)) := by kernel_rfl
theorem oad (R : AV → Prop) (cell : Nat → AV) (t w : List UInt8) (k nu : Int) (m zd : Nat) (G : T (T AV)) (K : AM → Prop) : Obl P 10 (fun v _ => R v) 0 K [.run 2, .callh [] [0] (.tup [.agg [.int .i64 k, .str t, .nils 0 0, .slg 1 0 0 m 0, .int .u64 nu], .int .i64 0]) ⟨(.node (.node .leaf (some (.cells (.fn fun j => some (cell j)) zd 35 0 0 1 0 false .leaf)) .leaf) (some (.cells (.node (.node (.node .leaf (some (.slg 1 0 0 m 0)) .leaf) (some (.str t)) .leaf) (some (.int .i64 k)) (.node (.node .leaf (some (.int .u64 nu)) .leaf) (some (.nils 0 0)) .leaf)) 5 45 0 0 1 0 false .leaf)) .leaf), 2, G⟩, .run 19, .callh [(1, 0, [3])] [0] (.str w) ⟨(.node .leaf (some (.cells (.fn fun j => some (cell j)) zd 35 0 0 1 0 false .leaf)) .leaf), 1, G⟩, .run 3, .know 70 false, .run 8, .can 0 [] [0, 11] []] ((O1 w G)) = ((za fun j => some (cell j)) ∧ (Goal P (0) 25 (fun v h => v = AV.tup [AV.agg [AV.int IntKind.i64 k, AV.str t, AV.nils (0 : Nat) (0 : Nat), AV.slg (1 : Nat) (0 : Nat) (0 : Nat) m (0 : Nat), AV.int IntKind.u64 nu], AV.int IntKind.i64 (0 : Int)] ∧ h = { objs := (T.leaf.node (some (AObj.cells (T.fn fun j => some (cell j)) zd (35 : TypeId) (0 : Nat) (0 : Nat) (1 : Nat) (0 : Nat) false T.leaf)) T.leaf).node (some (AObj.cells (((T.leaf.node (some (AV.slg (1 : Nat) (0 : Nat) (0 : Nat) m (0 : Nat))) T.leaf).node (some (AV.str t)) T.leaf).node (some (AV.int IntKind.i64 k)) ((T.leaf.node (some (AV.int IntKind.u64 nu)) T.leaf).node (some (AV.nils (0 : Nat) (0 : Nat))) T.leaf)) (5 : Nat) (45 : TypeId) (0 : Nat) (0 : Nat) (1 : Nat) (0 : Nat) false T.leaf)) T.leaf, next := (2 : Nat), glob := G }) (zc P 25 [.str w] G)) ∧ (za fun j => some (cell j)) ∧ (za fun j => some (cell j)) ∧ (Goal P (1) 30 (fun v h => v = AV.str w ∧ h = { objs := T.leaf.node (some (AObj.cells (T.fn fun j => some (cell j)) zd (35 : TypeId) (0 : Nat) (0 : Nat) (1 : Nat) (0 : Nat) false T.leaf)) T.leaf, next := (1 : Nat), glob := G }) (zf P 30 [.agg [.int .i64 k, .str t, .nils 0 0, .slg 0 0 0 m 0, .int .u64 nu]] ⟨(.node .leaf (some (.cells (.fn fun j => some (cell j)) zd 35 0 0 1 0 false .leaf)) .leaf), 1, G⟩)) ∧ ((!w == w) = false) ∧ K (OL2 w (Int.ofNat (0)) G)) := by kernel_rfl
theorem oap (R : AV → Prop) (pc : Nat → AV) (t w : List UInt8) (k nu : Int) (q z : Nat) (G : T (T AV)) (K : AM → Prop) : Obl P 10 (fun v _ => R v) 0 K [.run 2, .callh [] [0] (.tup [.agg [.int .i64 k, .str t, .slg 1 0 0 q 0, .nils 0 0, .int .u64 nu], .int .i64 0]) ⟨(.node (.node .leaf (some (.cells (.fn fun j => some (pc j)) z 9 0 0 1 0 false .leaf)) .leaf) (some (.cells (.node (.node (.node .leaf (some (.nils 0 0)) .leaf) (some (.str t)) .leaf) (some (.int .i64 k)) (.node (.node .leaf (some (.int .u64 nu)) .leaf) (some (.slg 1 0 0 q 0)) .leaf)) 5 45 0 0 1 0 false .leaf)) .leaf), 2, G⟩, .run 19, .callh [(1, 0, [2])] [0] (.str w) ⟨(.node .leaf (some (.cells (.fn fun j => some (pc j)) z 9 0 0 1 0 false .leaf)) .leaf), 1, G⟩, .run 3, .know 70 false, .run 8, .can 0 [] [0, 11] []] ((O1 w G)) = ((za fun j => some (pc j)) ∧ (Goal P (0) 25 (fun v h => v = AV.tup [AV.agg [AV.int IntKind.i64 k, AV.str t, AV.slg (1 : Nat) (0 : Nat) (0 : Nat) q (0 : Nat), AV.nils (0 : Nat) (0 : Nat), AV.int IntKind.u64 nu], AV.int IntKind.i64 (0 : Int)] ∧ h = { objs := (T.leaf.node (some (AObj.cells (T.fn fun j => some (pc j)) z (9 : TypeId) (0 : Nat) (0 : Nat) (1 : Nat) (0 : Nat) false T.leaf)) T.leaf).node (some (AObj.cells (((T.leaf.node (some (AV.nils (0 : Nat) (0 : Nat))) T.leaf).node (some (AV.str t)) T.leaf).node (some (AV.int IntKind.i64 k)) ((T.leaf.node (some (AV.int IntKind.u64 nu)) T.leaf).node (some (AV.slg (1 : Nat) (0 : Nat) (0 : Nat) q (0 : Nat))) T.leaf)) (5 : Nat) (45 : TypeId) (0 : Nat) (0 : Nat) (1 : Nat) (0 : Nat) false T.leaf)) T.leaf, next := (2 : Nat), glob := G }) (zc P 25 [.str w] G)) ∧ (za fun j => some (pc j)) ∧ (za fun j => some (pc j)) ∧ (Goal P (1) 30 (fun v h => v = AV.str w ∧ h = { objs := T.leaf.node (some (AObj.cells (T.fn fun j => some (pc j)) z (9 : TypeId) (0 : Nat) (0 : Nat) (1 : Nat) (0 : Nat) false T.leaf)) T.leaf, next := (1 : Nat), glob := G }) (zf P 30 [.agg [.int .i64 k, .str t, .slg 0 0 0 q 0, .nils 0 0, .int .u64 nu]] ⟨(.node .leaf (some (.cells (.fn fun j => some (pc j)) z 9 0 0 1 0 false .leaf)) .leaf), 1, G⟩)) ∧ ((!w == w) = false) ∧ K (OL2 w (Int.ofNat (0)) G)) := by kernel_rfl
theorem oab (R : AV → Prop) (pc cell : Nat → AV) (t w : List UInt8) (k nu : Int) (m q z zd : Nat) (G : T (T AV)) (K : AM → Prop) : Obl P 10 (fun v _ => R v) 0 K [.run 2, .callh [] [0] (.tup [.agg [.int .i64 k, .str t, .slg 2 0 0 q 0, .slg 1 0 0 m 0, .int .u64 nu], .int .i64 0]) ⟨(.node (.node .leaf (some (.cells (.fn fun j => some (cell j)) zd 35 0 0 1 0 false .leaf)) .leaf) (some (.cells (.node (.node (.node .leaf (some (.slg 1 0 0 m 0)) .leaf) (some (.str t)) .leaf) (some (.int .i64 k)) (.node (.node .leaf (some (.int .u64 nu)) .leaf) (some (.slg 2 0 0 q 0)) .leaf)) 5 45 0 0 1 0 false .leaf)) (.node .leaf (some (.cells (.fn fun j => some (pc j)) z 9 0 0 1 0 false .leaf)) .leaf)), 3, G⟩, .run 19, .callh [(2, 0, [2]), (1, 0, [3])] [0] (.str w) ⟨(.node (.node .leaf (some (.cells (.fn fun j => some (cell j)) zd 35 0 0 1 0 false .leaf)) .leaf) (some (.cells (.fn fun j => some (pc j)) z 9 0 0 1 0 false .leaf)) .leaf), 2, G⟩, .run 3, .know 70 false, .run 8, .can 0 [] [0, 11] []] ((O1 w G)) = ((za fun j => some (cell j)) ∧ (za fun j => some (pc j)) ∧ (Goal P (0) 25 (fun v h => v = AV.tup [AV.agg [AV.int IntKind.i64 k, AV.str t, AV.slg (2 : Nat) (0 : Nat) (0 : Nat) q (0 : Nat), AV.slg (1 : Nat) (0 : Nat) (0 : Nat) m (0 : Nat), AV.int IntKind.u64 nu], AV.int IntKind.i64 (0 : Int)] ∧ h = { objs := (T.leaf.node (some (AObj.cells (T.fn fun j => some (cell j)) zd (35 : TypeId) (0 : Nat) (0 : Nat) (1 : Nat) (0 : Nat) false T.leaf)) T.leaf).node (some (AObj.cells (((T.leaf.node (some (AV.slg (1 : Nat) (0 : Nat) (0 : Nat) m (0 : Nat))) T.leaf).node (some (AV.str t)) T.leaf).node (some (AV.int IntKind.i64 k)) ((T.leaf.node (some (AV.int IntKind.u64 nu)) T.leaf).node (some (AV.slg (2 : Nat) (0 : Nat) (0 : Nat) q (0 : Nat))) T.leaf)) (5 : Nat) (45 : TypeId) (0 : Nat) (0 : Nat) (1 : Nat) (0 : Nat) false T.leaf)) (T.leaf.node (some (AObj.cells (T.fn fun j => some (pc j)) z (9 : TypeId) (0 : Nat) (0 : Nat) (1 : Nat) (0 : Nat) false T.leaf)) T.leaf), next := (3 : Nat), glob := G }) (zc P 25 [.str w] G)) ∧ (za fun j => some (pc j)) ∧ (za fun j => some (cell j)) ∧ (za fun j => some (pc j)) ∧ (za fun j => some (cell j)) ∧ (Goal P (2) 30 (fun v h => v = AV.str w ∧ h = { objs := (T.leaf.node (some (AObj.cells (T.fn fun j => some (cell j)) zd (35 : TypeId) (0 : Nat) (0 : Nat) (1 : Nat) (0 : Nat) false T.leaf)) T.leaf).node (some (AObj.cells (T.fn fun j => some (pc j)) z (9 : TypeId) (0 : Nat) (0 : Nat) (1 : Nat) (0 : Nat) false T.leaf)) T.leaf, next := (2 : Nat), glob := G }) (zf P 30 [.agg [.int .i64 k, .str t, .slg 0 0 0 q 0, .slg 1 0 0 m 0, .int .u64 nu]] ⟨(.node (.node .leaf (some (.cells (.fn fun j => some (cell j)) zd 35 0 0 1 0 false .leaf)) .leaf) (some (.cells (.fn fun j => some (pc j)) z 9 0 0 1 0 false .leaf)) .leaf), 2, G⟩)) ∧ ((!w == w) = false) ∧ K (OL2 w (Int.ofNat (0)) G)) := by kernel_rfl
theorem ox (R : AV → Prop) (w : List UInt8) (G : T (T AV)) (_K : AM → Prop) : Obl P 10 (fun v _ => R v) 0 _K [.run 2, .callh [] [0] (.tup [.agg [.int .i64 0, .str [], .nils 0 0, .nils 0 0, .int .u64 0], .int .i64 4]) ⟨(.node .leaf (some (.cells (.node (.node (.node .leaf (some (.nils 0 0)) .leaf) (some (.str [])) .leaf) (some (.int .i64 0)) (.node (.node .leaf (some (.int .u64 0)) .leaf) (some (.nils 0 0)) .leaf)) 5 45 0 0 1 0 false .leaf)) .leaf), 1, G⟩, .run 121, .callv [] (.bool true), .run 3, .done] ((O1 w G)) = ((Goal P (0) 25 (fun v h => v = AV.tup [AV.agg [AV.int IntKind.i64 (0 : Int), AV.str [], AV.nils (0 : Nat) (0 : Nat), AV.nils (0 : Nat) (0 : Nat), AV.int IntKind.u64 (0 : Int)], AV.int IntKind.i64 (4 : Int)] ∧ h = { objs := T.leaf.node (some (AObj.cells (((T.leaf.node (some (AV.nils (0 : Nat) (0 : Nat))) T.leaf).node (some (AV.str [])) T.leaf).node (some (AV.int IntKind.i64 (0 : Int))) ((T.leaf.node (some (AV.int IntKind.u64 (0 : Int))) T.leaf).node (some (AV.nils (0 : Nat) (0 : Nat))) T.leaf)) (5 : Nat) (45 : TypeId) (0 : Nat) (0 : Nat) (1 : Nat) (0 : Nat) false T.leaf)) T.leaf, next := (1 : Nat), glob := G }) (zc P 25 [.str w] G)) ∧ (Goal P (0) 28 (fun v _ => v = AV.bool true) (zc P 28 [] G)) ∧ (R (.bool true))) := by kernel_rfl
theorem om (R : AV → Prop) (w u : List UInt8) (i : Int) (G : T (T AV)) (K : AM → Prop) : Obl P 10 (fun v _ => R v) 0 K [.run 8, .know 74 true, .run 8, .op, .slot 80 (.str u), .run 1, .callh [] [0] (.tup [.agg [.int .i64 0, .str [], .nils 0 0, .nils 0 0, .int .u64 0], .int .i64 4]) ⟨(.node .leaf (some (.cells (.node (.node (.node .leaf (some (.nils 0 0)) .leaf) (some (.str [])) .leaf) (some (.int .i64 0)) (.node (.node .leaf (some (.int .u64 0)) .leaf) (some (.nils 0 0)) .leaf)) 5 45 0 0 1 0 false .leaf)) .leaf), 1, G⟩, .run 21, .can 0 [] [0, 11] []] ((OL2 w i G)) = ((decide (i < (↑w.length : Int)) = true) ∧ ((0 : Int) ≤ i ∧ i ≤ (↑w.length : Int)) ∧ (AV.str (List.take (i.toNat - (0 : Nat)) (List.drop (0 : Nat) w)) = AV.str u) ∧ (Goal P (0) 25 (fun v h => v = AV.tup [AV.agg [AV.int IntKind.i64 (0 : Int), AV.str [], AV.nils (0 : Nat) (0 : Nat), AV.nils (0 : Nat) (0 : Nat), AV.int IntKind.u64 (0 : Int)], AV.int IntKind.i64 (4 : Int)] ∧ h = { objs := T.leaf.node (some (AObj.cells (((T.leaf.node (some (AV.nils (0 : Nat) (0 : Nat))) T.leaf).node (some (AV.str [])) T.leaf).node (some (AV.int IntKind.i64 (0 : Int))) ((T.leaf.node (some (AV.int IntKind.u64 (0 : Int))) T.leaf).node (some (AV.nils (0 : Nat) (0 : Nat))) T.leaf)) (5 : Nat) (45 : TypeId) (0 : Nat) (0 : Nat) (1 : Nat) (0 : Nat) false T.leaf)) T.leaf, next := (1 : Nat), glob := G }) (zc P 25 [.str u] G)) ∧ K (OL2 w (IntKind.i64.wrap (i + (1 : Int))) G)) := by kernel_rfl
theorem of (R : AV → Prop) (w : List UInt8) (i : Int) (G : T (T AV)) (_K : AM → Prop) : Obl P 10 (fun v _ => R v) 0 _K [.run 8, .know 74 false, .run 5, .callv [] (.bool true), .run 3, .done] ((OL2 w i G)) = ((decide (i < (↑w.length : Int)) = false) ∧ (Goal P (0) 28 (fun v _ => v = AV.bool true) (zc P 28 [] G)) ∧ (R (.bool true))) := by kernel_rfl
theorem zoI {f : FuncId} {x : AV} {H : AHeap} {m : AM} (h : Goal P 0 f (fun v h => v = x ∧ h = H) m) : Goal P 0 f (fun v _ => v = x) m := h.mono fun _ _ h => h.1
theorem zcn : ∀ l : List (List UInt8), l.length ≤ (l.flatMap zz).length
 | [] => by simp
 | a :: r => by
  have ih := zcn r
  have h : (zz a).length = (row (a.length : Nat)).length + a.length := List.length_append
  have := zm (a.length : Nat)
  simp only [List.flatMap_cons, List.length_append, List.length_cons, h]
  omega
theorem zl3 : ∀ (l : List (List UInt8)) (p : List UInt8), p ∈ l → p.length ≤ (l.flatMap zz).length
 | [], p, h => absurd h List.not_mem_nil
 | a :: r, p, h => by
  have e : (zz a).length = (row (a.length : Nat)).length + a.length := List.length_append
  simp only [List.flatMap_cons, List.length_append, e]
  rcases List.mem_cons.1 h with rfl | h
  · omega
  · have := zl3 r p h
    omega
theorem zdm : Goal P 0 28 (fun x _ => x = AV.bool true) (zc P 28 [] GW) := Goal.ofRun mix (n := 20000) (by kernel_rfl) fun _ => rfl
theorem zah {n m : Int} (h0 : 0 ≤ n) (h1 : n ≤ 18446744073709551615) (k0 : 0 ≤ m) (k1 : m ≤ 18446744073709551615) {x y : List UInt8} (h : row n ++ x = row m ++ y) : n = m ∧ x = y := by
 have e := x6 n h0 h1 x
 rw [h, x6 m k0 k1 y] at e
 obtain rfl : m = n := congrArg Prod.fst (Option.some.inj e)
 exact ⟨rfl, List.append_cancel_left h⟩
theorem kQ {a b x y : List UInt8} (ha : a.length ≤ 10000000) (hb : b.length ≤ 10000000) (h : row (a.length : Nat) ++ (a ++ x) = row (b.length : Nat) ++ (b ++ y)) : a = b ∧ x = y := by
 obtain ⟨e1, e2⟩ := zah (by omega) (by omega) (by omega) (by omega) h
 have e3 : a.length = b.length := by omega
 exact List.append_inj e2 e3
theorem zfb : ∀ (l l' : List (List UInt8)) {x y : List UInt8}, l.length = l'.length → (l.flatMap zz ++ x).length ≤ 10000000 → (l'.flatMap zz ++ y).length ≤ 10000000 → l.flatMap zz ++ x = l'.flatMap zz ++ y → l = l' ∧ x = y
 | [], [], x, y, _, _, _, h => ⟨rfl, h⟩
 | [], _ :: _, x, y, hl, _, _, h => by cases hl
 | _ :: _, [], x, y, hl, _, _, h => by cases hl
 | a :: r, b :: r', x, y, hl, h1, h2, h => by
  have h' : zz a ++ (r.flatMap zz ++ x) = zz b ++ (r'.flatMap zz ++ y) := by simpa only [List.flatMap_cons, List.append_assoc] using h
  rw [show zz a = row (a.length : Nat) ++ a from rfl, show zz b = row (b.length : Nat) ++ b from rfl, List.append_assoc, List.append_assoc] at h'
  have ea : (zz a).length = (row (a.length : Nat)).length + a.length := List.length_append
  have eb : (zz b).length = (row (b.length : Nat)).length + b.length := List.length_append
  rw [List.flatMap_cons, List.length_append, List.length_append] at h1 h2
  obtain ⟨e1, e2⟩ := kQ (by omega) (by omega) h'
  obtain ⟨e3, e4⟩ := zfb r r' (by simpa using hl) (by rw [List.length_append]; omega) (by rw [List.length_append]; omega) e2
  exact ⟨by rw [e1, e3], e4⟩
theorem zkj {k k' : Int} {t t' : List UInt8} {ps ps' : List (List UInt8)} {ms ms' : List Dg} {nu nu' : Int} {u : List UInt8} (h0 : 0 ≤ k) (h1 : k ≤ 14) (k0 : 0 ≤ k') (k1 : k' ≤ 14) (v0 : 0 ≤ nu) (v1 : nu ≤ 18446744073709551615) (w0 : 0 ≤ nu') (w1 : nu' ≤ 18446744073709551615)
 (hl : (vw k t ps ms nu).length ≤ 1000000) (h : vw k' t' ps' ms' nu' ++ u = vw k t ps ms nu) : u = [] := by
 have hl2 := congrArg List.length h
 rw [List.length_append] at hl2
 have hL := hl
 have hL' : (vw k' t' ps' ms' nu').length ≤ 1000000 := by omega
 unfold vw at h hL hL' hl2
 simp only [List.length_append] at hL hL' hl2
 simp only [List.append_assoc] at h
 have g1 := zbn ms
 have p1 := zcn ps
 have p2 := zcn ps'
 obtain ⟨_, e1⟩ := zah k0 (by omega) h0 (by omega) h
 obtain ⟨_, e2⟩ := kQ (by omega) (by omega) e1
 obtain ⟨e3, e4⟩ := zah (by omega) (by omega) (by omega) (by omega) e2
 obtain ⟨_, e5⟩ := zfb ps' ps (by omega) (by simp only [List.length_append]; omega) (by simp only [List.length_append]; omega) e4
 obtain ⟨_, e6⟩ := kQ (by omega) (by omega) e5
 obtain ⟨_, e7⟩ := zah w0 w1 v0 v1 (x := u) (y := []) (by rw [List.append_nil]; exact e6)
 exact e7
theorem znr {k k' : Int} {a b c a' b' c' u : List UInt8} (h : chk k a b c = 0) (h' : chk k' a' b' c' = 0) (he : lay k' a' b' c' ++ u = lay k a b c) : u = [] := by
 obtain ⟨l1, l2, l3, l4, l5⟩ := zas h
 obtain ⟨m1, m2, m3, m4, m5⟩ := zas h'
 rw [zf0 h, zf0 h'] at he
 simp only [List.append_assoc] at he
 obtain ⟨_, e1⟩ := zah (by omega) (by omega) (by omega) (by omega) he
 obtain ⟨_, e2⟩ := kQ (by omega) (by omega) e1
 obtain ⟨_, e3⟩ := kQ (by omega) (by omega) e2
 obtain ⟨_, e4⟩ := kQ (a := c') (b := c) (x := u) (y := []) (by omega) (by omega) (by rw [List.append_nil]; exact e3)
 exact e4
theorem zj7 {w : List UInt8} {i : Nat} (hi : i < w.length) {l : List UInt8} (h : l = w.take i) (hu : ∀ u, l ++ u = w → u = []) : False := by
 have := hu (w.drop i) (by rw [h, List.take_append_drop])
 have := congrArg List.length this
 rw [List.length_drop] at this
 simp at this
 omega
theorem beg (w : List UInt8) (i : Nat) : AV.str (List.take (((i : Nat) : Int).toNat - 0) (List.drop 0 w)) = AV.str (w.take i) := by
 rw [Int.toNat_natCast]
 rfl
theorem zoY {w : List UInt8} (hw : w.length ≤ 1000) (hno : ∀ i, i < w.length → NoR (w.take i)) : ∀ r i, i + r = w.length → Goal P 0 10 (fun v _ => v = .bool true) (OL2 w (i : Int) GW)
 | 0, i, hi => Obl.goal (K := Goal P 0 10 _) mix (fun _ h => h) (cast (of _ (w) _ GW _).symm ⟨decide_eq_false (by omega), zdm, rfl⟩)
 | r + 1, i, hi => by
  have ih := zoY hw hno r (i + 1) (by omega)
  have hb := zjm (s := w.take i) (by rw [List.length_take]; omega) (hno i (by omega))
  exact Obl.goal (K := Goal P 0 10 _) mix (fun _ h => h) (cast (om _ (w) (w.take i) _ GW _).symm ⟨decide_eq_true (by omega), ⟨by omega, by omega⟩, beg w i, hb, by rw [up1 i (by omega)]; exact ih⟩)
theorem zpl {w : List UInt8} (hw : w.length ≤ 1000) (hno : ∀ i, i < w.length → ∀ k a b c, chk k a b c = 0 → lay k a b c ≠ w.take i) (hE : Goal P 0 10 (fun v _ => v = .bool true) (O1 w GW)) : ∀ r i, i + r = w.length → Goal P 0 10 (fun v _ => v = .bool true) (OL1 w (i : Int) GW)
 | 0, i, hi => Obl.goal (K := Goal P 0 10 _) mix (fun _ h => h) (cast (oe _ (w) _ GW _).symm ⟨decide_eq_false (by omega), hE⟩)
 | r + 1, i, hi => by
  have ih := zpl hw hno hE r (i + 1) (by omega)
  have hb := zfl (s := w.take i) (by rw [List.length_take]; omega) (hno i (by omega))
  exact Obl.goal (K := Goal P 0 10 _) mix (fun _ h => h) (cast (ol _ (w) (w.take i) _ GW _).symm ⟨decide_eq_true (by omega), ⟨by omega, by omega⟩, beg w i, hb, by rw [up1 i (by omega)]; exact ih⟩)
theorem half2 {w : List UInt8} (hw : w.length ≤ 1000) : Goal P 0 10 (fun v _ => v = .bool true) (O1 w GW) := by
 by_cases hex : ∃ k t ps ms nu, 0 ≤ k ∧ k ≤ 14 ∧ So ms ms ∧ 0 ≤ nu ∧ nu ≤ 18446744073709551615 ∧ vw k t ps ms nu = w
 · obtain ⟨k, t, ps, ms, nu, h0, h1, hm, v0, v1, he⟩ := hex
   have hlen := congrArg List.length he
   have hL2 := zoY hw (fun i hi k' t' ps' ms' nu' k0 k1 _ w0 w1 e => zj7 hi e fun u hu => zkj h0 h1 k0 k1 v0 v1 w0 w1 (by omega) (hu.trans he.symm)) w.length 0 (by omega)
   have hF : (vw k t ps ms nu).length ≤ 100000000 := by omega
   have hlen' := hlen
   unfold vw at hlen'
   simp only [List.length_append] at hlen'
   have hg1 := zbn ms
   by_cases hp : ps = []
   · subst hp
     rcases znS (by omega) h0 h1 hm v0 v1 he with ⟨e0, hg⟩ | ⟨e0, f, hf, hg⟩
     · subst e0
       have ha := zld h0 h1 v0 v1 (t := t) (nu := nu) (by omega) (by omega) hF
       rw [he] at ha
       exact Obl.goal (K := Goal P 0 10 _) mix (fun _ h => h) (cast (oan _ _ _ _ _ GW _).symm ⟨hg, zoI ha, neF rfl, hL2⟩)
     · have hso : So (sl f 0 ms.length) ms := by rw [hf]; exact hm
       have ha := zkt (m := ms.length) (zd := ms.length * 3) (f := f) (by omega) (Nat.le_refl _) hso h0 h1 v0 v1 (t := t) (nu := nu) (by omega) (by omega) hF
       rw [he] at ha
       exact Obl.goal (K := Goal P 0 10 _) mix (fun _ h => h) (cast (oad _ (el f) _ _ _ _ (ms.length) (ms.length * 3) GW _).symm ⟨zg _, hg, zg _, zg _, ha, neF rfl, hL2⟩)
   · obtain ⟨g, hgs, hk⟩ := zno (by omega) h0 h1 hm v0 v1 (ps := ps) (List.length_pos_iff.2 hp) he
     have hq := zcn ps
     have hb : ∀ j, j < ps.length → (g j).length < 1000000 := fun j hj => by
      have h2 := zl3 ps (g j) (by rw [← hgs]; exact zkb g ps.length 0 j (by omega) (by omega))
      omega
     rcases hk with ⟨e0, hg⟩ | ⟨e0, f, hf, hg⟩
     · subst e0
       have ha := zlo (q := ps.length) (z := ps.length * 1) (g := g) (Nat.le_refl _) (by omega) hb h0 h1 v0 v1 (t := t) (nu := nu) (by omega) (by omega) (by rw [hgs]; exact hF)
       rw [hgs, he] at ha
       exact Obl.goal (K := Goal P 0 10 _) mix (fun _ h => h) (cast (oap _ (es g) _ _ _ _ (ps.length) (ps.length * 1) GW _).symm ⟨qg _, hg, qg _, qg _, ha, neF rfl, hL2⟩)
     · have hso : So (sl f 0 ms.length) ms := by rw [hf]; exact hm
       have ha := zlq (m := ms.length) (zd := ms.length * 3) (f := f) (q := ps.length) (z := ps.length * 1) (g := g) (by omega) (Nat.le_refl _) hso (Nat.le_refl _) (by omega) hb h0 h1 v0 v1 (t := t) (nu := nu) (by omega) (by omega) (by rw [hgs]; exact hF)
       rw [hgs, he] at ha
       exact Obl.goal (K := Goal P 0 10 _) mix (fun _ h => h) (cast (oab _ (es g) (el f) _ _ _ _ (ms.length) (ps.length) (ps.length * 1) (ms.length * 3) GW _).symm ⟨zg _, qg _, hg, qg _, zg _, qg _, zg _, ha, neF rfl, hL2⟩)
 · exact Obl.goal (K := Goal P 0 10 _) mix (fun _ h => h) (cast (ox _ (w) GW _).symm ⟨zjm (by omega) (fun k t ps ms nu h0 h1 hm v0 v1 he => hex ⟨k, t, ps, ms, nu, h0, h1, hm, v0, v1, he⟩), zdm, rfl⟩)
theorem zkO (s : List UInt8) : Goal P 0 10 (fun v _ => v = .bool true) (zc P 10 [.str s] GW) := by
 have hcut : (if decide ((1000 : Int) < (s.length : Int)) = true then (1000 : Int) else (s.length : Int)) = ((min s.length 1000 : Nat) : Int) := by
  by_cases h : (1000 : Int) < (s.length : Int)
  · rw [decide_eq_true h, if_pos rfl]; omega
  · rw [decide_eq_false h, if_neg (by simp)]; omega
 have hbd : (0 : Int) ≤ (if decide ((1000 : Int) < (s.length : Int)) = true then (1000 : Int) else (s.length : Int)) ∧ (if decide ((1000 : Int) < (s.length : Int)) = true then (1000 : Int) else (s.length : Int)) ≤ (s.length : Int) := by
  rw [hcut]; omega
 have hws : AV.str (List.take ((if decide ((1000 : Int) < (s.length : Int)) = true then (1000 : Int) else (s.length : Int)).toNat - 0) (List.drop 0 s)) = AV.str (s.take (min s.length 1000)) := by rw [hcut]; rfl
 generalize hwd : s.take (min s.length 1000) = w at *
 have hlen : w.length ≤ 1000 := by rw [← hwd, List.length_take]; omega
 have h2 := half2 hlen
 by_cases hex : ∃ k a b c, chk k a b c = 0 ∧ lay k a b c = w
 · obtain ⟨k, a, b, c, hc, he⟩ := hex
   obtain ⟨l1, l2, l3, l4, l5⟩ := zas hc
   have h33 := zoC (k := k) (a := a) (b := b) (c := c) (by omega) (by omega) (by omega)
   have hl : zml k a b c = .tup [.str w, .int .i64 0] := by unfold zml; rw [if_pos hc, he]
   rw [hl] at h33
   have hL1 := zpl hlen (fun i hi k' a' b' c' hc' e => zj7 hi e fun u hu => znr hc hc' (hu.trans he.symm)) h2 w.length 0 (by omega)
   exact Obl.goal (K := Goal P 0 10 _) mix (fun _ h => h) (cast (oo _ _ (w) (a) (b) (c) (k) GW _).symm ⟨hbd, hws, zng (by omega) hc he, h33, neF rfl, hL1⟩)
 · exact Obl.goal (K := Goal P 0 10 _) mix (fun _ h => h) (cast (ob _ _ (w) GW _).symm ⟨hbd, hws, zfl (by omega) (fun k a b c hc he => hex ⟨k, a, b, c, hc, he⟩), h2⟩)
end Go.Proofs.YtdbfpjgnlfejmaaDoor.dg
end
