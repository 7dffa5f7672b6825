import Derived.Deep.Slices
import Derived.Deep.Strs
import Derived.OpenShut
import Derived.Test.YtdbfpjgnlfejmaaDoorC00
import Derived.Test.YtdbfpjgnlfejmaaDoorC01
import Derived.Test.YtdbfpjgnlfejmaaDoorC02
import Derived.Test.YtdbfpjgnlfejmaaDoorC03
import Derived.Test.YtdbfpjgnlfejmaaDoorC04
import Derived.Test.YtdbfpjgnlfejmaaDoorC05
import Derived.Test.YtdbfpjgnlfejmaaDoorC06
import Derived.Test.YtdbfpjgnlfejmaaDoorC07
import Derived.Test.YtdbfpjgnlfejmaaDoorC08
section
set_option maxRecDepth 100000
set_option linter.unusedVariables false
namespace Go.Proofs.YtdbfpjgnlfejmaaDoor.dg
open Go Ev mq
noncomputable abbrev RH (l : List UInt8) (b : Bool) (G : T (T AV)) : AHeap := ⟨.node .leaf (some (.cells (.node (.node .leaf (some (.bool b)) .leaf) (some (.str l)) .leaf) 2 86 0 0 1 0 false .leaf)) .leaf, 1, G⟩
noncomputable def ReA (s l : List UInt8) (b : Bool) (n i : Int) (G : T (T AV)) : AM := ⟨⟨20, 56, (.node (.node (.node (.node .leaf (some (.int .u64 i)) .leaf) none .leaf) none (.node .leaf (some (.int .u64 n)) .leaf)) (some (.str s)) (.node (.node .leaf (some (.ptr 0 0 0)) .leaf) none (.node .leaf (some (.nils 0 0)) .leaf))),
 [.code (cd P (20 : Nat) [(1 : Nat), (1 : Nat), (1 : Nat), (1 : Nat), (0 : Nat), (1 : Nat), (0 : Nat), (0 : Nat)]), .inLoop (cd P (20 : Nat) [(1 : Nat), (1 : Nat), (1 : Nat), (1 : Nat), (0 : Nat), (1 : Nat), (0 : Nat), (0 : Nat)]), .inBlock 0, .code (cd P (20 : Nat) [(1 : Nat), (1 : Nat), (1 : Nat), (1 : Nat), (1 : Nat)])], [], .run, CallKind.normal, none⟩,
 [],
 ⟨(.node .leaf (some (.cells (.node (.node .leaf (some (.bool b)) .leaf) (some (.str l)) .leaf) 2 86 0 0 1 0 false .leaf)) .leaf), 1, G⟩⟩
noncomputable def ReB (cell : Nat → AV) (s l : List UInt8) (b : Bool) (n i : Int) (m z : Nat) (G : T (T AV)) : AM := ⟨⟨20, 56, (.node (.node (.node (.node .leaf (some (.int .u64 i)) .leaf) none .leaf) none (.node .leaf (some (.int .u64 n)) .leaf)) (some (.str s)) (.node (.node .leaf (some (.ptr 0 0 0)) .leaf) none (.node .leaf (some (.slg 1 0 0 m 0)) .leaf))),
 [.code (cd P (20 : Nat) [(1 : Nat), (1 : Nat), (1 : Nat), (1 : Nat), (0 : Nat), (1 : Nat), (0 : Nat), (0 : Nat)]), .inLoop (cd P (20 : Nat) [(1 : Nat), (1 : Nat), (1 : Nat), (1 : Nat), (0 : Nat), (1 : Nat), (0 : Nat), (0 : Nat)]), .inBlock 0, .code (cd P (20 : Nat) [(1 : Nat), (1 : Nat), (1 : Nat), (1 : Nat), (1 : Nat)])], [], .run, CallKind.normal, none⟩,
 [],
 ⟨(.node (.node .leaf (some (.cells (.fn fun c => some (cell c)) z 35 0 0 1 0 false .leaf)) .leaf) (some (.cells (.node (.node .leaf (some (.bool b)) .leaf) (some (.str l)) .leaf) 2 86 0 0 1 0 false .leaf)) .leaf), 2, G⟩⟩
theorem r0 (R : AV → AHeap → Prop) (s l : List UInt8) (n : Int) (b : Bool) (G : T (T AV)) (K : AM → Prop) : Obl P 20 (fun v h => R v h) 0 K [.run 16, .callh [(0, 0, [])] [0] (.int .u64 n) (RH l b G), .run 13, .can 0 [0] [0, 4, 5, 6, 7] []] ((zc P 20 [.str s] G)) = ((Goal P (1) 60 (fun v h => v = AV.int IntKind.u64 n ∧ h = RH l b G) (ze P 60 [.ptr 0 0 0] (RH s false G))) ∧ K (ReA s l b n (Int.ofNat (0)) G)) := by kernel_rfl
theorem rAx (R : AV → AHeap → Prop) (s p l l2 l3 l4 : List UInt8) (n i a c0 : Int) (b b2 b3 b4 : Bool) (G : T (T AV)) (_K : AM → Prop) : Obl P 20 (fun v h => R v h) 0 _K [.run 7, .know 19 true, .run 19, .know 22 true, .run 8, .callh [(0, 0, [])] [0] (.str p) (RH l2 b2 G), .run 6, .callh [(0, 0, [])] [0] (.int .u64 a) (RH l3 b3 G), .run 6, .callh [(0, 0, [])] [0] (.int .u64 c0) (RH l4 b4 G), .run 8, .know 33 true, .run 10, .can 0 [] [2, 3] [], .run 1, .done] ((ReA s l b n i G)) = ((decide (i < n) = true) ∧ ((!b) = true) ∧ (Goal P (1) 62 (fun v h => v = AV.str p ∧ h = RH l2 b2 G) (ze P 62 [.ptr 0 0 0] (RH l b G))) ∧ (Goal P (1) 60 (fun v h => v = AV.int IntKind.u64 a ∧ h = RH l3 b3 G) (ze P 60 [.ptr 0 0 0] (RH l2 b2 G))) ∧ (Goal P (1) 60 (fun v h => v = AV.int IntKind.u64 c0 ∧ h = RH l4 b4 G) (ze P 60 [.ptr 0 0 0] (RH l3 b3 G))) ∧ (decide (a ≥ (2147483648 : Int)) = true) ∧ (R (.tup [.nils 0 0, .int .i64 4]) (⟨.leaf, 0, G⟩))) := by kernel_rfl
theorem rAy (R : AV → AHeap → Prop) (s p l l2 l3 l4 : List UInt8) (n i a c0 : Int) (b b2 b3 b4 : Bool) (G : T (T AV)) (_K : AM → Prop) : Obl P 20 (fun v h => R v h) 0 _K [.run 7, .know 19 true, .run 19, .know 22 true, .run 8, .callh [(0, 0, [])] [0] (.str p) (RH l2 b2 G), .run 6, .callh [(0, 0, [])] [0] (.int .u64 a) (RH l3 b3 G), .run 6, .callh [(0, 0, [])] [0] (.int .u64 c0) (RH l4 b4 G), .run 8, .know 33 false, .run 4, .know 36 true, .run 6, .can 0 [] [2, 3] [], .run 1, .done] ((ReA s l b n i G)) = ((decide (i < n) = true) ∧ ((!b) = true) ∧ (Goal P (1) 62 (fun v h => v = AV.str p ∧ h = RH l2 b2 G) (ze P 62 [.ptr 0 0 0] (RH l b G))) ∧ (Goal P (1) 60 (fun v h => v = AV.int IntKind.u64 a ∧ h = RH l3 b3 G) (ze P 60 [.ptr 0 0 0] (RH l2 b2 G))) ∧ (Goal P (1) 60 (fun v h => v = AV.int IntKind.u64 c0 ∧ h = RH l4 b4 G) (ze P 60 [.ptr 0 0 0] (RH l3 b3 G))) ∧ (decide (a ≥ (2147483648 : Int)) = false) ∧ (decide (c0 > (100 : Int)) = true) ∧ (R (.tup [.nils 0 0, .int .i64 4]) (⟨.leaf, 0, G⟩))) := by kernel_rfl
theorem rAg (R : AV → AHeap → Prop) (cell' : Nat → AV) (s p l l2 l3 l4 : List UInt8) (n i a c0 : Int) (b b2 b3 b4 : Bool) (z2 : Nat) (G : T (T AV)) (K : AM → Prop) : Obl P 20 (fun v h => R v h) 0 K [.run 7, .know 19 true, .run 19, .know 22 true, .run 8, .callh [(0, 0, [])] [0] (.str p) (RH l2 b2 G), .run 6, .callh [(0, 0, [])] [0] (.int .u64 a) (RH l3 b3 G), .run 6, .callh [(0, 0, [])] [0] (.int .u64 c0) (RH l4 b4 G), .run 8, .know 33 false, .run 4, .know 36 false, .run 21, .told 2 (.fn fun k => some (cell' k)) z2, .can 0 [0, 2] [0, 4, 5, 6, 7] []] ((ReA s l b n i G)) = ((decide (i < n) = true) ∧ ((!b) = true) ∧ (Goal P (1) 62 (fun v h => v = AV.str p ∧ h = RH l2 b2 G) (ze P 62 [.ptr 0 0 0] (RH l b G))) ∧ (Goal P (1) 60 (fun v h => v = AV.int IntKind.u64 a ∧ h = RH l3 b3 G) (ze P 60 [.ptr 0 0 0] (RH l2 b2 G))) ∧ (Goal P (1) 60 (fun v h => v = AV.int IntKind.u64 c0 ∧ h = RH l4 b4 G) (ze P 60 [.ptr 0 0 0] (RH l3 b3 G))) ∧ (decide (a ≥ (2147483648 : Int)) = false) ∧ (decide (c0 > (100 : Int)) = false) ∧ (yJ (z2) ((.fn fun k => some (cell' k))) ((.node (.node .leaf (some (.int .i64 (IntKind.i64.wrap a))) .leaf) (some (.str p)) (.node .leaf (some (.int .i64 (IntKind.i64.wrap c0))) .leaf)))) ∧ (z2 = 3) ∧ (zb fun k => some (cell' k)) ∧ K (ReB cell' s l4 b4 n (IntKind.u64.wrap (i + (1 : Int))) (1) z2 G)) := by kernel_rfl
section
set_option linter.unusedSectionVars false
variable (R : AV → AHeap → Prop) (s l : List UInt8) (n i : Int) (G : T (T AV)) (_K : AM → Prop)
include R s l n i G _K
theorem rAb : Obl P 20 (fun v h => R v h) 0 _K [.run 7, .know 19 true, .run 62, .can 0 [] [2, 3] [], .run 1, .done] ((ReA s l true n i G)) = ((decide (i < n) = true) ∧ (R (.tup [.nils 0 0, .int .i64 4]) (⟨.leaf, 0, G⟩))) := by kernel_rfl
theorem rAe : Obl P 20 (fun v h => R v h) 0 _K [.run 7, .know 19 false, .run 47, .can 0 [] [2, 3] [], .run 1, .done] ((ReA s l true n i G)) = ((decide (i < n) = false) ∧ (R (.tup [.nils 0 0, .int .i64 4]) (⟨.leaf, 0, G⟩))) := by kernel_rfl
theorem rAl : Obl P 20 (fun v h => R v h) 0 _K [.run 7, .know 19 false, .run 35, .know 49 true, .run 12, .can 0 [] [2, 3] [], .run 1, .done] ((ReA s l false n i G)) = ((decide (i < n) = false) ∧ ((!l == ([] : List UInt8)) = true) ∧ (R (.tup [.nils 0 0, .int .i64 4]) (⟨.leaf, 0, G⟩))) := by kernel_rfl
end
theorem rAq (R : AV → AHeap → Prop) (s t : List UInt8) (n i : Int) (G : T (T AV)) (_K : AM → Prop) : Obl P 20 (fun v h => R v h) 0 _K [.run 7, .know 19 false, .run 37, .callh [] [0] (.str t) ⟨.leaf, 0, G⟩, .run 4, .know 54 false, .run 8, .can 0 [] [2, 3] [], .run 1, .done] ((ReA s [] false n i G)) = ((decide (i < n) = false) ∧ (Goal P (0) 15 (fun v h => v = AV.str t ∧ h = { objs := T.leaf, next := (0 : Nat), glob := G }) (zc P 15 [.nils 0 0] G)) ∧ ((!t == s) = false) ∧ (R (.tup [.nils 0 0, .int .i64 0]) (⟨.leaf, 0, G⟩))) := by kernel_rfl
theorem rAw (R : AV → AHeap → Prop) (s t : List UInt8) (n i : Int) (G : T (T AV)) (_K : AM → Prop) : Obl P 20 (fun v h => R v h) 0 _K [.run 7, .know 19 false, .run 37, .callh [] [0] (.str t) ⟨.leaf, 0, G⟩, .run 4, .know 54 true, .run 6, .can 0 [] [2, 3] [], .run 1, .done] ((ReA s [] false n i G)) = ((decide (i < n) = false) ∧ (Goal P (0) 15 (fun v h => v = AV.str t ∧ h = { objs := T.leaf, next := (0 : Nat), glob := G }) (zc P 15 [.nils 0 0] G)) ∧ ((!t == s) = true) ∧ (R (.tup [.nils 0 0, .int .i64 4]) (⟨.leaf, 0, G⟩))) := by kernel_rfl
theorem rBx (R : AV → AHeap → Prop) (cell : Nat → AV) (s p l l2 l3 l4 : List UInt8) (n i a c0 : Int) (b b2 b3 b4 : Bool) (m z : Nat) (G : T (T AV)) (_K : AM → Prop) : Obl P 20 (fun v h => R v h) 0 _K [.run 7, .know 19 true, .run 19, .know 22 true, .run 8, .callh [(0, 0, [])] [0] (.str p) (RH l2 b2 G), .run 6, .callh [(0, 0, [])] [0] (.int .u64 a) (RH l3 b3 G), .run 6, .callh [(0, 0, [])] [0] (.int .u64 c0) (RH l4 b4 G), .run 8, .know 33 true, .run 10, .can 0 [] [2, 3] [], .run 1, .done] ((ReB cell s l b n i m z G)) = ((decide (i < n) = true) ∧ ((!b) = true) ∧ (Goal P (1) 62 (fun v h => v = AV.str p ∧ h = RH l2 b2 G) (ze P 62 [.ptr 0 0 0] (RH l b G))) ∧ (Goal P (1) 60 (fun v h => v = AV.int IntKind.u64 a ∧ h = RH l3 b3 G) (ze P 60 [.ptr 0 0 0] (RH l2 b2 G))) ∧ (Goal P (1) 60 (fun v h => v = AV.int IntKind.u64 c0 ∧ h = RH l4 b4 G) (ze P 60 [.ptr 0 0 0] (RH l3 b3 G))) ∧ (decide (a ≥ (2147483648 : Int)) = true) ∧ (R (.tup [.nils 0 0, .int .i64 4]) (⟨.leaf, 0, G⟩))) := by kernel_rfl
theorem rBy (R : AV → AHeap → Prop) (cell : Nat → AV) (s p l l2 l3 l4 : List UInt8) (n i a c0 : Int) (b b2 b3 b4 : Bool) (m z : Nat) (G : T (T AV)) (_K : AM → Prop) : Obl P 20 (fun v h => R v h) 0 _K [.run 7, .know 19 true, .run 19, .know 22 true, .run 8, .callh [(0, 0, [])] [0] (.str p) (RH l2 b2 G), .run 6, .callh [(0, 0, [])] [0] (.int .u64 a) (RH l3 b3 G), .run 6, .callh [(0, 0, [])] [0] (.int .u64 c0) (RH l4 b4 G), .run 8, .know 33 false, .run 4, .know 36 true, .run 6, .can 0 [] [2, 3] [], .run 1, .done] ((ReB cell s l b n i m z G)) = ((decide (i < n) = true) ∧ ((!b) = true) ∧ (Goal P (1) 62 (fun v h => v = AV.str p ∧ h = RH l2 b2 G) (ze P 62 [.ptr 0 0 0] (RH l b G))) ∧ (Goal P (1) 60 (fun v h => v = AV.int IntKind.u64 a ∧ h = RH l3 b3 G) (ze P 60 [.ptr 0 0 0] (RH l2 b2 G))) ∧ (Goal P (1) 60 (fun v h => v = AV.int IntKind.u64 c0 ∧ h = RH l4 b4 G) (ze P 60 [.ptr 0 0 0] (RH l3 b3 G))) ∧ (decide (a ≥ (2147483648 : Int)) = false) ∧ (decide (c0 > (100 : Int)) = true) ∧ (R (.tup [.nils 0 0, .int .i64 4]) (⟨.leaf, 0, G⟩))) := by kernel_rfl
theorem rBg (R : AV → AHeap → Prop) (cell cell' : Nat → AV) (s p l l2 l3 l4 : List UInt8) (n i a c0 : Int) (b b2 b3 b4 : Bool) (m z z2 : Nat) (G : T (T AV)) (K : AM → Prop) : Obl P 20 (fun v h => R v h) 0 K [.run 7, .know 19 true, .run 19, .know 22 true, .run 8, .callh [(0, 0, [])] [0] (.str p) (RH l2 b2 G), .run 6, .callh [(0, 0, [])] [0] (.int .u64 a) (RH l3 b3 G), .run 6, .callh [(0, 0, [])] [0] (.int .u64 c0) (RH l4 b4 G), .run 8, .know 33 false, .run 4, .know 36 false, .run 11, .opw false, .run 9, .told 1 (.fn fun k => some (cell' k)) z2, .can 0 [0, 1] [0, 4, 5, 6, 7] []] ((ReB cell s l b n i m z G)) = ((decide (i < n) = true) ∧ ((!b) = true) ∧ (Goal P (1) 62 (fun v h => v = AV.str p ∧ h = RH l2 b2 G) (ze P 62 [.ptr 0 0 0] (RH l b G))) ∧ (Goal P (1) 60 (fun v h => v = AV.int IntKind.u64 a ∧ h = RH l3 b3 G) (ze P 60 [.ptr 0 0 0] (RH l2 b2 G))) ∧ (Goal P (1) 60 (fun v h => v = AV.int IntKind.u64 c0 ∧ h = RH l4 b4 G) (ze P 60 [.ptr 0 0 0] (RH l3 b3 G))) ∧ (decide (a ≥ (2147483648 : Int)) = false) ∧ (decide (c0 > (100 : Int)) = false) ∧ ((0 + 1 * DS ≤ 3 ∧ ∀ (k : Nat), k < 1 * DS → ∃ v, ((T.leaf.node (some (AV.int IntKind.i64 (IntKind.i64.wrap a))) T.leaf).node (some (AV.str p)) (T.leaf.node (some (AV.int IntKind.i64 (IntKind.i64.wrap c0))) T.leaf)).get (0 + k) = some v ∧ v.one = true) ∧ (0 : Nat) < 1 ∧ 0 + m * 3 ≤ z ∧ 0 ≤ 0 + m * 3 ∧ 0 = 0 * DS ∧ xV (m + 1) (32) = true ∧ z < 0 + (m + 1) * 3) ∧ (yJ (z2) ((.fn fun k => some (cell' k))) ((.fn fun k => bif (0 + m * DS).ble k && k.blt (0 + m * DS + 1 * DS) then (fun k => ((T.leaf.node (some (AV.int IntKind.i64 (IntKind.i64.wrap a))) T.leaf).node (some (AV.str p)) (T.leaf.node (some (AV.int IntKind.i64 (IntKind.i64.wrap c0))) T.leaf)).get (0 + k)) (k - (0 + m * DS)) else (T.fn fun j => some (cell j)).get k))) ∧ (z2 = 0 + m * 3 + 3) ∧ (zb fun k => some (cell' k)) ∧ K (ReB cell' s l4 b4 n (IntKind.u64.wrap (i + (1 : Int))) (m + 1) z2 G)) := by kernel_rfl
section
set_option linter.unusedSectionVars false
variable (R : AV → AHeap → Prop) (cell : Nat → AV) (s l : List UInt8) (n i : Int) (m z : Nat) (G : T (T AV)) (_K : AM → Prop)
include R cell s l n i m z G _K
theorem rBb : Obl P 20 (fun v h => R v h) 0 _K [.run 7, .know 19 true, .run 62, .can 0 [] [2, 3] [], .run 1, .done] ((ReB cell s l true n i m z G)) = ((decide (i < n) = true) ∧ (R (.tup [.nils 0 0, .int .i64 4]) (⟨.leaf, 0, G⟩))) := by kernel_rfl
theorem rBe : Obl P 20 (fun v h => R v h) 0 _K [.run 7, .know 19 false, .run 47, .can 0 [] [2, 3] [], .run 1, .done] ((ReB cell s l true n i m z G)) = ((decide (i < n) = false) ∧ (R (.tup [.nils 0 0, .int .i64 4]) (⟨.leaf, 0, G⟩))) := by kernel_rfl
theorem rBl : Obl P 20 (fun v h => R v h) 0 _K [.run 7, .know 19 false, .run 35, .know 49 true, .run 12, .can 0 [] [2, 3] [], .run 1, .done] ((ReB cell s l false n i m z G)) = ((decide (i < n) = false) ∧ ((!l == ([] : List UInt8)) = true) ∧ (R (.tup [.nils 0 0, .int .i64 4]) (⟨.leaf, 0, G⟩))) := by kernel_rfl
end
theorem rBq (R : AV → AHeap → Prop) (cell : Nat → AV) (s t : List UInt8) (n i : Int) (m z : Nat) (G : T (T AV)) (_K : AM → Prop) : Obl P 20 (fun v h => R v h) 0 _K [.run 7, .know 19 false, .run 37, .callh [(1, 0, [])] [0] (.str t) ⟨(.node .leaf (some (.cells (.fn fun j => some (cell j)) z 35 0 0 1 0 false .leaf)) .leaf), 1, G⟩, .run 4, .know 54 false, .run 8, .can 0 [1] [2, 3] [], .run 1, .done] ((ReB cell s [] false n i m z G)) = ((decide (i < n) = false) ∧ (zb fun j => some (cell j)) ∧ (zb fun j => some (cell j)) ∧ (Goal P (1) 15 (fun v h => v = AV.str t ∧ h = { objs := T.leaf.node (some (AObj.cells (T.fn fun j => some (cell j)) z (35 : TypeId) (0 : Nat) (0 : Nat) (1 : Nat) (0 : Nat) false T.leaf)) T.leaf, next := (1 : Nat), glob := G }) (ze P 15 [.slg 0 0 0 m 0] ⟨(.node .leaf (some (.cells (.fn fun j => some (cell j)) z 35 0 0 1 0 false .leaf)) .leaf), 1, G⟩)) ∧ ((!t == s) = false) ∧ (zb fun j => some (cell j)) ∧ (R (.tup [.slg 0 0 0 m 0, .int .i64 0]) (⟨(.node .leaf (some (.cells (.fn fun j => some (cell j)) z 35 0 0 1 0 false .leaf)) .leaf), 1, G⟩))) := by kernel_rfl
theorem rBw (R : AV → AHeap → Prop) (cell : Nat → AV) (s t : List UInt8) (n i : Int) (m z : Nat) (G : T (T AV)) (_K : AM → Prop) : Obl P 20 (fun v h => R v h) 0 _K [.run 7, .know 19 false, .run 37, .callh [(1, 0, [])] [0] (.str t) ⟨(.node .leaf (some (.cells (.fn fun j => some (cell j)) z 35 0 0 1 0 false .leaf)) .leaf), 1, G⟩, .run 4, .know 54 true, .run 6, .can 0 [] [2, 3] [], .run 1, .done] ((ReB cell s [] false n i m z G)) = ((decide (i < n) = false) ∧ (zb fun j => some (cell j)) ∧ (zb fun j => some (cell j)) ∧ (Goal P (1) 15 (fun v h => v = AV.str t ∧ h = { objs := T.leaf.node (some (AObj.cells (T.fn fun j => some (cell j)) z (35 : TypeId) (0 : Nat) (0 : Nat) (1 : Nat) (0 : Nat) false T.leaf)) T.leaf, next := (1 : Nat), glob := G }) (ze P 15 [.slg 0 0 0 m 0] ⟨(.node .leaf (some (.cells (.fn fun j => some (cell j)) z 35 0 0 1 0 false .leaf)) .leaf), 1, G⟩)) ∧ ((!t == s) = true) ∧ (R (.tup [.nils 0 0, .int .i64 4]) (⟨.leaf, 0, G⟩))) := by kernel_rfl
theorem rz60 (R : AV → AHeap → Prop) (b : Bool) (G : T (T AV)) (_K : AM → Prop) : Obl P 60 (fun v h => R v h) 1 _K [.run 45, .done] ((ze P 60 [.ptr 0 0 0] (RH [] b G))) = ((R (.int .u64 0) ((RH [] true G)))) := by kernel_rfl
theorem zkU (l : List UInt8) (hl : l.length ≤ 100000) : ∃ p l2 b2, Goal P 1 62 (fun v H => v = .str p ∧ H = RH l2 b2 GW) (ze P 62 [.ptr 0 0 0] (RH l false GW)) ∧ (b2 = true → l2 = []) ∧ (b2 = false → l2.length + 1 ≤ l.length) := by
 cases hp : xm l with
 | none => exact ⟨[], [], true, zfX l hl (.inl hp), fun _ => rfl, fun h => by cases h⟩
 | some r =>
  obtain ⟨n, k⟩ := r
  obtain ⟨p0, p1, p2, p3, p4⟩ := xe hp
  have q := xH n
  by_cases h : n ≤ ((l.length - k : Nat) : Int)
  · exact ⟨_, _, false, zg7 l hl hp h, fun h => by (cases h), fun _ => by rw [List.length_drop]; omega⟩
  · exact ⟨[], [], true, zfX l hl (.inr ⟨n, k, hp, by omega⟩), fun _ => rfl, fun h => by cases h⟩
theorem zc2 (l : List UInt8) (b : Bool) (hb : b = true → l = []) : ∃ n l2 b2, Goal P 1 60 (fun v H => v = .int .u64 n ∧ H = RH l2 b2 GW) (ze P 60 [.ptr 0 0 0] (RH l b GW)) ∧ (b2 = true → l2 = []) ∧ (b2 = false → b = false ∧ l2.length + 1 ≤ l.length) := by
 cases b with
 | true =>
  obtain rfl := hb rfl
  exact ⟨0, [], true, Obl.goal (K := Goal P 1 60 _) mix (fun _ h => h) (cast (rz60 _ (true) GW _).symm ⟨rfl, rfl⟩), fun _ => rfl, fun h => by cases h⟩
 | false =>
  cases hp : xm l with
  | none => exact ⟨0, [], true, zhl l hp, fun _ => rfl, fun h => by cases h⟩
  | some r =>
   obtain ⟨n, k⟩ := r
   obtain ⟨p0, p1, p2, p3, p4⟩ := xe hp
   have q := xH n
   exact ⟨n, _, false, zbh l hp, fun h => by (cases h), fun _ => ⟨rfl, by rw [List.length_drop]; omega⟩⟩
abbrev zmh (m : AM) : Prop := Goal P 0 20 (fun v h => v = .tup [.nils 0 0, .int .i64 4] ∧ h = ⟨.leaf, 0, GW⟩) m
section
variable {s : List UInt8}
theorem zlC {n i : Int} (l : List UInt8) : zmh (ReA s l true n i GW) := by
 by_cases hi : i < n
 · exact Obl.goal (K := Goal P 0 20 _) mix (fun _ h => h) (cast (rAb _ (s) (l) (n) (i) GW _).symm ⟨decide_eq_true hi, rfl, rfl⟩)
 · exact Obl.goal (K := Goal P 0 20 _) mix (fun _ h => h) (cast (rAe _ (s) (l) (n) (i) GW _).symm ⟨decide_eq_false hi, rfl, rfl⟩)
theorem zh8 {n i : Int} {m z : Nat} {f : Nat → Dg} (l : List UInt8) : zmh (ReB (el f) s l true n i m z GW) := by
 by_cases hi : i < n
 · exact Obl.goal (K := Goal P 0 20 _) mix (fun _ h => h) (cast (rBb _ (el f) (s) (l) (n) (i) (m) (z) GW _).symm ⟨decide_eq_true hi, rfl, rfl⟩)
 · exact Obl.goal (K := Goal P 0 20 _) mix (fun _ h => h) (cast (rBe _ (el f) (s) (l) (n) (i) (m) (z) GW _).symm ⟨decide_eq_false hi, rfl, rfl⟩)
theorem zmV (hs : s.length ≤ 100000) (hno : ∀ l, So l l → y9 l ≠ s) {n : Int} (x : Nat) : ∀ (l : List UInt8) (m z : Nat) (i : Int) (f : Nat → Dg), l.length = x → 0 < m → z = m * 3 → m * 3 + x ≤ s.length → zmh (ReB (el f) s l false n i m z GW) := by
 induction x using Nat.strongRecOn with
 | _ x ih =>
  intro l m z i f hx hm hz hmx
  subst hz
  by_cases hi : i < n
  · obtain ⟨p, l2, b2, g1, u1, v1⟩ := zkU l (by omega)
    obtain ⟨a1, l3, b3, g2, u2, v2⟩ := zc2 l2 b2 u1
    obtain ⟨c1, l4, b4, g3, u3, v3⟩ := zc2 l3 b3 u2
    by_cases ha : a1 ≥ 2147483648
    · exact Obl.goal (K := Goal P 0 20 _) mix (fun _ h => h) (cast (rBx _ (el f) _ _ _ _ _ _ _ _ _ _ _ _ _ _ _ _ GW _).symm ⟨decide_eq_true hi, rfl, g1, g2, g3, decide_eq_true ha, rfl, rfl⟩)
    · by_cases hc : c1 > 100
      · exact Obl.goal (K := Goal P 0 20 _) mix (fun _ h => h) (cast (rBy _ (el f) _ _ _ _ _ _ _ _ _ _ _ _ _ _ _ _ GW _).symm ⟨decide_eq_true hi, rfl, g1, g2, g3, decide_eq_false ha, decide_eq_true hc, rfl, rfl⟩)
      · have hnext : zmh (ReB (el (upd f m (p, IntKind.i64.wrap a1, IntKind.i64.wrap c1))) s l4 b4 n (IntKind.u64.wrap (i + 1)) (m + 1) (0 + m * 3 + 3) GW) := by
         cases hb4 : b4 with
         | true => exact zh8 l4
         | false =>
          obtain ⟨w1, w2⟩ := v3 hb4
          obtain ⟨w3, w4⟩ := v2 w1
          have w5 := v1 w3
          exact ih l4.length (by omega) l4 (m + 1) _ _ _ rfl (by omega) (by omega) (by omega)
        exact Obl.goal (K := Goal P 0 20 _) mix (fun _ h => h) (cast (rBg _ (el f) (el (upd f m (p, IntKind.i64.wrap a1, IntKind.i64.wrap c1))) _ _ _ _ _ _ _ _ _ _ _ _ _ _ _ _ _ GW _).symm ⟨decide_eq_true hi, rfl, g1, g2, g3, decide_eq_false ha, decide_eq_false hc, ⟨⟨by rw [yG]; omega, fun k hk => by
         rw [yG] at hk
         have hr : k = 0 ∨ k = 1 ∨ k = 2 := by omega
         rcases hr with h | h | h <;> subst h <;> exact ⟨_, rfl, rfl⟩⟩, by omega, by omega, by omega, by omega, by
          unfold xV
          rw [Bool.and_eq_true, Nat.ble_eq, Nat.blt_eq]
          constructor <;> omega, by omega⟩, zcP f m p (IntKind.i64.wrap a1) (IntKind.i64.wrap c1) yG, rfl, zi _, hnext⟩)
  · by_cases h0 : l = []
    · subst h0
      obtain ⟨l', hl⟩ := zmO f m (by omega)
      exact Obl.goal (K := Goal P 0 20 _) mix (fun _ h => h) (cast (rBw _ (el f) _ (y9 l') _ _ _ _ GW _).symm ⟨decide_eq_false hi, zi _, zi _, zis (z := m * 3) (Nat.le_refl _) (by omega) hl, neT (hno l' hl.self), rfl, rfl⟩)
    · exact Obl.goal (K := Goal P 0 20 _) mix (fun _ h => h) (cast (rBl _ (el f) _ _ _ _ _ _ GW _).symm ⟨decide_eq_false hi, neT h0, rfl, rfl⟩)
theorem znr (hs : s.length ≤ 100000) (hno : ∀ l, So l l → y9 l ≠ s) {n : Int} (l : List UInt8) (b : Bool) (hb : b = true → l = []) (hl : l.length ≤ s.length) : zmh (ReA s l b n 0 GW) := by
 cases b with
 | true => exact zlC l
 | false =>
  by_cases hi : (0 : Int) < n
  · obtain ⟨p, l2, b2, g1, u1, v1⟩ := zkU l (by omega)
    obtain ⟨a1, l3, b3, g2, u2, v2⟩ := zc2 l2 b2 u1
    obtain ⟨c1, l4, b4, g3, u3, v3⟩ := zc2 l3 b3 u2
    by_cases ha : a1 ≥ 2147483648
    · exact Obl.goal (K := Goal P 0 20 _) mix (fun _ h => h) (cast (rAx _ _ _ _ _ _ _ _ _ _ _ _ _ _ _ GW _).symm ⟨decide_eq_true hi, rfl, g1, g2, g3, decide_eq_true ha, rfl, rfl⟩)
    · by_cases hc : c1 > 100
      · exact Obl.goal (K := Goal P 0 20 _) mix (fun _ h => h) (cast (rAy _ _ _ _ _ _ _ _ _ _ _ _ _ _ _ GW _).symm ⟨decide_eq_true hi, rfl, g1, g2, g3, decide_eq_false ha, decide_eq_true hc, rfl, rfl⟩)
      · have hnext : zmh (ReB (el (fun _ => (p, IntKind.i64.wrap a1, IntKind.i64.wrap c1))) s l4 b4 n (IntKind.u64.wrap (0 + 1)) 1 3 GW) := by
         cases hb4 : b4 with
         | true => exact zh8 l4
         | false =>
          obtain ⟨w1, w2⟩ := v3 hb4
          obtain ⟨w3, w4⟩ := v2 w1
          have w5 := v1 w3
          exact zmV hs hno l4.length l4 1 _ _ _ rfl (by omega) (by omega) (by omega)
        exact Obl.goal (K := Goal P 0 20 _) mix (fun _ h => h) (cast (rAg _ (el (fun _ => (p, IntKind.i64.wrap a1, IntKind.i64.wrap c1))) _ _ _ _ _ _ _ _ _ _ _ _ _ _ (3) GW _).symm ⟨decide_eq_true hi, rfl, g1, g2, g3, decide_eq_false ha, decide_eq_false hc, za3 _ _ _, rfl, zi _, hnext⟩)
  · by_cases h0 : l = []
    · subst h0
      exact Obl.goal (K := Goal P 0 20 _) mix (fun _ h => h) (cast (rAw _ _ (y9 []) _ _ GW _).symm ⟨decide_eq_false hi, zfR, neT (hno [] ⟨.nil, by simp⟩), rfl, rfl⟩)
    · exact Obl.goal (K := Goal P 0 20 _) mix (fun _ h => h) (cast (rAl _ _ _ _ _ GW _).symm ⟨decide_eq_false hi, neT h0, rfl, rfl⟩)
theorem zjj (hs : s.length ≤ 100000) (hno : ∀ l, So l l → y9 l ≠ s) : zmh (zc P 20 [.str s] GW) := by
 obtain ⟨n, l2, b2, g, u, v⟩ := zc2 s false (by intro h; cases h)
 have hl : l2.length ≤ s.length := by
  cases b2 with
  | true => rw [u rfl]; simp
  | false => have := (v rfl).2; omega
 exact Obl.goal (K := Goal P 0 20 _) mix (fun _ h => h) (cast (r0 _ _ _ _ _ GW _).symm ⟨g, znr hs hno l2 b2 u hl⟩)
theorem zdP {l : List UInt8} (hl : l.length ≤ 100000) {d : Dg} (hd : vA d = true) {rest : List UInt8} (ha : l = one d ++ rest) :
 ∃ l2 l3, Goal P 1 62 (fun v H => v = .str d.1 ∧ H = RH l2 false GW) (ze P 62 [.ptr 0 0 0] (RH l false GW)) ∧
  Goal P 1 60 (fun v H => v = .int .u64 d.2.1 ∧ H = RH l3 false GW) (ze P 60 [.ptr 0 0 0] (RH l2 false GW)) ∧
  Goal P 1 60 (fun v H => v = .int .u64 d.2.2 ∧ H = RH rest false GW) (ze P 60 [.ptr 0 0 0] (RH l3 false GW)) := by
 have hb := of_decide_eq_true hd
 rw [zkX hd] at ha
 simp only [List.append_assoc] at ha
 have hp : xm l = some (((d.1.length : Nat) : Int), (row ((d.1.length : Nat) : Int)).length) := by
  rw [ha]
  exact yb _ (by omega) (by omega) _
 have hle : ((d.1.length : Nat) : Int) ≤ ((l.length - (row ((d.1.length : Nat) : Int)).length : Nat) : Int) := by
  have := congrArg List.length ha
  simp only [List.length_append] at this
  omega
 have g1 := zg7 l hl hp hle
 have e1 : (l.drop (row ((d.1.length : Nat) : Int)).length).take ((d.1.length : Nat) : Int).toNat = d.1 := by
  rw [ha, xL, Int.toNat_natCast, zfW]
 have e2 : l.drop ((row ((d.1.length : Nat) : Int)).length + ((d.1.length : Nat) : Int).toNat) = row d.2.1 ++ (row d.2.2 ++ rest) := by
  rw [← List.drop_drop, ha, xL, Int.toNat_natCast, xL]
 rw [e1, e2] at g1
 have g2 := zbh _ (yb d.2.1 (by omega) (by omega) (row d.2.2 ++ rest))
 rw [xL] at g2
 have g3 := zbh _ (yb d.2.2 (by omega) (by omega) rest)
 rw [xL] at g3
 exact ⟨_, _, g1, g2, g3⟩
theorem znq (hs : s.length ≤ 100000) {ms : List Dg} (hm : So ms ms) (he : y9 ms = s) {g : Nat → Dg} {M : Nat} (hg : sl g 0 M = ms) : ∀ (r m z : Nat) (l : List UInt8) (f : Nat → Dg), m + r = M → 0 < m → z = m * 3 → (∀ t, t < m → f t = g t) → l.length ≤ s.length → l = (sl g m r).flatMap one →
 ∃ f', sl f' 0 M = ms ∧ Goal P 0 20 (fun v h => v = .tup [.slg 0 0 0 M 0, .int .i64 0] ∧ h = HCo f' 0 (M * 3)) (ReB (el f) s l false M m m z GW)
 | 0, m, z, l, f, hr, h0, hz, hf, hx, ha => by
  obtain rfl : m = M := by omega
  subst hz
  obtain rfl : l = [] := ha
  have hM := zav ms
  rw [he, ← hg, yj] at hM
  have hf' : sl f 0 m = ms := by rw [← hg]; exact yP m 0 fun t _ h => hf t (by omega)
  have hso : So (sl f 0 m) ms := by rw [hf']; exact hm
  exact ⟨f, hf', Obl.goal (K := Goal P 0 20 _) mix (fun _ h => h) (cast (rBq _ (el f) _ (y9 ms) _ _ _ _ GW _).symm ⟨decide_eq_false (by omega), zi _, zi _, zis (z := m * 3) (Nat.le_refl _) (by omega) hso, neF he, zi _, rfl, rfl⟩)⟩
 | r + 1, m, z, l, f, hr, h0, hz, hf, hx, ha => by
  subst hz
  have hM := zav ms
  rw [he, ← hg, yj] at hM
  have hd : vA (g m) = true := ((hm.2 (g m)).1 (by rw [← hg]; exact vN g M 0 m (by omega) (by omega))).2
  have hb := of_decide_eq_true hd
  rw [zb2, List.flatMap_cons] at ha
  have hlen := congrArg List.length ha
  rw [List.length_append] at hlen
  obtain ⟨l2, l3, g1, g2, g3⟩ := zdP (by omega) hd ha
  obtain ⟨f', q1, q2⟩ := znq hs hm he hg r (m + 1) (0 + m * 3 + 3) _ (upd f m (g m)) (by omega) (by omega) (by omega) (fun t ht => by
   unfold upd
   by_cases h : t = m
   · rw [if_pos h, h]
   · rw [if_neg h]; exact hf t (by omega)) (by omega) rfl
  have w1 : IntKind.i64.wrap (g m).2.1 = (g m).2.1 := IntWalk.i64_in _ (by omega)
  have w2 : IntKind.i64.wrap (g m).2.2 = (g m).2.2 := IntWalk.i64_in _ (by omega)
  refine ⟨f', q1, Obl.goal (K := Goal P 0 20 _) mix (fun _ h => h) (cast (rBg _ (el f) (el (upd f m (g m))) _ _ _ _ _ _ _ _ _ _ _ _ _ _ _ _ _ GW _).symm ⟨decide_eq_true (by omega), rfl, g1, g2, g3, decide_eq_false (by omega), decide_eq_false (by omega), ⟨⟨by rw [yG]; omega, fun k hk => by
   rw [yG] at hk
   have hr : k = 0 ∨ k = 1 ∨ k = 2 := by omega
   rcases hr with h | h | h <;> subst h <;> exact ⟨_, rfl, rfl⟩⟩, by omega, by omega, by omega, by omega, by
    unfold xV
    rw [Bool.and_eq_true, Nat.ble_eq, Nat.blt_eq]
    constructor <;> omega, by omega⟩, by rw [w1, w2]; exact zcP f m (g m).1 (g m).2.1 (g m).2.2 yG, rfl, zi _, by rw [up64 m (by omega)]; exact q2⟩)⟩
theorem zie (hs : s.length ≤ 100000) {ms : List Dg} (hm : So ms ms) (he : y9 ms = s) :
 (ms = [] ∧ Goal P 0 20 (fun v h => v = .tup [.nils 0 0, .int .i64 0] ∧ h = ⟨.leaf, 0, GW⟩) (zc P 20 [.str s] GW)) ∨
  (0 < ms.length ∧ ∃ f', sl f' 0 ms.length = ms ∧ Goal P 0 20 (fun v h => v = .tup [.slg 0 0 0 ms.length 0, .int .i64 0] ∧ h = HCo f' 0 (ms.length * 3)) (zc P 20 [.str s] GW)) := by
 have hM := zav ms
 rw [he] at hM
 have hse : s = row (ms.length : Nat) ++ ms.flatMap one := by rw [← he]; unfold y9; rw [List.nil_append]
 have hp : xm s = some (((ms.length : Nat) : Int), (row (ms.length : Nat)).length) := by
  rw [hse]
  exact yb _ (by omega) (by omega) _
 have g0 := zbh s hp
 have e0 : s.drop (row (ms.length : Nat)).length = ms.flatMap one := by
  conv => lhs; rw [hse]
  exact xL _ _
 rw [e0] at g0
 by_cases h0 : ms = []
 · subst h0
   exact .inl ⟨rfl, Obl.goal (K := Goal P 0 20 _) mix (fun _ h => h) (cast (r0 _ _ _ _ _ GW _).symm ⟨g0, Obl.goal (K := Goal P 0 20 _) mix (fun _ h => h) (cast (rAq _ _ (y9 []) _ _ GW _).symm ⟨decide_eq_false (by decide), zfR, neF he, rfl, rfl⟩)⟩)⟩
 · have hpos : 0 < ms.length := List.length_pos_iff.2 h0
   refine .inr ⟨hpos, ?_⟩
   obtain ⟨M, hMM⟩ : ∃ M, ms.length = M + 1 := ⟨ms.length - 1, by omega⟩
   have hg : sl (fun i => ms.getD i zd) 0 (M + 1) = ms := by
    refine List.ext_getElem? fun i => ?_
    by_cases hi : i < M + 1
    · rw [wp _ _ _ _ hi, Nat.zero_add, List.getD_eq_getElem?_getD, List.getElem?_eq_getElem (by omega)]
      rfl
    · rw [List.getElem?_eq_none (by rw [yj]; omega), List.getElem?_eq_none (by omega)]
   generalize hgd : (fun i => ms.getD i zd) = g at hg
   have hd : vA (g 0) = true := ((hm.2 (g 0)).1 (by rw [← hg]; exact vN g (M + 1) 0 0 (by omega) (by omega))).2
   have hb := of_decide_eq_true hd
   have hl0 : (ms.flatMap one).length ≤ s.length := by rw [hse, List.length_append]; omega
   have ha' : ms.flatMap one = one (g 0) ++ (sl g 1 M).flatMap one := by
    rw [← List.flatMap_cons, ← zb2, hg]
   have hlen := congrArg List.length ha'
   rw [List.length_append] at hlen
   obtain ⟨l2, l3, g1, g2, g3⟩ := zdP (by omega) hd ha'
   obtain ⟨f', q1, q2⟩ := znq hs hm he hg M 1 3 _ (fun _ => g 0) (by omega) (by omega) (by omega) (fun t ht => by
    obtain rfl : t = 0 := by omega
    rfl) (by omega) rfl
   rw [← hMM] at q1 q2
   have w1 : IntKind.i64.wrap (g 0).2.1 = (g 0).2.1 := IntWalk.i64_in _ (by omega)
   have w2 : IntKind.i64.wrap (g 0).2.2 = (g 0).2.2 := IntWalk.i64_in _ (by omega)
   exact ⟨f', q1, Obl.goal (K := Goal P 0 20 _) mix (fun _ h => h) (cast (r0 _ _ _ _ _ GW _).symm ⟨g0, Obl.goal (K := Goal P 0 20 _) mix (fun _ h => h) (cast (rAg _ (el (fun _ => g 0)) _ _ _ _ _ _ _ _ _ _ _ _ _ _ (3) GW _).symm ⟨decide_eq_true (show (0 : Int) < ((ms.length : Nat) : Int) by omega), rfl, g1, g2, g3, decide_eq_false (by omega), decide_eq_false (by omega), by rw [w1, w2]; exact za3 (g 0).1 (g 0).2.1 (g 0).2.2, rfl, zi _, q2⟩)⟩)⟩
end
end Go.Proofs.YtdbfpjgnlfejmaaDoor.dg
end
section
set_option maxRecDepth 100000
set_option linter.unusedVariables false
namespace Go.Proofs.YtdbfpjgnlfejmaaDoor.dg
open Go Ev mq
theorem vb (R : AV → Prop) (s w : List UInt8) (G : T (T AV)) (_K : AM → Prop) : Obl P 4 (fun v _ => R v) 0 _K [.run 10, .op, .slot 11 (.str w), .run 6, .callh [] [0] (.tup [.nils 0 0, .int .i64 4]) ⟨.leaf, 0, G⟩, .run 10, .callh [] [0] (.tup [.nils 0 0, .int .i64 4]) ⟨.leaf, 0, G⟩, .run 56, .callv [] (.bool true), .run 4, .done] ((zc P 4 [.str s] G)) = ((((0 : Int) ≤ if decide ((4000 : Int) < (↑s.length : Int)) = true then (4000 : Int) else (↑s.length : Int)) ∧ (if decide ((4000 : Int) < (↑s.length : Int)) = true then (4000 : Int) else (↑s.length : Int)) ≤ (↑s.length : Int)) ∧ (AV.str (List.take ((if decide ((4000 : Int) < (↑s.length : Int)) = true then (4000 : Int) else (↑s.length : Int)).toNat - (0 : Nat)) (List.drop (0 : Nat) s)) = AV.str w) ∧ (Goal P (0) 19 (fun v h => v = AV.tup [AV.nils (0 : Nat) (0 : Nat), AV.int IntKind.i64 (4 : Int)] ∧ h = { objs := T.leaf, next := (0 : Nat), glob := G }) (zc P 19 [.str w] G)) ∧ (Goal P (0) 20 (fun v h => v = AV.tup [AV.nils (0 : Nat) (0 : Nat), AV.int IntKind.i64 (4 : Int)] ∧ h = { objs := T.leaf, next := (0 : Nat), glob := G }) (zc P 20 [.str w] G)) ∧ (Goal P (0) 18 (fun v _ => v = AV.bool true) (zc P 18 [] G)) ∧ (R (.bool true))) := by kernel_rfl
theorem vn (R : AV → Prop) (s w : List UInt8) (G : T (T AV)) (_K : AM → Prop) : Obl P 4 (fun v _ => R v) 0 _K [.run 10, .op, .slot 11 (.str w), .run 6, .callh [] [0] (.tup [.nils 0 0, .int .i64 0]) ⟨.leaf, 0, G⟩, .run 10, .callh [] [0] (.tup [.nils 0 0, .int .i64 0]) ⟨.leaf, 0, G⟩, .run 56, .callv [] (.bool true), .run 4, .done] ((zc P 4 [.str s] G)) = ((((0 : Int) ≤ if decide ((4000 : Int) < (↑s.length : Int)) = true then (4000 : Int) else (↑s.length : Int)) ∧ (if decide ((4000 : Int) < (↑s.length : Int)) = true then (4000 : Int) else (↑s.length : Int)) ≤ (↑s.length : Int)) ∧ (AV.str (List.take ((if decide ((4000 : Int) < (↑s.length : Int)) = true then (4000 : Int) else (↑s.length : Int)).toNat - (0 : Nat)) (List.drop (0 : Nat) s)) = AV.str w) ∧ (Goal P (0) 19 (fun v h => v = AV.tup [AV.nils (0 : Nat) (0 : Nat), AV.int IntKind.i64 (0 : Int)] ∧ h = { objs := T.leaf, next := (0 : Nat), glob := G }) (zc P 19 [.str w] G)) ∧ (Goal P (0) 20 (fun v h => v = AV.tup [AV.nils (0 : Nat) (0 : Nat), AV.int IntKind.i64 (0 : Int)] ∧ h = { objs := T.leaf, next := (0 : Nat), glob := G }) (zc P 20 [.str w] G)) ∧ (Goal P (0) 18 (fun v _ => v = AV.bool true) (zc P 18 [] G)) ∧ (R (.bool true))) := by kernel_rfl
theorem vr (R : AV → Prop) (cell cell' : Nat → AV) (s w : List UInt8) (k z y : Nat) (G : T (T AV)) (_K : AM → Prop) : Obl P 4 (fun v _ => R v) 0 _K [.run 10, .op, .slot 11 (.str w), .run 6, .callh [] [0] (.tup [.slg 0 0 0 k 0, .int .i64 0]) ⟨(.node .leaf (some (.cells (.fn fun j => some (cell j)) z 35 0 0 1 0 false .leaf)) .leaf), 1, G⟩, .run 10, .callh [] [0] (.tup [.slg 0 0 0 k 0, .int .i64 0]) ⟨(.node .leaf (some (.cells (.fn fun j => some (cell' j)) y 35 0 0 1 0 false .leaf)) .leaf), 1, G⟩, .run 11, .callh [(0, 0, []), (1, 1, [])] [0, 1] (.bool true) ⟨(.node (.node .leaf (some (.cells (.fn fun j => some (cell' j)) y 35 0 0 1 0 false .leaf)) .leaf) (some (.cells (.fn fun j => some (cell j)) z 35 0 0 1 0 false .leaf)) .leaf), 2, G⟩, .run 7, .callv [] (.bool true), .run 4, .done] ((zc P 4 [.str s] G)) = ((((0 : Int) ≤ if decide ((4000 : Int) < (↑s.length : Int)) = true then (4000 : Int) else (↑s.length : Int)) ∧ (if decide ((4000 : Int) < (↑s.length : Int)) = true then (4000 : Int) else (↑s.length : Int)) ≤ (↑s.length : Int)) ∧ (AV.str (List.take ((if decide ((4000 : Int) < (↑s.length : Int)) = true then (4000 : Int) else (↑s.length : Int)).toNat - (0 : Nat)) (List.drop (0 : Nat) s)) = AV.str w) ∧ (zb fun j => some (cell j)) ∧ (Goal P (0) 19 (fun v h => v = AV.tup [AV.slg (0 : Nat) (0 : Nat) (0 : Nat) k (0 : Nat), AV.int IntKind.i64 (0 : Int)] ∧ h = { objs := T.leaf.node (some (AObj.cells (T.fn fun j => some (cell j)) z (35 : TypeId) (0 : Nat) (0 : Nat) (1 : Nat) (0 : Nat) false T.leaf)) T.leaf, next := (1 : Nat), glob := G }) (zc P 19 [.str w] G)) ∧ (zb fun j => some (cell' j)) ∧ (Goal P (0) 20 (fun v h => v = AV.tup [AV.slg (0 : Nat) (0 : Nat) (0 : Nat) k (0 : Nat), AV.int IntKind.i64 (0 : Int)] ∧ h = { objs := T.leaf.node (some (AObj.cells (T.fn fun j => some (cell' j)) y (35 : TypeId) (0 : Nat) (0 : Nat) (1 : Nat) (0 : Nat) false T.leaf)) T.leaf, next := (1 : Nat), glob := G }) (zc P 20 [.str w] G)) ∧ (zb fun j => some (cell j)) ∧ (zb fun j => some (cell' j)) ∧ (zb fun j => some (cell j)) ∧ (zb fun j => some (cell' j)) ∧ (Goal P (2) 11 (fun v h => v = AV.bool true ∧ h = { objs := (T.leaf.node (some (AObj.cells (T.fn fun j => some (cell' j)) y (35 : TypeId) (0 : Nat) (0 : Nat) (1 : Nat) (0 : Nat) false T.leaf)) T.leaf).node (some (AObj.cells (T.fn fun j => some (cell j)) z (35 : TypeId) (0 : Nat) (0 : Nat) (1 : Nat) (0 : Nat) false T.leaf)) T.leaf, next := (2 : Nat), glob := G }) (ze P 11 [.slg 0 0 0 k 0, .slg 1 0 0 k 0] ⟨(.node (.node .leaf (some (.cells (.fn fun j => some (cell' j)) y 35 0 0 1 0 false .leaf)) .leaf) (some (.cells (.fn fun j => some (cell j)) z 35 0 0 1 0 false .leaf)) .leaf), 2, G⟩)) ∧ (Goal P (0) 18 (fun v _ => v = AV.bool true) (zc P 18 [] G)) ∧ (R (.bool true))) := by kernel_rfl
theorem zhu (s : List UInt8) : Goal P 0 4 (fun v _ => v = .bool true) (zc P 4 [.str s] GW) := by
 have hcut : (if decide ((4000 : Int) < (s.length : Int)) = true then (4000 : Int) else (s.length : Int)) = ((min s.length 4000 : Nat) : Int) := by
  by_cases h : (4000 : Int) < (s.length : Int)
  · rw [decide_eq_true h, if_pos rfl]; omega
  · rw [decide_eq_false h, if_neg (by simp)]; omega
 have hbd : (0 : Int) ≤ (if decide ((4000 : Int) < (s.length : Int)) = true then (4000 : Int) else (s.length : Int)) ∧ (if decide ((4000 : Int) < (s.length : Int)) = true then (4000 : Int) else (s.length : Int)) ≤ (s.length : Int) := by
  rw [hcut]; omega
 have hws : AV.str (List.take ((if decide ((4000 : Int) < (s.length : Int)) = true then (4000 : Int) else (s.length : Int)).toNat - 0) (List.drop 0 s)) = AV.str (s.take (min s.length 4000)) := by rw [hcut]; rfl
 generalize hwd : s.take (min s.length 4000) = w at *
 have hlen : w.length ≤ 4000 := by rw [← hwd, List.length_take]; omega
 by_cases hex : ∃ l, So l l ∧ y9 l = w
 · obtain ⟨ms, hm, he⟩ := hex
   rcases zmZ (by omega) hm he with ⟨h0, hg⟩ | ⟨hpos, f1, hf, hg⟩
   · rcases zie (by omega) hm he with ⟨_, hr⟩ | ⟨hpos, _⟩
     · exact Obl.goal (K := Goal P 0 4 _) mix (fun _ h => h) (cast (vn _ _ (w) GW _).symm ⟨hbd, hws, hg, hr, zca, rfl⟩)
     · rw [h0] at hpos
       exact absurd hpos (by simp)
   · rcases zie (by omega) hm he with ⟨h0, _⟩ | ⟨_, f2, hf2, hr⟩
     · rw [h0] at hpos
       exact absurd hpos (by simp)
     · have hM := zav ms
       rw [he] at hM
       exact Obl.goal (K := Goal P 0 4 _) mix (fun _ h => h) (cast (vr _ (el f1) (el f2) _ (w) (ms.length) (ms.length * 3) (ms.length * 3) GW _).symm ⟨hbd, hws, zi _, hg, zi _, hr, zi _, zi _, zi _, zi _, zjn (z := ms.length * 3) (y := ms.length * 3) (n := ms.length) (f := f1) (g := f2) (Nat.le_refl _) (Nat.le_refl _) (by omega) (hf.trans hf2.symm), zca, rfl⟩)
 · exact Obl.goal (K := Goal P 0 4 _) mix (fun _ h => h) (cast (vb _ _ (w) GW _).symm ⟨hbd, hws, zl8 (by omega) (fun l hl he => hex ⟨l, hl, he⟩), zjj (by omega) (fun l hl he => hex ⟨l, hl, he⟩), zca, rfl⟩)
end Go.Proofs.YtdbfpjgnlfejmaaDoor.dg
end
