/- The document's reader, as one contract. -/
import Derived.Test.YtmnelckaighmkaaWireY
set_option maxRecDepth 100000
namespace Go.Proofs.Ytmnelckaighmkaa.wireR
open Go Ev

/-- The document's reader. -/
noncomputable def rh (left : List UInt8) (bad : Bool) : AHeap := ⟨.node .leaf (some (.cells (.node (.node .leaf (some (.bool bad)) .leaf) (some (.str left)) .leaf) 2 34 0 0 1 0 false .leaf)) .leaf, 1, .leaf⟩

theorem refE (bad : Bool) (R : AV → AHeap → Prop) (_K : AM → Prop) : Obl P 15 (fun v H => R v H) 1 _K [.run 45, .done] ((startH P 15 [.ptr 0 0 0] (rh [] bad))) = ((R (.int .u64 0) (⟨(.node .leaf (some (.cells (.node (.node .leaf (some (.bool true)) .leaf) (some (.str [])) .leaf) 2 34 0 0 1 0 false .leaf)) .leaf), 1, .leaf⟩))) := by kernel_rfl

theorem refNyy (f : UInt8) (t w : List UInt8) (b : Int) (R : AV → AHeap → Prop) (_K : AM → Prop) : Obl P 15 (fun v H => R v H) 1 _K [.run 37, .know 19 true, .run 19, .know 37 true, .run 32, .done] ((startH P 15 [.ptr 0 0 0] (rh (f :: t) false))) = ((decide (IntKind.i64.wrap (↑f.toNat : Int) > (249 : Int)) = true) ∧ (decide ((↑(f :: t).length : Int) < IntKind.i64.wrap ((1 : Int) + IntKind.i64.wrap (IntKind.i64.wrap (↑f.toNat : Int) - (247 : Int)))) = true) ∧ (R (.int .u64 0) (⟨(.node .leaf (some (.cells (.node (.node .leaf (some (.bool true)) .leaf) (some (.str [])) .leaf) 2 34 0 0 1 0 false .leaf)) .leaf), 1, .leaf⟩))) := by kernel_rfl

theorem refNynnnny (f : UInt8) (t w : List UInt8) (b : Int) (R : AV → AHeap → Prop) (_K : AM → Prop) : Obl P 15 (fun v H => R v H) 1 _K [.run 37, .know 19 true, .run 19, .know 37 false, .run 10, .op, .run 1, (.callv [0] (.int .u64 b)), .run 10, .know 48 false, .run 7, .know 53 false, .run 7, .know 63 false, .run 13, .op, .run 1, (.callv [0, 1] (.str w)), .run 2, .know 77 true, .run 32, .done] ((startH P 15 [.ptr 0 0 0] (rh (f :: t) false))) = ((decide (IntKind.i64.wrap (↑f.toNat : Int) > (249 : Int)) = true) ∧ (decide ((↑(f :: t).length : Int) < IntKind.i64.wrap ((1 : Int) + IntKind.i64.wrap (IntKind.i64.wrap (↑f.toNat : Int) - (247 : Int)))) = false) ∧ (((0 : Int) ≤ IntKind.i64.wrap ((1 : Int) + IntKind.i64.wrap (IntKind.i64.wrap (↑f.toNat : Int) - (247 : Int))) ∧ IntKind.i64.wrap ((1 : Int) + IntKind.i64.wrap (IntKind.i64.wrap (↑f.toNat : Int) - (247 : Int))) ≤ (↑(f :: t).length : Int)) ∧ (0 : Int) ≤ (1 : Int) ∧ (1 : Int) ≤ (↑(IntKind.i64.wrap ((1 : Int) + IntKind.i64.wrap (IntKind.i64.wrap (↑f.toNat : Int) - (247 : Int)))).toNat : Int)) ∧ (Goal P (0 : Nat) 28 (fun x _ => x = AV.int IntKind.u64 b) (startM P 28 [.str (List.take ((IntKind.i64.wrap ((1 : Int) + IntKind.i64.wrap (IntKind.i64.wrap (↑f.toNat : Int) - (247 : Int)))).toNat - nat_lit 1) (List.drop (nat_lit 1) (f :: t)))] .leaf)) ∧ (decide (IntKind.i64.wrap (↑f.toNat : Int) ≤ (240 : Int)) = false) ∧ (decide (IntKind.i64.wrap (↑f.toNat : Int) < (249 : Int)) = false) ∧ ((IntKind.i64.wrap (↑f.toNat : Int) == (249 : Int)) = false) ∧ ((0 : Int) ≤ IntKind.i64.wrap ((1 : Int) + IntKind.i64.wrap (IntKind.i64.wrap (↑f.toNat : Int) - (247 : Int))) ∧ IntKind.i64.wrap ((1 : Int) + IntKind.i64.wrap (IntKind.i64.wrap (↑f.toNat : Int) - (247 : Int))) ≤ (↑(f :: t).length : Int)) ∧ (Goal P (0 : Nat) 9 (fun x _ => x = AV.str w) (startM P 9 [.str [], .int .u64 b] .leaf)) ∧ (some (AV.int IntKind.i64 (IntKind.i64.wrap ((1 : Int) + IntKind.i64.wrap (IntKind.i64.wrap (↑f.toNat : Int) - (247 : Int))))) = some (AV.int IntKind.i64 (IntKind.i64.wrap ((1 : Int) + IntKind.i64.wrap (IntKind.i64.wrap (↑f.toNat : Int) - (247 : Int)))))) ∧ (some (AV.str (f :: t)) = some (AV.str (f :: t))) ∧ ((!w == List.take ((IntKind.i64.wrap ((1 : Int) + IntKind.i64.wrap (IntKind.i64.wrap (↑f.toNat : Int) - (247 : Int)))).toNat - (0 : Nat)) (List.drop (0 : Nat) (f :: t))) = true) ∧ (R (.int .u64 0) (⟨(.node .leaf (some (.cells (.node (.node .leaf (some (.bool true)) .leaf) (some (.str [])) .leaf) 2 34 0 0 1 0 false .leaf)) .leaf), 1, .leaf⟩))) := by kernel_rfl

theorem refNynnnnn (f : UInt8) (t w : List UInt8) (b : Int) (R : AV → AHeap → Prop) (_K : AM → Prop) : Obl P 15 (fun v H => R v H) 1 _K [.run 37, .know 19 true, .run 19, .know 37 false, .run 10, .op, .run 1, (.callv [0] (.int .u64 b)), .run 10, .know 48 false, .run 7, .know 53 false, .run 7, .know 63 false, .run 13, .op, .run 1, (.callv [0, 1] (.str w)), .run 2, .know 77 false, .run 11, .op, .run 10, .done] ((startH P 15 [.ptr 0 0 0] (rh (f :: t) false))) = ((decide (IntKind.i64.wrap (↑f.toNat : Int) > (249 : Int)) = true) ∧ (decide ((↑(f :: t).length : Int) < IntKind.i64.wrap ((1 : Int) + IntKind.i64.wrap (IntKind.i64.wrap (↑f.toNat : Int) - (247 : Int)))) = false) ∧ (((0 : Int) ≤ IntKind.i64.wrap ((1 : Int) + IntKind.i64.wrap (IntKind.i64.wrap (↑f.toNat : Int) - (247 : Int))) ∧ IntKind.i64.wrap ((1 : Int) + IntKind.i64.wrap (IntKind.i64.wrap (↑f.toNat : Int) - (247 : Int))) ≤ (↑(f :: t).length : Int)) ∧ (0 : Int) ≤ (1 : Int) ∧ (1 : Int) ≤ (↑(IntKind.i64.wrap ((1 : Int) + IntKind.i64.wrap (IntKind.i64.wrap (↑f.toNat : Int) - (247 : Int)))).toNat : Int)) ∧ (Goal P (0 : Nat) 28 (fun x _ => x = AV.int IntKind.u64 b) (startM P 28 [.str (List.take ((IntKind.i64.wrap ((1 : Int) + IntKind.i64.wrap (IntKind.i64.wrap (↑f.toNat : Int) - (247 : Int)))).toNat - nat_lit 1) (List.drop (nat_lit 1) (f :: t)))] .leaf)) ∧ (decide (IntKind.i64.wrap (↑f.toNat : Int) ≤ (240 : Int)) = false) ∧ (decide (IntKind.i64.wrap (↑f.toNat : Int) < (249 : Int)) = false) ∧ ((IntKind.i64.wrap (↑f.toNat : Int) == (249 : Int)) = false) ∧ ((0 : Int) ≤ IntKind.i64.wrap ((1 : Int) + IntKind.i64.wrap (IntKind.i64.wrap (↑f.toNat : Int) - (247 : Int))) ∧ IntKind.i64.wrap ((1 : Int) + IntKind.i64.wrap (IntKind.i64.wrap (↑f.toNat : Int) - (247 : Int))) ≤ (↑(f :: t).length : Int)) ∧ (Goal P (0 : Nat) 9 (fun x _ => x = AV.str w) (startM P 9 [.str [], .int .u64 b] .leaf)) ∧ (some (AV.int IntKind.i64 (IntKind.i64.wrap ((1 : Int) + IntKind.i64.wrap (IntKind.i64.wrap (↑f.toNat : Int) - (247 : Int))))) = some (AV.int IntKind.i64 (IntKind.i64.wrap ((1 : Int) + IntKind.i64.wrap (IntKind.i64.wrap (↑f.toNat : Int) - (247 : Int)))))) ∧ (some (AV.str (f :: t)) = some (AV.str (f :: t))) ∧ ((!w == List.take ((IntKind.i64.wrap ((1 : Int) + IntKind.i64.wrap (IntKind.i64.wrap (↑f.toNat : Int) - (247 : Int)))).toNat - (0 : Nat)) (List.drop (0 : Nat) (f :: t))) = false) ∧ ((0 : Int) ≤ IntKind.i64.wrap ((1 : Int) + IntKind.i64.wrap (IntKind.i64.wrap (↑f.toNat : Int) - (247 : Int))) ∧ IntKind.i64.wrap ((1 : Int) + IntKind.i64.wrap (IntKind.i64.wrap (↑f.toNat : Int) - (247 : Int))) ≤ (↑(f :: t).length : Int)) ∧ (R (.int .u64 b) (⟨(.node .leaf (some (.cells (.node (.node .leaf (some (.bool false)) .leaf) (some (.str (List.take ((f :: t).length - (IntKind.i64.wrap ((1 : Int) + IntKind.i64.wrap (IntKind.i64.wrap (↑f.toNat : Int) - (247 : Int)))).toNat) (List.drop (IntKind.i64.wrap ((1 : Int) + IntKind.i64.wrap (IntKind.i64.wrap (↑f.toNat : Int) - (247 : Int)))).toNat (f :: t))))) .leaf) 2 34 0 0 1 0 false .leaf)) .leaf), 1, .leaf⟩))) := by kernel_rfl

theorem refNnyy (f : UInt8) (t w : List UInt8) (b : Int) (R : AV → AHeap → Prop) (_K : AM → Prop) : Obl P 15 (fun v H => R v H) 1 _K [.run 37, .know 19 false, .run 7, .know 24 true, .run 17, .know 37 true, .run 32, .done] ((startH P 15 [.ptr 0 0 0] (rh (f :: t) false))) = ((decide (IntKind.i64.wrap (↑f.toNat : Int) > (249 : Int)) = false) ∧ ((IntKind.i64.wrap (↑f.toNat : Int) == (249 : Int)) = true) ∧ (decide ((↑(f :: t).length : Int) < Int.ofNat (nat_lit 3)) = true) ∧ (R (.int .u64 0) (⟨(.node .leaf (some (.cells (.node (.node .leaf (some (.bool true)) .leaf) (some (.str [])) .leaf) 2 34 0 0 1 0 false .leaf)) .leaf), 1, .leaf⟩))) := by kernel_rfl

theorem refNnynnny (f : UInt8) (t w : List UInt8) (b : Int) (R : AV → AHeap → Prop) (_K : AM → Prop) : Obl P 15 (fun v H => R v H) 1 _K [.run 37, .know 19 false, .run 7, .know 24 true, .run 17, .know 37 false, .run 10, .op, .run 1, (.callv [0] (.int .u64 b)), .run 10, .know 48 false, .run 7, .know 53 false, .run 7, .know 63 true, .run 17, .op, .run 1, (.callv [0, 1] (.str w)), .run 2, .know 77 true, .run 32, .done] ((startH P 15 [.ptr 0 0 0] (rh (f :: t) false))) = ((decide (IntKind.i64.wrap (↑f.toNat : Int) > (249 : Int)) = false) ∧ ((IntKind.i64.wrap (↑f.toNat : Int) == (249 : Int)) = true) ∧ (decide ((↑(f :: t).length : Int) < Int.ofNat (nat_lit 3)) = false) ∧ (((0 : Int) ≤ Int.ofNat (nat_lit 3) ∧ Int.ofNat (nat_lit 3) ≤ (↑(f :: t).length : Int)) ∧ (0 : Int) ≤ (1 : Int) ∧ (1 : Int) ≤ (↑(nat_lit 3) : Int)) ∧ (Goal P (0 : Nat) 28 (fun x _ => x = AV.int IntKind.u64 b) (startM P 28 [.str (List.take (nat_lit 2) (List.drop (nat_lit 1) (f :: t)))] .leaf)) ∧ (decide (IntKind.i64.wrap (↑f.toNat : Int) ≤ (240 : Int)) = false) ∧ (decide (IntKind.i64.wrap (↑f.toNat : Int) < (249 : Int)) = false) ∧ ((IntKind.i64.wrap (↑f.toNat : Int) == (249 : Int)) = true) ∧ ((0 : Int) ≤ Int.ofNat (nat_lit 3) ∧ Int.ofNat (nat_lit 3) ≤ (↑(f :: t).length : Int)) ∧ (Goal P (0 : Nat) 9 (fun x _ => x = AV.str w) (startM P 9 [.str [], .int .u64 (IntKind.u64.wrap (b + (2288 : Int)))] .leaf)) ∧ (some (AV.int IntKind.i64 (Int.ofNat (nat_lit 3))) = some (AV.int IntKind.i64 (Int.ofNat (nat_lit 3)))) ∧ (some (AV.str (f :: t)) = some (AV.str (f :: t))) ∧ ((!w == List.take (nat_lit 3) (List.drop (0 : Nat) (f :: t))) = true) ∧ (R (.int .u64 0) (⟨(.node .leaf (some (.cells (.node (.node .leaf (some (.bool true)) .leaf) (some (.str [])) .leaf) 2 34 0 0 1 0 false .leaf)) .leaf), 1, .leaf⟩))) := by kernel_rfl

theorem refNnynnnn (f : UInt8) (t w : List UInt8) (b : Int) (R : AV → AHeap → Prop) (_K : AM → Prop) : Obl P 15 (fun v H => R v H) 1 _K [.run 37, .know 19 false, .run 7, .know 24 true, .run 17, .know 37 false, .run 10, .op, .run 1, (.callv [0] (.int .u64 b)), .run 10, .know 48 false, .run 7, .know 53 false, .run 7, .know 63 true, .run 17, .op, .run 1, (.callv [0, 1] (.str w)), .run 2, .know 77 false, .run 11, .op, .run 10, .done] ((startH P 15 [.ptr 0 0 0] (rh (f :: t) false))) = ((decide (IntKind.i64.wrap (↑f.toNat : Int) > (249 : Int)) = false) ∧ ((IntKind.i64.wrap (↑f.toNat : Int) == (249 : Int)) = true) ∧ (decide ((↑(f :: t).length : Int) < Int.ofNat (nat_lit 3)) = false) ∧ (((0 : Int) ≤ Int.ofNat (nat_lit 3) ∧ Int.ofNat (nat_lit 3) ≤ (↑(f :: t).length : Int)) ∧ (0 : Int) ≤ (1 : Int) ∧ (1 : Int) ≤ (↑(nat_lit 3) : Int)) ∧ (Goal P (0 : Nat) 28 (fun x _ => x = AV.int IntKind.u64 b) (startM P 28 [.str (List.take (nat_lit 2) (List.drop (nat_lit 1) (f :: t)))] .leaf)) ∧ (decide (IntKind.i64.wrap (↑f.toNat : Int) ≤ (240 : Int)) = false) ∧ (decide (IntKind.i64.wrap (↑f.toNat : Int) < (249 : Int)) = false) ∧ ((IntKind.i64.wrap (↑f.toNat : Int) == (249 : Int)) = true) ∧ ((0 : Int) ≤ Int.ofNat (nat_lit 3) ∧ Int.ofNat (nat_lit 3) ≤ (↑(f :: t).length : Int)) ∧ (Goal P (0 : Nat) 9 (fun x _ => x = AV.str w) (startM P 9 [.str [], .int .u64 (IntKind.u64.wrap (b + (2288 : Int)))] .leaf)) ∧ (some (AV.int IntKind.i64 (Int.ofNat (nat_lit 3))) = some (AV.int IntKind.i64 (Int.ofNat (nat_lit 3)))) ∧ (some (AV.str (f :: t)) = some (AV.str (f :: t))) ∧ ((!w == List.take (nat_lit 3) (List.drop (0 : Nat) (f :: t))) = false) ∧ ((0 : Int) ≤ Int.ofNat (nat_lit 3) ∧ Int.ofNat (nat_lit 3) ≤ (↑(f :: t).length : Int)) ∧ (R (.int .u64 (IntKind.u64.wrap (b + (2288 : Int)))) (⟨(.node .leaf (some (.cells (.node (.node .leaf (some (.bool false)) .leaf) (some (.str (List.take ((f :: t).length - nat_lit 3) (List.drop (nat_lit 3) (f :: t))))) .leaf) 2 34 0 0 1 0 false .leaf)) .leaf), 1, .leaf⟩))) := by kernel_rfl

theorem refNnnyy (f : UInt8) (t w : List UInt8) (b : Int) (R : AV → AHeap → Prop) (_K : AM → Prop) : Obl P 15 (fun v H => R v H) 1 _K [.run 37, .know 19 false, .run 7, .know 24 false, .run 7, .know 27 true, .run 17, .know 37 true, .run 32, .done] ((startH P 15 [.ptr 0 0 0] (rh (f :: t) false))) = ((decide (IntKind.i64.wrap (↑f.toNat : Int) > (249 : Int)) = false) ∧ ((IntKind.i64.wrap (↑f.toNat : Int) == (249 : Int)) = false) ∧ (decide (IntKind.i64.wrap (↑f.toNat : Int) > (240 : Int)) = true) ∧ (decide ((↑(f :: t).length : Int) < Int.ofNat (nat_lit 2)) = true) ∧ (R (.int .u64 0) (⟨(.node .leaf (some (.cells (.node (.node .leaf (some (.bool true)) .leaf) (some (.str [])) .leaf) 2 34 0 0 1 0 false .leaf)) .leaf), 1, .leaf⟩))) := by kernel_rfl

theorem refNnnynnyy (f : UInt8) (t w : List UInt8) (b : Int) (R : AV → AHeap → Prop) (_K : AM → Prop) : Obl P 15 (fun v H => R v H) 1 _K [.run 37, .know 19 false, .run 7, .know 24 false, .run 7, .know 27 true, .run 17, .know 37 false, .run 10, .op, .run 1, (.callv [0] (.int .u64 b)), .run 10, .know 48 false, .run 7, .know 53 true, .run 22, .op, .run 1, (.callv [0, 1] (.str w)), .run 2, .know 77 true, .run 32, .done] ((startH P 15 [.ptr 0 0 0] (rh (f :: t) false))) = ((decide (IntKind.i64.wrap (↑f.toNat : Int) > (249 : Int)) = false) ∧ ((IntKind.i64.wrap (↑f.toNat : Int) == (249 : Int)) = false) ∧ (decide (IntKind.i64.wrap (↑f.toNat : Int) > (240 : Int)) = true) ∧ (decide ((↑(f :: t).length : Int) < Int.ofNat (nat_lit 2)) = false) ∧ (((0 : Int) ≤ Int.ofNat (nat_lit 2) ∧ Int.ofNat (nat_lit 2) ≤ (↑(f :: t).length : Int)) ∧ (0 : Int) ≤ (1 : Int) ∧ (1 : Int) ≤ (↑(nat_lit 2) : Int)) ∧ (Goal P (0 : Nat) 28 (fun x _ => x = AV.int IntKind.u64 b) (startM P 28 [.str (List.take (nat_lit 1) (List.drop (nat_lit 1) (f :: t)))] .leaf)) ∧ (decide (IntKind.i64.wrap (↑f.toNat : Int) ≤ (240 : Int)) = false) ∧ (decide (IntKind.i64.wrap (↑f.toNat : Int) < (249 : Int)) = true) ∧ ((0 : Int) ≤ Int.ofNat (nat_lit 2) ∧ Int.ofNat (nat_lit 2) ≤ (↑(f :: t).length : Int)) ∧ (Goal P (0 : Nat) 9 (fun x _ => x = AV.str w) (startM P 9 [.str [], .int .u64 (IntKind.u64.wrap (IntKind.u64.wrap (b + (240 : Int)) + IntKind.u64.wrap ((256 : Int) * IntKind.u64.wrap (IntKind.i64.wrap (IntKind.i64.wrap (↑f.toNat : Int) - (241 : Int))))))] .leaf)) ∧ (some (AV.int IntKind.i64 (Int.ofNat (nat_lit 2))) = some (AV.int IntKind.i64 (Int.ofNat (nat_lit 2)))) ∧ (some (AV.str (f :: t)) = some (AV.str (f :: t))) ∧ ((!w == List.take (nat_lit 2) (List.drop (0 : Nat) (f :: t))) = true) ∧ (R (.int .u64 0) (⟨(.node .leaf (some (.cells (.node (.node .leaf (some (.bool true)) .leaf) (some (.str [])) .leaf) 2 34 0 0 1 0 false .leaf)) .leaf), 1, .leaf⟩))) := by kernel_rfl

theorem refNnnynnyn (f : UInt8) (t w : List UInt8) (b : Int) (R : AV → AHeap → Prop) (_K : AM → Prop) : Obl P 15 (fun v H => R v H) 1 _K [.run 37, .know 19 false, .run 7, .know 24 false, .run 7, .know 27 true, .run 17, .know 37 false, .run 10, .op, .run 1, (.callv [0] (.int .u64 b)), .run 10, .know 48 false, .run 7, .know 53 true, .run 22, .op, .run 1, (.callv [0, 1] (.str w)), .run 2, .know 77 false, .run 11, .op, .run 10, .done] ((startH P 15 [.ptr 0 0 0] (rh (f :: t) false))) = ((decide (IntKind.i64.wrap (↑f.toNat : Int) > (249 : Int)) = false) ∧ ((IntKind.i64.wrap (↑f.toNat : Int) == (249 : Int)) = false) ∧ (decide (IntKind.i64.wrap (↑f.toNat : Int) > (240 : Int)) = true) ∧ (decide ((↑(f :: t).length : Int) < Int.ofNat (nat_lit 2)) = false) ∧ (((0 : Int) ≤ Int.ofNat (nat_lit 2) ∧ Int.ofNat (nat_lit 2) ≤ (↑(f :: t).length : Int)) ∧ (0 : Int) ≤ (1 : Int) ∧ (1 : Int) ≤ (↑(nat_lit 2) : Int)) ∧ (Goal P (0 : Nat) 28 (fun x _ => x = AV.int IntKind.u64 b) (startM P 28 [.str (List.take (nat_lit 1) (List.drop (nat_lit 1) (f :: t)))] .leaf)) ∧ (decide (IntKind.i64.wrap (↑f.toNat : Int) ≤ (240 : Int)) = false) ∧ (decide (IntKind.i64.wrap (↑f.toNat : Int) < (249 : Int)) = true) ∧ ((0 : Int) ≤ Int.ofNat (nat_lit 2) ∧ Int.ofNat (nat_lit 2) ≤ (↑(f :: t).length : Int)) ∧ (Goal P (0 : Nat) 9 (fun x _ => x = AV.str w) (startM P 9 [.str [], .int .u64 (IntKind.u64.wrap (IntKind.u64.wrap (b + (240 : Int)) + IntKind.u64.wrap ((256 : Int) * IntKind.u64.wrap (IntKind.i64.wrap (IntKind.i64.wrap (↑f.toNat : Int) - (241 : Int))))))] .leaf)) ∧ (some (AV.int IntKind.i64 (Int.ofNat (nat_lit 2))) = some (AV.int IntKind.i64 (Int.ofNat (nat_lit 2)))) ∧ (some (AV.str (f :: t)) = some (AV.str (f :: t))) ∧ ((!w == List.take (nat_lit 2) (List.drop (0 : Nat) (f :: t))) = false) ∧ ((0 : Int) ≤ Int.ofNat (nat_lit 2) ∧ Int.ofNat (nat_lit 2) ≤ (↑(f :: t).length : Int)) ∧ (R (.int .u64 (IntKind.u64.wrap (IntKind.u64.wrap (b + (240 : Int)) + IntKind.u64.wrap ((256 : Int) * IntKind.u64.wrap (IntKind.i64.wrap (IntKind.i64.wrap (↑f.toNat : Int) - (241 : Int))))))) (⟨(.node .leaf (some (.cells (.node (.node .leaf (some (.bool false)) .leaf) (some (.str (List.take ((f :: t).length - nat_lit 2) (List.drop (nat_lit 2) (f :: t))))) .leaf) 2 34 0 0 1 0 false .leaf)) .leaf), 1, .leaf⟩))) := by kernel_rfl

theorem refNnnnyy (f : UInt8) (t w : List UInt8) (b : Int) (R : AV → AHeap → Prop) (_K : AM → Prop) : Obl P 15 (fun v H => R v H) 1 _K [.run 37, .know 19 false, .run 7, .know 24 false, .run 7, .know 27 false, .run 25, .op, .run 1, (.callv [0] (.int .u64 b)), .run 10, .know 48 true, .run 17, .op, .run 1, (.callv [0, 1] (.str w)), .run 2, .know 77 true, .run 32, .done] ((startH P 15 [.ptr 0 0 0] (rh (f :: t) false))) = ((decide (IntKind.i64.wrap (↑f.toNat : Int) > (249 : Int)) = false) ∧ ((IntKind.i64.wrap (↑f.toNat : Int) == (249 : Int)) = false) ∧ (decide (IntKind.i64.wrap (↑f.toNat : Int) > (240 : Int)) = false) ∧ (((0 : Int) ≤ Int.ofNat (nat_lit 1) ∧ Int.ofNat (nat_lit 1) ≤ (↑(f :: t).length : Int)) ∧ (0 : Int) ≤ (1 : Int) ∧ (1 : Int) ≤ (↑(nat_lit 1) : Int)) ∧ (Goal P (0 : Nat) 28 (fun x _ => x = AV.int IntKind.u64 b) (startM P 28 [.str (List.take (nat_lit 0) (List.drop (nat_lit 1) (f :: t)))] .leaf)) ∧ (decide (IntKind.i64.wrap (↑f.toNat : Int) ≤ (240 : Int)) = true) ∧ ((0 : Int) ≤ Int.ofNat (nat_lit 1) ∧ Int.ofNat (nat_lit 1) ≤ (↑(f :: t).length : Int)) ∧ (Goal P (0 : Nat) 9 (fun x _ => x = AV.str w) (startM P 9 [.str [], .int .u64 (IntKind.u64.wrap (IntKind.i64.wrap (↑f.toNat : Int)))] .leaf)) ∧ (some (AV.int IntKind.i64 (Int.ofNat (nat_lit 1))) = some (AV.int IntKind.i64 (Int.ofNat (nat_lit 1)))) ∧ (some (AV.str (f :: t)) = some (AV.str (f :: t))) ∧ ((!w == List.take (nat_lit 1) (List.drop (0 : Nat) (f :: t))) = true) ∧ (R (.int .u64 0) (⟨(.node .leaf (some (.cells (.node (.node .leaf (some (.bool true)) .leaf) (some (.str [])) .leaf) 2 34 0 0 1 0 false .leaf)) .leaf), 1, .leaf⟩))) := by kernel_rfl

theorem refNnnnyn (f : UInt8) (t w : List UInt8) (b : Int) (R : AV → AHeap → Prop) (_K : AM → Prop) : Obl P 15 (fun v H => R v H) 1 _K [.run 37, .know 19 false, .run 7, .know 24 false, .run 7, .know 27 false, .run 25, .op, .run 1, (.callv [0] (.int .u64 b)), .run 10, .know 48 true, .run 17, .op, .run 1, (.callv [0, 1] (.str w)), .run 2, .know 77 false, .run 11, .op, .run 10, .done] ((startH P 15 [.ptr 0 0 0] (rh (f :: t) false))) = ((decide (IntKind.i64.wrap (↑f.toNat : Int) > (249 : Int)) = false) ∧ ((IntKind.i64.wrap (↑f.toNat : Int) == (249 : Int)) = false) ∧ (decide (IntKind.i64.wrap (↑f.toNat : Int) > (240 : Int)) = false) ∧ (((0 : Int) ≤ Int.ofNat (nat_lit 1) ∧ Int.ofNat (nat_lit 1) ≤ (↑(f :: t).length : Int)) ∧ (0 : Int) ≤ (1 : Int) ∧ (1 : Int) ≤ (↑(nat_lit 1) : Int)) ∧ (Goal P (0 : Nat) 28 (fun x _ => x = AV.int IntKind.u64 b) (startM P 28 [.str (List.take (nat_lit 0) (List.drop (nat_lit 1) (f :: t)))] .leaf)) ∧ (decide (IntKind.i64.wrap (↑f.toNat : Int) ≤ (240 : Int)) = true) ∧ ((0 : Int) ≤ Int.ofNat (nat_lit 1) ∧ Int.ofNat (nat_lit 1) ≤ (↑(f :: t).length : Int)) ∧ (Goal P (0 : Nat) 9 (fun x _ => x = AV.str w) (startM P 9 [.str [], .int .u64 (IntKind.u64.wrap (IntKind.i64.wrap (↑f.toNat : Int)))] .leaf)) ∧ (some (AV.int IntKind.i64 (Int.ofNat (nat_lit 1))) = some (AV.int IntKind.i64 (Int.ofNat (nat_lit 1)))) ∧ (some (AV.str (f :: t)) = some (AV.str (f :: t))) ∧ ((!w == List.take (nat_lit 1) (List.drop (0 : Nat) (f :: t))) = false) ∧ ((0 : Int) ≤ Int.ofNat (nat_lit 1) ∧ Int.ofNat (nat_lit 1) ≤ (↑(f :: t).length : Int)) ∧ (R (.int .u64 (IntKind.u64.wrap (IntKind.i64.wrap (↑f.toNat : Int)))) (⟨(.node .leaf (some (.cells (.node (.node .leaf (some (.bool false)) .leaf) (some (.str (List.take ((f :: t).length - nat_lit 1) (List.drop (nat_lit 1) (f :: t))))) .leaf) 2 34 0 0 1 0 false .leaf)) .leaf), 1, .leaf⟩))) := by kernel_rfl

theorem low0 (R : AV → Prop) (_K : AM → Prop) : Obl P 28 (fun v _ => R v) 0 _K [.run 31, .done] ((startM P 28 [.str []] .leaf)) = ((R (.int .u64 0))) := by kernel_rfl

theorem low1 (a1 : UInt8) (R : AV → Prop) (_K : AM → Prop) : Obl P 28 (fun v _ => R v) 0 _K [.run 60, .done] ((startM P 28 [.str [a1]] .leaf)) = ((R (.int .u64 (IntKind.u64.wrap (Int.ofNat (nat_lit 0) + IntKind.u64.wrap (↑a1.toNat : Int)))))) := by kernel_rfl

theorem low2 (a1 a2 : UInt8) (R : AV → Prop) (_K : AM → Prop) : Obl P 28 (fun v _ => R v) 0 _K [.run 89, .done] ((startM P 28 [.str [a1, a2]] .leaf)) = ((R (.int .u64 (IntKind.u64.wrap (IntKind.u64.wrap ((256 : Int) * IntKind.u64.wrap (Int.ofNat (nat_lit 0) + IntKind.u64.wrap (↑a1.toNat : Int))) + IntKind.u64.wrap (↑a2.toNat : Int)))))) := by kernel_rfl

theorem low3 (a1 a2 a3 : UInt8) (R : AV → Prop) (_K : AM → Prop) : Obl P 28 (fun v _ => R v) 0 _K [.run 118, .done] ((startM P 28 [.str [a1, a2, a3]] .leaf)) = ((R (.int .u64 (IntKind.u64.wrap (IntKind.u64.wrap ((256 : Int) * IntKind.u64.wrap (IntKind.u64.wrap ((256 : Int) * IntKind.u64.wrap (Int.ofNat (nat_lit 0) + IntKind.u64.wrap (↑a1.toNat : Int))) + IntKind.u64.wrap (↑a2.toNat : Int))) + IntKind.u64.wrap (↑a3.toNat : Int)))))) := by kernel_rfl

theorem low4 (a1 a2 a3 a4 : UInt8) (R : AV → Prop) (_K : AM → Prop) : Obl P 28 (fun v _ => R v) 0 _K [.run 147, .done] ((startM P 28 [.str [a1, a2, a3, a4]] .leaf)) = ((R (.int .u64 (IntKind.u64.wrap (IntKind.u64.wrap ((256 : Int) * IntKind.u64.wrap (IntKind.u64.wrap ((256 : Int) * IntKind.u64.wrap (IntKind.u64.wrap ((256 : Int) * IntKind.u64.wrap (Int.ofNat (nat_lit 0) + IntKind.u64.wrap (↑a1.toNat : Int))) + IntKind.u64.wrap (↑a2.toNat : Int))) + IntKind.u64.wrap (↑a3.toNat : Int))) + IntKind.u64.wrap (↑a4.toNat : Int)))))) := by kernel_rfl

theorem low5 (a1 a2 a3 a4 a5 : UInt8) (R : AV → Prop) (_K : AM → Prop) : Obl P 28 (fun v _ => R v) 0 _K [.run 176, .done] ((startM P 28 [.str [a1, a2, a3, a4, a5]] .leaf)) = ((R (.int .u64 (IntKind.u64.wrap (IntKind.u64.wrap ((256 : Int) * IntKind.u64.wrap (IntKind.u64.wrap ((256 : Int) * IntKind.u64.wrap (IntKind.u64.wrap ((256 : Int) * IntKind.u64.wrap (IntKind.u64.wrap ((256 : Int) * IntKind.u64.wrap (Int.ofNat (nat_lit 0) + IntKind.u64.wrap (↑a1.toNat : Int))) + IntKind.u64.wrap (↑a2.toNat : Int))) + IntKind.u64.wrap (↑a3.toNat : Int))) + IntKind.u64.wrap (↑a4.toNat : Int))) + IntKind.u64.wrap (↑a5.toNat : Int)))))) := by kernel_rfl

theorem low6 (a1 a2 a3 a4 a5 a6 : UInt8) (R : AV → Prop) (_K : AM → Prop) : Obl P 28 (fun v _ => R v) 0 _K [.run 205, .done] ((startM P 28 [.str [a1, a2, a3, a4, a5, a6]] .leaf)) = ((R (.int .u64 (IntKind.u64.wrap (IntKind.u64.wrap ((256 : Int) * IntKind.u64.wrap (IntKind.u64.wrap ((256 : Int) * IntKind.u64.wrap (IntKind.u64.wrap ((256 : Int) * IntKind.u64.wrap (IntKind.u64.wrap ((256 : Int) * IntKind.u64.wrap (IntKind.u64.wrap ((256 : Int) * IntKind.u64.wrap (Int.ofNat (nat_lit 0) + IntKind.u64.wrap (↑a1.toNat : Int))) + IntKind.u64.wrap (↑a2.toNat : Int))) + IntKind.u64.wrap (↑a3.toNat : Int))) + IntKind.u64.wrap (↑a4.toNat : Int))) + IntKind.u64.wrap (↑a5.toNat : Int))) + IntKind.u64.wrap (↑a6.toNat : Int)))))) := by kernel_rfl

theorem low7 (a1 a2 a3 a4 a5 a6 a7 : UInt8) (R : AV → Prop) (_K : AM → Prop) : Obl P 28 (fun v _ => R v) 0 _K [.run 234, .done] ((startM P 28 [.str [a1, a2, a3, a4, a5, a6, a7]] .leaf)) = ((R (.int .u64 (IntKind.u64.wrap (IntKind.u64.wrap ((256 : Int) * IntKind.u64.wrap (IntKind.u64.wrap ((256 : Int) * IntKind.u64.wrap (IntKind.u64.wrap ((256 : Int) * IntKind.u64.wrap (IntKind.u64.wrap ((256 : Int) * IntKind.u64.wrap (IntKind.u64.wrap ((256 : Int) * IntKind.u64.wrap (IntKind.u64.wrap ((256 : Int) * IntKind.u64.wrap (Int.ofNat (nat_lit 0) + IntKind.u64.wrap (↑a1.toNat : Int))) + IntKind.u64.wrap (↑a2.toNat : Int))) + IntKind.u64.wrap (↑a3.toNat : Int))) + IntKind.u64.wrap (↑a4.toNat : Int))) + IntKind.u64.wrap (↑a5.toNat : Int))) + IntKind.u64.wrap (↑a6.toNat : Int))) + IntKind.u64.wrap (↑a7.toNat : Int)))))) := by kernel_rfl

theorem low8 (a1 a2 a3 a4 a5 a6 a7 a8 : UInt8) (R : AV → Prop) (_K : AM → Prop) : Obl P 28 (fun v _ => R v) 0 _K [.run 263, .done] ((startM P 28 [.str [a1, a2, a3, a4, a5, a6, a7, a8]] .leaf)) = ((R (.int .u64 (IntKind.u64.wrap (IntKind.u64.wrap ((256 : Int) * IntKind.u64.wrap (IntKind.u64.wrap ((256 : Int) * IntKind.u64.wrap (IntKind.u64.wrap ((256 : Int) * IntKind.u64.wrap (IntKind.u64.wrap ((256 : Int) * IntKind.u64.wrap (IntKind.u64.wrap ((256 : Int) * IntKind.u64.wrap (IntKind.u64.wrap ((256 : Int) * IntKind.u64.wrap (IntKind.u64.wrap ((256 : Int) * IntKind.u64.wrap (Int.ofNat (nat_lit 0) + IntKind.u64.wrap (↑a1.toNat : Int))) + IntKind.u64.wrap (↑a2.toNat : Int))) + IntKind.u64.wrap (↑a3.toNat : Int))) + IntKind.u64.wrap (↑a4.toNat : Int))) + IntKind.u64.wrap (↑a5.toNat : Int))) + IntKind.u64.wrap (↑a6.toNat : Int))) + IntKind.u64.wrap (↑a7.toNat : Int))) + IntKind.u64.wrap (↑a8.toNat : Int)))))) := by kernel_rfl

theorem rtexty (left left2 : List UInt8) (bad bad2 : Bool) (n : Int) (R : AV → AHeap → Prop) (_K : AM → Prop) : Obl P 17 (fun v H => R v H) 1 _K [.run 8, (.callh [(0, 0, [])] [0] (.int .u64 n) (rh left2 bad2)), .run 14, .know 14 true, .run 35, .done] ((startH P 17 [.ptr 0 0 0] (rh left bad))) = ((Goal P 1 15 (fun x k => x = AV.int IntKind.u64 n ∧ k = rh left2 bad2) (startH P 15 [.ptr 0 0 0] (rh left bad))) ∧ (decide (n > IntKind.u64.wrap (↑left2.length : Int)) = true) ∧ (R (.str []) (⟨(.node .leaf (some (.cells (.node (.node .leaf (some (.bool true)) .leaf) (some (.str [])) .leaf) 2 34 0 0 1 0 false .leaf)) .leaf), 1, .leaf⟩))) := by kernel_rfl

theorem rtextn (left left2 : List UInt8) (bad bad2 : Bool) (n : Int) (R : AV → AHeap → Prop) (_K : AM → Prop) : Obl P 17 (fun v H => R v H) 1 _K [.run 8, (.callh [(0, 0, [])] [0] (.int .u64 n) (rh left2 bad2)), .run 14, .know 14 false, .run 9, .op, .run 10, .op, .run 10, .done] ((startH P 17 [.ptr 0 0 0] (rh left bad))) = ((Goal P 1 15 (fun x k => x = AV.int IntKind.u64 n ∧ k = rh left2 bad2) (startH P 15 [.ptr 0 0 0] (rh left bad))) ∧ (decide (n > IntKind.u64.wrap (↑left2.length : Int)) = false) ∧ ((0 : Int) ≤ n ∧ n ≤ (↑left2.length : Int)) ∧ ((0 : Int) ≤ n ∧ n ≤ (↑left2.length : Int)) ∧ (R (.str (List.take (n.toNat - (0 : Nat)) (List.drop (0 : Nat) left2))) (⟨(.node .leaf (some (.cells (.node (.node .leaf (some (.bool bad2)) .leaf) (some (.str (List.take (left2.length - n.toNat) (List.drop n.toNat left2)))) .leaf) 2 34 0 0 1 0 false .leaf)) .leaf), 1, .leaf⟩))) := by kernel_rfl

theorem lw (v b : Int) (h0 : 0 ≤ v) (h1 : v < 72057594037927936) (h2 : 0 ≤ b) (h3 : b < 256) : IntKind.u64.wrap (IntKind.u64.wrap (256 * v) + IntKind.u64.wrap b) = v * 256 + b := by
  rw [IntWalk.u64_in (256 * v) (by omega), IntWalk.u64_in b (by omega), IntWalk.u64_in _ (by omega)]
  omega

theorem lw0 (b : Int) (h2 : 0 ≤ b) (h3 : b < 256) : IntKind.u64.wrap (Int.ofNat 0 + IntKind.u64.wrap b) = 0 * 256 + b := by
  rw [IntWalk.u64_in b (by omega)]
  show IntKind.u64.wrap (0 + b) = _
  rw [IntWalk.u64_in _ (by omega)]
  omega

/-- The number of bytes. -/
theorem low_ok : ∀ (l : List UInt8), l.length ≤ 8 → Goal P 0 28 (fun x _ => x = .int .u64 (be l)) (startM P 28 [.str l] .leaf)
  | [], _ => by
    refine Obl.goal (K := fun _ => False) mix (fun _ h => h.elim) (cast (low0 _ _).symm ?_)
    rfl
  | [a1], _ => by
    have ha1 := u8_lt a1
    have L1 := lw0 a1.toNat (by omega) (by omega)
    refine Obl.goal (K := fun _ => False) mix (fun _ h => h.elim) (cast (low1 a1 _ _).symm ?_)
    simp only [L1]
    rfl
  | [a1, a2], _ => by
    have ha1 := u8_lt a1
    have ha2 := u8_lt a2
    have L1 := lw0 a1.toNat (by omega) (by omega)
    have L2 := lw (0 * 256 + (a1.toNat : Int)) a2.toNat (by omega) (by omega) (by omega) (by omega)
    refine Obl.goal (K := fun _ => False) mix (fun _ h => h.elim) (cast (low2 a1 a2 _ _).symm ?_)
    simp only [L1, L2]
    rfl
  | [a1, a2, a3], _ => by
    have ha1 := u8_lt a1
    have ha2 := u8_lt a2
    have ha3 := u8_lt a3
    have L1 := lw0 a1.toNat (by omega) (by omega)
    have L2 := lw (0 * 256 + (a1.toNat : Int)) a2.toNat (by omega) (by omega) (by omega) (by omega)
    have L3 := lw ((0 * 256 + (a1.toNat : Int)) * 256 + (a2.toNat : Int)) a3.toNat (by omega) (by omega) (by omega) (by omega)
    refine Obl.goal (K := fun _ => False) mix (fun _ h => h.elim) (cast (low3 a1 a2 a3 _ _).symm ?_)
    simp only [L1, L2, L3]
    rfl
  | [a1, a2, a3, a4], _ => by
    have ha1 := u8_lt a1
    have ha2 := u8_lt a2
    have ha3 := u8_lt a3
    have ha4 := u8_lt a4
    have L1 := lw0 a1.toNat (by omega) (by omega)
    have L2 := lw (0 * 256 + (a1.toNat : Int)) a2.toNat (by omega) (by omega) (by omega) (by omega)
    have L3 := lw ((0 * 256 + (a1.toNat : Int)) * 256 + (a2.toNat : Int)) a3.toNat (by omega) (by omega) (by omega) (by omega)
    have L4 := lw (((0 * 256 + (a1.toNat : Int)) * 256 + (a2.toNat : Int)) * 256 + (a3.toNat : Int)) a4.toNat (by omega) (by omega) (by omega) (by omega)
    refine Obl.goal (K := fun _ => False) mix (fun _ h => h.elim) (cast (low4 a1 a2 a3 a4 _ _).symm ?_)
    simp only [L1, L2, L3, L4]
    rfl
  | [a1, a2, a3, a4, a5], _ => by
    have ha1 := u8_lt a1
    have ha2 := u8_lt a2
    have ha3 := u8_lt a3
    have ha4 := u8_lt a4
    have ha5 := u8_lt a5
    have L1 := lw0 a1.toNat (by omega) (by omega)
    have L2 := lw (0 * 256 + (a1.toNat : Int)) a2.toNat (by omega) (by omega) (by omega) (by omega)
    have L3 := lw ((0 * 256 + (a1.toNat : Int)) * 256 + (a2.toNat : Int)) a3.toNat (by omega) (by omega) (by omega) (by omega)
    have L4 := lw (((0 * 256 + (a1.toNat : Int)) * 256 + (a2.toNat : Int)) * 256 + (a3.toNat : Int)) a4.toNat (by omega) (by omega) (by omega) (by omega)
    have L5 := lw ((((0 * 256 + (a1.toNat : Int)) * 256 + (a2.toNat : Int)) * 256 + (a3.toNat : Int)) * 256 + (a4.toNat : Int)) a5.toNat (by omega) (by omega) (by omega) (by omega)
    refine Obl.goal (K := fun _ => False) mix (fun _ h => h.elim) (cast (low5 a1 a2 a3 a4 a5 _ _).symm ?_)
    simp only [L1, L2, L3, L4, L5]
    rfl
  | [a1, a2, a3, a4, a5, a6], _ => by
    have ha1 := u8_lt a1
    have ha2 := u8_lt a2
    have ha3 := u8_lt a3
    have ha4 := u8_lt a4
    have ha5 := u8_lt a5
    have ha6 := u8_lt a6
    have L1 := lw0 a1.toNat (by omega) (by omega)
    have L2 := lw (0 * 256 + (a1.toNat : Int)) a2.toNat (by omega) (by omega) (by omega) (by omega)
    have L3 := lw ((0 * 256 + (a1.toNat : Int)) * 256 + (a2.toNat : Int)) a3.toNat (by omega) (by omega) (by omega) (by omega)
    have L4 := lw (((0 * 256 + (a1.toNat : Int)) * 256 + (a2.toNat : Int)) * 256 + (a3.toNat : Int)) a4.toNat (by omega) (by omega) (by omega) (by omega)
    have L5 := lw ((((0 * 256 + (a1.toNat : Int)) * 256 + (a2.toNat : Int)) * 256 + (a3.toNat : Int)) * 256 + (a4.toNat : Int)) a5.toNat (by omega) (by omega) (by omega) (by omega)
    have L6 := lw (((((0 * 256 + (a1.toNat : Int)) * 256 + (a2.toNat : Int)) * 256 + (a3.toNat : Int)) * 256 + (a4.toNat : Int)) * 256 + (a5.toNat : Int)) a6.toNat (by omega) (by omega) (by omega) (by omega)
    refine Obl.goal (K := fun _ => False) mix (fun _ h => h.elim) (cast (low6 a1 a2 a3 a4 a5 a6 _ _).symm ?_)
    simp only [L1, L2, L3, L4, L5, L6]
    rfl
  | [a1, a2, a3, a4, a5, a6, a7], _ => by
    have ha1 := u8_lt a1
    have ha2 := u8_lt a2
    have ha3 := u8_lt a3
    have ha4 := u8_lt a4
    have ha5 := u8_lt a5
    have ha6 := u8_lt a6
    have ha7 := u8_lt a7
    have L1 := lw0 a1.toNat (by omega) (by omega)
    have L2 := lw (0 * 256 + (a1.toNat : Int)) a2.toNat (by omega) (by omega) (by omega) (by omega)
    have L3 := lw ((0 * 256 + (a1.toNat : Int)) * 256 + (a2.toNat : Int)) a3.toNat (by omega) (by omega) (by omega) (by omega)
    have L4 := lw (((0 * 256 + (a1.toNat : Int)) * 256 + (a2.toNat : Int)) * 256 + (a3.toNat : Int)) a4.toNat (by omega) (by omega) (by omega) (by omega)
    have L5 := lw ((((0 * 256 + (a1.toNat : Int)) * 256 + (a2.toNat : Int)) * 256 + (a3.toNat : Int)) * 256 + (a4.toNat : Int)) a5.toNat (by omega) (by omega) (by omega) (by omega)
    have L6 := lw (((((0 * 256 + (a1.toNat : Int)) * 256 + (a2.toNat : Int)) * 256 + (a3.toNat : Int)) * 256 + (a4.toNat : Int)) * 256 + (a5.toNat : Int)) a6.toNat (by omega) (by omega) (by omega) (by omega)
    have L7 := lw ((((((0 * 256 + (a1.toNat : Int)) * 256 + (a2.toNat : Int)) * 256 + (a3.toNat : Int)) * 256 + (a4.toNat : Int)) * 256 + (a5.toNat : Int)) * 256 + (a6.toNat : Int)) a7.toNat (by omega) (by omega) (by omega) (by omega)
    refine Obl.goal (K := fun _ => False) mix (fun _ h => h.elim) (cast (low7 a1 a2 a3 a4 a5 a6 a7 _ _).symm ?_)
    simp only [L1, L2, L3, L4, L5, L6, L7]
    rfl
  | [a1, a2, a3, a4, a5, a6, a7, a8], _ => by
    have ha1 := u8_lt a1
    have ha2 := u8_lt a2
    have ha3 := u8_lt a3
    have ha4 := u8_lt a4
    have ha5 := u8_lt a5
    have ha6 := u8_lt a6
    have ha7 := u8_lt a7
    have ha8 := u8_lt a8
    have L1 := lw0 a1.toNat (by omega) (by omega)
    have L2 := lw (0 * 256 + (a1.toNat : Int)) a2.toNat (by omega) (by omega) (by omega) (by omega)
    have L3 := lw ((0 * 256 + (a1.toNat : Int)) * 256 + (a2.toNat : Int)) a3.toNat (by omega) (by omega) (by omega) (by omega)
    have L4 := lw (((0 * 256 + (a1.toNat : Int)) * 256 + (a2.toNat : Int)) * 256 + (a3.toNat : Int)) a4.toNat (by omega) (by omega) (by omega) (by omega)
    have L5 := lw ((((0 * 256 + (a1.toNat : Int)) * 256 + (a2.toNat : Int)) * 256 + (a3.toNat : Int)) * 256 + (a4.toNat : Int)) a5.toNat (by omega) (by omega) (by omega) (by omega)
    have L6 := lw (((((0 * 256 + (a1.toNat : Int)) * 256 + (a2.toNat : Int)) * 256 + (a3.toNat : Int)) * 256 + (a4.toNat : Int)) * 256 + (a5.toNat : Int)) a6.toNat (by omega) (by omega) (by omega) (by omega)
    have L7 := lw ((((((0 * 256 + (a1.toNat : Int)) * 256 + (a2.toNat : Int)) * 256 + (a3.toNat : Int)) * 256 + (a4.toNat : Int)) * 256 + (a5.toNat : Int)) * 256 + (a6.toNat : Int)) a7.toNat (by omega) (by omega) (by omega) (by omega)
    have L8 := lw (((((((0 * 256 + (a1.toNat : Int)) * 256 + (a2.toNat : Int)) * 256 + (a3.toNat : Int)) * 256 + (a4.toNat : Int)) * 256 + (a5.toNat : Int)) * 256 + (a6.toNat : Int)) * 256 + (a7.toNat : Int)) a8.toNat (by omega) (by omega) (by omega) (by omega)
    refine Obl.goal (K := fun _ => False) mix (fun _ h => h.elim) (cast (low8 a1 a2 a3 a4 a5 a6 a7 a8 _ _).symm ?_)
    simp only [L1, L2, L3, L4, L5, L6, L7, L8]
    rfl
  | _ :: _ :: _ :: _ :: _ :: _ :: _ :: _ :: _ :: _, h => by simp at h

theorem drop_all (l : List UInt8) (m : Nat) : List.take (l.length - m) (List.drop m l) = List.drop m l := List.take_of_length_le (by simp)

theorem rputs0 (n : Int) (h0 : 0 ≤ n) (h1 : n ≤ 18446744073709551615) : Goal P 0 9 (fun x _ => x = .str (row n)) (startM P 9 [.str [], .int .u64 n] .leaf) := rputs [] n h0 h1 (by simp)

theorem ne_of {w l : List UInt8} (h : ¬ w = l) : (!w == l) = true := by simp [h]
theorem eq_of {w l : List UInt8} (h : w = l) : (!w == l) = false := by simp [h]

theorem refokA (f : UInt8) (t : List UInt8) (hs : f.toNat ≤ 240) (hlt : tl f.toNat ≤ t.length) (hrow : row (val f.toNat (t.take (tl f.toNat))) = f :: t.take (tl f.toNat)) : Goal P 1 15 (fun v H => v = .int .u64 (val f.toNat (t.take (tl f.toNat))) ∧ H = rh (List.drop (1 + tl f.toNat) (f :: t)) false) (startH P 15 [.ptr 0 0 0] (rh (f :: t) false)) := by
  have hf := u8_lt f
  have hk : tl f.toNat = 0 := by simp only [tl, if_pos hs]
  have hv : ∀ t, val f.toNat t = f.toNat := fun t => by simp only [val, if_pos hs]
  have hwf : IntKind.i64.wrap (f.toNat : Int) = f.toNat := IntWalk.i64_in _ (by omega)
  have hl : (f :: t).length = t.length + 1 := rfl
  have hlen : tl f.toNat ≤ t.length := hlt
  have hlow : Goal P 0 28 (fun x _ => x = .int .u64 (be (t.take (tl f.toNat)))) (startM P 28 [.str (t.take (tl f.toNat))] .leaf) := low_ok _ (by have := tl_le f; rw [List.length_take]; omega)
  obtain ⟨v0, v1⟩ := val_bound f (t.take (tl f.toNat)) (by rw [List.length_take]; omega)
  have hput := rputs0 _ v0 v1
  have e1 : IntKind.u64.wrap (f.toNat : Int) = val f.toNat (t.take (tl f.toNat)) := by rw [hv]; exact IntWalk.u64_in _ (by omega)
  have htk : List.take (1 + tl f.toNat) (List.drop 0 (f :: t)) = f :: t.take (tl f.toNat) := by rw [List.drop_zero, Nat.add_comm, List.take_succ_cons]
  have hne : (!(row (val f.toNat (t.take (tl f.toNat)))) == List.take (1 + tl f.toNat) (List.drop 0 (f :: t))) = false := eq_of (hrow.trans htk.symm)
  refine Obl.goal (K := fun _ => False) mix (fun _ h => h.elim) (cast (refNnnnyn f t (row (val f.toNat (t.take (tl f.toNat)))) (be (t.take (tl f.toNat))) _ _).symm ?_)
  simp only [hwf, e1, drop_all]
  simp only [hl]
  simp only [hk] at hlow hput hne ⊢
  and_intros
  all_goals first | exact hlow | (rw [← e1]; exact hput) | exact congrArg (AV.int IntKind.u64) e1.symm | exact hput | exact hne | exact decide_eq_false (by omega) | exact decide_eq_true (by omega) | exact beq_eq_false_iff_ne.2 (by omega) | exact beq_iff_eq.2 (by omega) | omega | (show (1 : Int) ≤ _; omega) | (show (2 : Int) ≤ _; omega) | (show (3 : Int) ≤ _; omega) | exact decide_eq_false (by show ¬ _ < (2 : Int); omega) | exact decide_eq_false (by show ¬ _ < (3 : Int); omega) | trivial | rfl

theorem refbadA (f : UInt8) (t : List UInt8) (hs : f.toNat ≤ 240) (hlt : tl f.toNat ≤ t.length) (hrow : ¬ row (val f.toNat (t.take (tl f.toNat))) = f :: t.take (tl f.toNat)) : Goal P 1 15 (fun v H => v = .int .u64 0 ∧ H = rh [] true) (startH P 15 [.ptr 0 0 0] (rh (f :: t) false)) := by
  have hf := u8_lt f
  have hk : tl f.toNat = 0 := by simp only [tl, if_pos hs]
  have hv : ∀ t, val f.toNat t = f.toNat := fun t => by simp only [val, if_pos hs]
  have hwf : IntKind.i64.wrap (f.toNat : Int) = f.toNat := IntWalk.i64_in _ (by omega)
  have hl : (f :: t).length = t.length + 1 := rfl
  have hlen : tl f.toNat ≤ t.length := hlt
  have hlow : Goal P 0 28 (fun x _ => x = .int .u64 (be (t.take (tl f.toNat)))) (startM P 28 [.str (t.take (tl f.toNat))] .leaf) := low_ok _ (by have := tl_le f; rw [List.length_take]; omega)
  obtain ⟨v0, v1⟩ := val_bound f (t.take (tl f.toNat)) (by rw [List.length_take]; omega)
  have hput := rputs0 _ v0 v1
  have e1 : IntKind.u64.wrap (f.toNat : Int) = val f.toNat (t.take (tl f.toNat)) := by rw [hv]; exact IntWalk.u64_in _ (by omega)
  have htk : List.take (1 + tl f.toNat) (List.drop 0 (f :: t)) = f :: t.take (tl f.toNat) := by rw [List.drop_zero, Nat.add_comm, List.take_succ_cons]
  have hne : (!(row (val f.toNat (t.take (tl f.toNat)))) == List.take (1 + tl f.toNat) (List.drop 0 (f :: t))) = true := ne_of (fun h => hrow (h.trans htk))
  refine Obl.goal (K := fun _ => False) mix (fun _ h => h.elim) (cast (refNnnnyy f t (row (val f.toNat (t.take (tl f.toNat)))) (be (t.take (tl f.toNat))) _ _).symm ?_)
  simp only [hwf, e1, drop_all]
  simp only [hl]
  simp only [hk] at hlow hput hne ⊢
  and_intros
  all_goals first | exact hlow | (rw [← e1]; exact hput) | exact congrArg (AV.int IntKind.u64) e1.symm | exact hput | exact hne | exact decide_eq_false (by omega) | exact decide_eq_true (by omega) | exact beq_eq_false_iff_ne.2 (by omega) | exact beq_iff_eq.2 (by omega) | omega | (show (1 : Int) ≤ _; omega) | (show (2 : Int) ≤ _; omega) | (show (3 : Int) ≤ _; omega) | exact decide_eq_false (by show ¬ _ < (2 : Int); omega) | exact decide_eq_false (by show ¬ _ < (3 : Int); omega) | trivial | rfl

theorem refokB (f : UInt8) (t : List UInt8) (hs : 241 ≤ f.toNat ∧ f.toNat < 249) (hlt : tl f.toNat ≤ t.length) (hrow : row (val f.toNat (t.take (tl f.toNat))) = f :: t.take (tl f.toNat)) : Goal P 1 15 (fun v H => v = .int .u64 (val f.toNat (t.take (tl f.toNat))) ∧ H = rh (List.drop (1 + tl f.toNat) (f :: t)) false) (startH P 15 [.ptr 0 0 0] (rh (f :: t) false)) := by
  have hf := u8_lt f
  have n1 : ¬ f.toNat ≤ 240 := by omega
  have hk : tl f.toNat = 1 := by simp only [tl, if_neg n1, if_pos hs.2]
  have hwf : IntKind.i64.wrap (f.toNat : Int) = f.toNat := IntWalk.i64_in _ (by omega)
  have hl : (f :: t).length = t.length + 1 := rfl
  have hlen : tl f.toNat ≤ t.length := hlt
  have hlow : Goal P 0 28 (fun x _ => x = .int .u64 (be (t.take (tl f.toNat)))) (startM P 28 [.str (t.take (tl f.toNat))] .leaf) := low_ok _ (by have := tl_le f; rw [List.length_take]; omega)
  obtain ⟨v0, v1⟩ := val_bound f (t.take (tl f.toNat)) (by rw [List.length_take]; omega)
  have hput := rputs0 _ v0 v1
  have e0 : IntKind.i64.wrap ((f.toNat : Int) - 241) = (f.toNat : Int) - 241 := IntWalk.i64_in _ (by omega)
  have e1 : IntKind.u64.wrap (IntKind.u64.wrap (be (t.take (tl f.toNat)) + 240) + IntKind.u64.wrap (256 * IntKind.u64.wrap ((f.toNat : Int) - 241))) = val f.toNat (t.take (tl f.toNat)) := by
    have hb : 0 ≤ be (t.take (tl f.toNat)) ∧ be (t.take (tl f.toNat)) < 256 := by
      have := be_bound (t.take (tl f.toNat)) 0 (by omega)
      rw [show (t.take (tl f.toNat)).length = 1 by rw [List.length_take, hk]; omega] at this
      simpa [be] using this
    rw [IntWalk.u64_in ((f.toNat : Int) - 241) (by omega), IntWalk.u64_in (256 * ((f.toNat : Int) - 241)) (by omega), IntWalk.u64_in (be (t.take (tl f.toNat)) + 240) (by omega), IntWalk.u64_in _ (by omega)]
    simp only [val, if_neg n1, if_pos hs.2]
  have htk : List.take (1 + tl f.toNat) (List.drop 0 (f :: t)) = f :: t.take (tl f.toNat) := by rw [List.drop_zero, Nat.add_comm, List.take_succ_cons]
  have hne : (!(row (val f.toNat (t.take (tl f.toNat)))) == List.take (1 + tl f.toNat) (List.drop 0 (f :: t))) = false := eq_of (hrow.trans htk.symm)
  refine Obl.goal (K := fun _ => False) mix (fun _ h => h.elim) (cast (refNnnynnyn f t (row (val f.toNat (t.take (tl f.toNat)))) (be (t.take (tl f.toNat))) _ _).symm ?_)
  simp only [hwf, e0, e1, drop_all]
  simp only [hl]
  simp only [hk] at hlow hput hne ⊢
  and_intros
  all_goals first | exact hlow | (rw [← e1]; exact hput) | exact congrArg (AV.int IntKind.u64) e1.symm | exact hput | exact hne | exact decide_eq_false (by omega) | exact decide_eq_true (by omega) | exact beq_eq_false_iff_ne.2 (by omega) | exact beq_iff_eq.2 (by omega) | omega | (show (1 : Int) ≤ _; omega) | (show (2 : Int) ≤ _; omega) | (show (3 : Int) ≤ _; omega) | exact decide_eq_false (by show ¬ _ < (2 : Int); omega) | exact decide_eq_false (by show ¬ _ < (3 : Int); omega) | trivial | rfl

theorem refbadB (f : UInt8) (t : List UInt8) (hs : 241 ≤ f.toNat ∧ f.toNat < 249) (hlt : tl f.toNat ≤ t.length) (hrow : ¬ row (val f.toNat (t.take (tl f.toNat))) = f :: t.take (tl f.toNat)) : Goal P 1 15 (fun v H => v = .int .u64 0 ∧ H = rh [] true) (startH P 15 [.ptr 0 0 0] (rh (f :: t) false)) := by
  have hf := u8_lt f
  have n1 : ¬ f.toNat ≤ 240 := by omega
  have hk : tl f.toNat = 1 := by simp only [tl, if_neg n1, if_pos hs.2]
  have hwf : IntKind.i64.wrap (f.toNat : Int) = f.toNat := IntWalk.i64_in _ (by omega)
  have hl : (f :: t).length = t.length + 1 := rfl
  have hlen : tl f.toNat ≤ t.length := hlt
  have hlow : Goal P 0 28 (fun x _ => x = .int .u64 (be (t.take (tl f.toNat)))) (startM P 28 [.str (t.take (tl f.toNat))] .leaf) := low_ok _ (by have := tl_le f; rw [List.length_take]; omega)
  obtain ⟨v0, v1⟩ := val_bound f (t.take (tl f.toNat)) (by rw [List.length_take]; omega)
  have hput := rputs0 _ v0 v1
  have e0 : IntKind.i64.wrap ((f.toNat : Int) - 241) = (f.toNat : Int) - 241 := IntWalk.i64_in _ (by omega)
  have e1 : IntKind.u64.wrap (IntKind.u64.wrap (be (t.take (tl f.toNat)) + 240) + IntKind.u64.wrap (256 * IntKind.u64.wrap ((f.toNat : Int) - 241))) = val f.toNat (t.take (tl f.toNat)) := by
    have hb : 0 ≤ be (t.take (tl f.toNat)) ∧ be (t.take (tl f.toNat)) < 256 := by
      have := be_bound (t.take (tl f.toNat)) 0 (by omega)
      rw [show (t.take (tl f.toNat)).length = 1 by rw [List.length_take, hk]; omega] at this
      simpa [be] using this
    rw [IntWalk.u64_in ((f.toNat : Int) - 241) (by omega), IntWalk.u64_in (256 * ((f.toNat : Int) - 241)) (by omega), IntWalk.u64_in (be (t.take (tl f.toNat)) + 240) (by omega), IntWalk.u64_in _ (by omega)]
    simp only [val, if_neg n1, if_pos hs.2]
  have htk : List.take (1 + tl f.toNat) (List.drop 0 (f :: t)) = f :: t.take (tl f.toNat) := by rw [List.drop_zero, Nat.add_comm, List.take_succ_cons]
  have hne : (!(row (val f.toNat (t.take (tl f.toNat)))) == List.take (1 + tl f.toNat) (List.drop 0 (f :: t))) = true := ne_of (fun h => hrow (h.trans htk))
  refine Obl.goal (K := fun _ => False) mix (fun _ h => h.elim) (cast (refNnnynnyy f t (row (val f.toNat (t.take (tl f.toNat)))) (be (t.take (tl f.toNat))) _ _).symm ?_)
  simp only [hwf, e0, e1, drop_all]
  simp only [hl]
  simp only [hk] at hlow hput hne ⊢
  and_intros
  all_goals first | exact hlow | (rw [← e1]; exact hput) | exact congrArg (AV.int IntKind.u64) e1.symm | exact hput | exact hne | exact decide_eq_false (by omega) | exact decide_eq_true (by omega) | exact beq_eq_false_iff_ne.2 (by omega) | exact beq_iff_eq.2 (by omega) | omega | (show (1 : Int) ≤ _; omega) | (show (2 : Int) ≤ _; omega) | (show (3 : Int) ≤ _; omega) | exact decide_eq_false (by show ¬ _ < (2 : Int); omega) | exact decide_eq_false (by show ¬ _ < (3 : Int); omega) | trivial | rfl

theorem refshortB (f : UInt8) (t : List UInt8) (hs : 241 ≤ f.toNat ∧ f.toNat < 249) (hlt : ¬ tl f.toNat ≤ t.length) : Goal P 1 15 (fun v H => v = .int .u64 0 ∧ H = rh [] true) (startH P 15 [.ptr 0 0 0] (rh (f :: t) false)) := by
  have hf := u8_lt f
  have n1 : ¬ f.toNat ≤ 240 := by omega
  have hk : tl f.toNat = 1 := by simp only [tl, if_neg n1, if_pos hs.2]
  have hwf : IntKind.i64.wrap (f.toNat : Int) = f.toNat := IntWalk.i64_in _ (by omega)
  have hl : (f :: t).length = t.length + 1 := rfl
  refine Obl.goal (K := fun _ => False) mix (fun _ h => h.elim) (cast (refNnnyy f t [] 0 _ _).symm ?_)
  simp only [hwf, hl]
  and_intros
  all_goals first | exact decide_eq_false (by omega) | exact decide_eq_true (by omega) | exact beq_eq_false_iff_ne.2 (by omega) | exact beq_iff_eq.2 (by omega) | (exact decide_eq_true (by show _ < (2 : Int); omega)) | trivial | rfl

theorem refokC (f : UInt8) (t : List UInt8) (hs : f.toNat = 249) (hlt : tl f.toNat ≤ t.length) (hrow : row (val f.toNat (t.take (tl f.toNat))) = f :: t.take (tl f.toNat)) : Goal P 1 15 (fun v H => v = .int .u64 (val f.toNat (t.take (tl f.toNat))) ∧ H = rh (List.drop (1 + tl f.toNat) (f :: t)) false) (startH P 15 [.ptr 0 0 0] (rh (f :: t) false)) := by
  have hf := u8_lt f
  have hk : tl f.toNat = 2 := by rw [hs]; rfl
  have hwf : IntKind.i64.wrap (f.toNat : Int) = f.toNat := IntWalk.i64_in _ (by omega)
  have hl : (f :: t).length = t.length + 1 := rfl
  have hlen : tl f.toNat ≤ t.length := hlt
  have hlow : Goal P 0 28 (fun x _ => x = .int .u64 (be (t.take (tl f.toNat)))) (startM P 28 [.str (t.take (tl f.toNat))] .leaf) := low_ok _ (by have := tl_le f; rw [List.length_take]; omega)
  obtain ⟨v0, v1⟩ := val_bound f (t.take (tl f.toNat)) (by rw [List.length_take]; omega)
  have hput := rputs0 _ v0 v1
  have e1 : IntKind.u64.wrap (be (t.take (tl f.toNat)) + 2288) = val f.toNat (t.take (tl f.toNat)) := by
    have hb : 0 ≤ be (t.take (tl f.toNat)) ∧ be (t.take (tl f.toNat)) < 65536 := by
      have := be_bound (t.take (tl f.toNat)) 0 (by omega)
      rw [show (t.take (tl f.toNat)).length = 2 by rw [List.length_take, hk]; omega] at this
      simpa [be] using this
    rw [IntWalk.u64_in _ (by omega)]
    simp [val, hs]
  have htk : List.take (1 + tl f.toNat) (List.drop 0 (f :: t)) = f :: t.take (tl f.toNat) := by rw [List.drop_zero, Nat.add_comm, List.take_succ_cons]
  have hne : (!(row (val f.toNat (t.take (tl f.toNat)))) == List.take (1 + tl f.toNat) (List.drop 0 (f :: t))) = false := eq_of (hrow.trans htk.symm)
  refine Obl.goal (K := fun _ => False) mix (fun _ h => h.elim) (cast (refNnynnnn f t (row (val f.toNat (t.take (tl f.toNat)))) (be (t.take (tl f.toNat))) _ _).symm ?_)
  simp only [hwf, e1, drop_all]
  simp only [hl]
  simp only [hk] at hlow hput hne ⊢
  and_intros
  all_goals first | exact hlow | (rw [← e1]; exact hput) | exact congrArg (AV.int IntKind.u64) e1.symm | exact hput | exact hne | exact decide_eq_false (by omega) | exact decide_eq_true (by omega) | exact beq_eq_false_iff_ne.2 (by omega) | exact beq_iff_eq.2 (by omega) | omega | (show (1 : Int) ≤ _; omega) | (show (2 : Int) ≤ _; omega) | (show (3 : Int) ≤ _; omega) | exact decide_eq_false (by show ¬ _ < (2 : Int); omega) | exact decide_eq_false (by show ¬ _ < (3 : Int); omega) | trivial | rfl

theorem refbadC (f : UInt8) (t : List UInt8) (hs : f.toNat = 249) (hlt : tl f.toNat ≤ t.length) (hrow : ¬ row (val f.toNat (t.take (tl f.toNat))) = f :: t.take (tl f.toNat)) : Goal P 1 15 (fun v H => v = .int .u64 0 ∧ H = rh [] true) (startH P 15 [.ptr 0 0 0] (rh (f :: t) false)) := by
  have hf := u8_lt f
  have hk : tl f.toNat = 2 := by rw [hs]; rfl
  have hwf : IntKind.i64.wrap (f.toNat : Int) = f.toNat := IntWalk.i64_in _ (by omega)
  have hl : (f :: t).length = t.length + 1 := rfl
  have hlen : tl f.toNat ≤ t.length := hlt
  have hlow : Goal P 0 28 (fun x _ => x = .int .u64 (be (t.take (tl f.toNat)))) (startM P 28 [.str (t.take (tl f.toNat))] .leaf) := low_ok _ (by have := tl_le f; rw [List.length_take]; omega)
  obtain ⟨v0, v1⟩ := val_bound f (t.take (tl f.toNat)) (by rw [List.length_take]; omega)
  have hput := rputs0 _ v0 v1
  have e1 : IntKind.u64.wrap (be (t.take (tl f.toNat)) + 2288) = val f.toNat (t.take (tl f.toNat)) := by
    have hb : 0 ≤ be (t.take (tl f.toNat)) ∧ be (t.take (tl f.toNat)) < 65536 := by
      have := be_bound (t.take (tl f.toNat)) 0 (by omega)
      rw [show (t.take (tl f.toNat)).length = 2 by rw [List.length_take, hk]; omega] at this
      simpa [be] using this
    rw [IntWalk.u64_in _ (by omega)]
    simp [val, hs]
  have htk : List.take (1 + tl f.toNat) (List.drop 0 (f :: t)) = f :: t.take (tl f.toNat) := by rw [List.drop_zero, Nat.add_comm, List.take_succ_cons]
  have hne : (!(row (val f.toNat (t.take (tl f.toNat)))) == List.take (1 + tl f.toNat) (List.drop 0 (f :: t))) = true := ne_of (fun h => hrow (h.trans htk))
  refine Obl.goal (K := fun _ => False) mix (fun _ h => h.elim) (cast (refNnynnny f t (row (val f.toNat (t.take (tl f.toNat)))) (be (t.take (tl f.toNat))) _ _).symm ?_)
  simp only [hwf, e1, drop_all]
  simp only [hl]
  simp only [hk] at hlow hput hne ⊢
  and_intros
  all_goals first | exact hlow | (rw [← e1]; exact hput) | exact congrArg (AV.int IntKind.u64) e1.symm | exact hput | exact hne | exact decide_eq_false (by omega) | exact decide_eq_true (by omega) | exact beq_eq_false_iff_ne.2 (by omega) | exact beq_iff_eq.2 (by omega) | omega | (show (1 : Int) ≤ _; omega) | (show (2 : Int) ≤ _; omega) | (show (3 : Int) ≤ _; omega) | exact decide_eq_false (by show ¬ _ < (2 : Int); omega) | exact decide_eq_false (by show ¬ _ < (3 : Int); omega) | trivial | rfl

theorem refshortC (f : UInt8) (t : List UInt8) (hs : f.toNat = 249) (hlt : ¬ tl f.toNat ≤ t.length) : Goal P 1 15 (fun v H => v = .int .u64 0 ∧ H = rh [] true) (startH P 15 [.ptr 0 0 0] (rh (f :: t) false)) := by
  have hf := u8_lt f
  have hk : tl f.toNat = 2 := by rw [hs]; rfl
  have hwf : IntKind.i64.wrap (f.toNat : Int) = f.toNat := IntWalk.i64_in _ (by omega)
  have hl : (f :: t).length = t.length + 1 := rfl
  refine Obl.goal (K := fun _ => False) mix (fun _ h => h.elim) (cast (refNnyy f t [] 0 _ _).symm ?_)
  simp only [hwf, hl]
  and_intros
  all_goals first | exact decide_eq_false (by omega) | exact decide_eq_true (by omega) | exact beq_eq_false_iff_ne.2 (by omega) | exact beq_iff_eq.2 (by omega) | (exact decide_eq_true (by show _ < (3 : Int); omega)) | trivial | rfl

theorem refokD (f : UInt8) (t : List UInt8) (hs : 250 ≤ f.toNat) (hlt : tl f.toNat ≤ t.length) (hrow : row (val f.toNat (t.take (tl f.toNat))) = f :: t.take (tl f.toNat)) : Goal P 1 15 (fun v H => v = .int .u64 (val f.toNat (t.take (tl f.toNat))) ∧ H = rh (List.drop (1 + tl f.toNat) (f :: t)) false) (startH P 15 [.ptr 0 0 0] (rh (f :: t) false)) := by
  have hf := u8_lt f
  have hk : tl f.toNat = f.toNat - 247 := by
    unfold tl
    rw [if_neg (by omega), if_neg (by omega), if_neg (by omega)]
  have e2 : IntKind.i64.wrap ((f.toNat : Int) - 247) = (f.toNat : Int) - 247 := IntWalk.i64_in _ (by omega)
  have e3 : IntKind.i64.wrap ((1 : Int) + ((f.toNat : Int) - 247)) = ((1 + tl f.toNat : Nat) : Int) := by rw [IntWalk.i64_in _ (by omega), hk]; omega
  have hwf : IntKind.i64.wrap (f.toNat : Int) = f.toNat := IntWalk.i64_in _ (by omega)
  have hl : (f :: t).length = t.length + 1 := rfl
  have hlen : tl f.toNat ≤ t.length := hlt
  have hlow : Goal P 0 28 (fun x _ => x = .int .u64 (be (t.take (tl f.toNat)))) (startM P 28 [.str (t.take (tl f.toNat))] .leaf) := low_ok _ (by have := tl_le f; rw [List.length_take]; omega)
  obtain ⟨v0, v1⟩ := val_bound f (t.take (tl f.toNat)) (by rw [List.length_take]; omega)
  have hput := rputs0 _ v0 v1
  have e1 : val f.toNat (t.take (tl f.toNat)) = be (t.take (tl f.toNat)) := by
    unfold val
    rw [if_neg (by omega), if_neg (by omega), if_neg (by omega)]
  have htk : List.take (1 + tl f.toNat) (List.drop 0 (f :: t)) = f :: t.take (tl f.toNat) := by rw [List.drop_zero, Nat.add_comm, List.take_succ_cons]
  have hne : (!(row (val f.toNat (t.take (tl f.toNat)))) == List.take (1 + tl f.toNat) (List.drop 0 (f :: t))) = false := eq_of (hrow.trans htk.symm)
  refine Obl.goal (K := fun _ => False) mix (fun _ h => h.elim) (cast (refNynnnnn f t (row (val f.toNat (t.take (tl f.toNat)))) (be (t.take (tl f.toNat))) _ _).symm ?_)
  simp only [hwf, e2, e3, Int.toNat_natCast, Nat.add_sub_cancel_left, drop_all]
  simp only [hl]
  and_intros
  all_goals first | exact hlow | (rw [← e1]; exact hput) | exact congrArg (AV.int IntKind.u64) e1.symm | exact hput | exact hne | exact decide_eq_false (by omega) | exact decide_eq_true (by omega) | exact beq_eq_false_iff_ne.2 (by omega) | exact beq_iff_eq.2 (by omega) | omega | (show (1 : Int) ≤ _; omega) | (show (2 : Int) ≤ _; omega) | (show (3 : Int) ≤ _; omega) | exact decide_eq_false (by show ¬ _ < (2 : Int); omega) | exact decide_eq_false (by show ¬ _ < (3 : Int); omega) | trivial | rfl

theorem refbadD (f : UInt8) (t : List UInt8) (hs : 250 ≤ f.toNat) (hlt : tl f.toNat ≤ t.length) (hrow : ¬ row (val f.toNat (t.take (tl f.toNat))) = f :: t.take (tl f.toNat)) : Goal P 1 15 (fun v H => v = .int .u64 0 ∧ H = rh [] true) (startH P 15 [.ptr 0 0 0] (rh (f :: t) false)) := by
  have hf := u8_lt f
  have hk : tl f.toNat = f.toNat - 247 := by
    unfold tl
    rw [if_neg (by omega), if_neg (by omega), if_neg (by omega)]
  have e2 : IntKind.i64.wrap ((f.toNat : Int) - 247) = (f.toNat : Int) - 247 := IntWalk.i64_in _ (by omega)
  have e3 : IntKind.i64.wrap ((1 : Int) + ((f.toNat : Int) - 247)) = ((1 + tl f.toNat : Nat) : Int) := by rw [IntWalk.i64_in _ (by omega), hk]; omega
  have hwf : IntKind.i64.wrap (f.toNat : Int) = f.toNat := IntWalk.i64_in _ (by omega)
  have hl : (f :: t).length = t.length + 1 := rfl
  have hlen : tl f.toNat ≤ t.length := hlt
  have hlow : Goal P 0 28 (fun x _ => x = .int .u64 (be (t.take (tl f.toNat)))) (startM P 28 [.str (t.take (tl f.toNat))] .leaf) := low_ok _ (by have := tl_le f; rw [List.length_take]; omega)
  obtain ⟨v0, v1⟩ := val_bound f (t.take (tl f.toNat)) (by rw [List.length_take]; omega)
  have hput := rputs0 _ v0 v1
  have e1 : val f.toNat (t.take (tl f.toNat)) = be (t.take (tl f.toNat)) := by
    unfold val
    rw [if_neg (by omega), if_neg (by omega), if_neg (by omega)]
  have htk : List.take (1 + tl f.toNat) (List.drop 0 (f :: t)) = f :: t.take (tl f.toNat) := by rw [List.drop_zero, Nat.add_comm, List.take_succ_cons]
  have hne : (!(row (val f.toNat (t.take (tl f.toNat)))) == List.take (1 + tl f.toNat) (List.drop 0 (f :: t))) = true := ne_of (fun h => hrow (h.trans htk))
  refine Obl.goal (K := fun _ => False) mix (fun _ h => h.elim) (cast (refNynnnny f t (row (val f.toNat (t.take (tl f.toNat)))) (be (t.take (tl f.toNat))) _ _).symm ?_)
  simp only [hwf, e2, e3, Int.toNat_natCast, Nat.add_sub_cancel_left, drop_all]
  simp only [hl]
  and_intros
  all_goals first | exact hlow | (rw [← e1]; exact hput) | exact congrArg (AV.int IntKind.u64) e1.symm | exact hput | exact hne | exact decide_eq_false (by omega) | exact decide_eq_true (by omega) | exact beq_eq_false_iff_ne.2 (by omega) | exact beq_iff_eq.2 (by omega) | omega | (show (1 : Int) ≤ _; omega) | (show (2 : Int) ≤ _; omega) | (show (3 : Int) ≤ _; omega) | exact decide_eq_false (by show ¬ _ < (2 : Int); omega) | exact decide_eq_false (by show ¬ _ < (3 : Int); omega) | trivial | rfl

theorem refshortD (f : UInt8) (t : List UInt8) (hs : 250 ≤ f.toNat) (hlt : ¬ tl f.toNat ≤ t.length) : Goal P 1 15 (fun v H => v = .int .u64 0 ∧ H = rh [] true) (startH P 15 [.ptr 0 0 0] (rh (f :: t) false)) := by
  have hf := u8_lt f
  have hk : tl f.toNat = f.toNat - 247 := by
    unfold tl
    rw [if_neg (by omega), if_neg (by omega), if_neg (by omega)]
  have e2 : IntKind.i64.wrap ((f.toNat : Int) - 247) = (f.toNat : Int) - 247 := IntWalk.i64_in _ (by omega)
  have e3 : IntKind.i64.wrap ((1 : Int) + ((f.toNat : Int) - 247)) = ((1 + tl f.toNat : Nat) : Int) := by rw [IntWalk.i64_in _ (by omega), hk]; omega
  have hwf : IntKind.i64.wrap (f.toNat : Int) = f.toNat := IntWalk.i64_in _ (by omega)
  have hl : (f :: t).length = t.length + 1 := rfl
  refine Obl.goal (K := fun _ => False) mix (fun _ h => h.elim) (cast (refNyy f t [] 0 _ _).symm ?_)
  simp only [hwf, e2, e3, hl]
  and_intros
  all_goals first | exact decide_eq_false (by omega) | exact decide_eq_true (by omega) | exact beq_eq_false_iff_ne.2 (by omega) | exact beq_iff_eq.2 (by omega) | (exact decide_eq_true (by show _ < (2 : Int); omega)) | trivial | rfl

/-- A number is ahead. -/
theorem ref_ok (left : List UInt8) {n : Int} {k : Nat} (hp : parse left = some (n, k)) : Goal P 1 15 (fun v H => v = .int .u64 n ∧ H = rh (left.drop k) false) (startH P 15 [.ptr 0 0 0] (rh left false)) := by
  cases left with
  | nil => cases hp
  | cons f t =>
    rw [parse_cons] at hp
    split at hp
    rotate_left
    · cases hp
    rename_i hc
    cases hp
    have hf := u8_lt f
    rcases sorts_of f with hs | hs | hs | hs | hs | hs | hs | hs | hs
    · exact refokA f t hs hc.1 hc.2
    · exact refokB f t hs hc.1 hc.2
    · exact refokC f t hs hc.1 hc.2
    all_goals exact refokD f t (by omega) hc.1 hc.2

/-- None is. -/
theorem ref_bad (left : List UInt8) (hp : parse left = none) : Goal P 1 15 (fun v H => v = .int .u64 0 ∧ H = rh [] true) (startH P 15 [.ptr 0 0 0] (rh left false)) := by
  cases left with
  | nil => exact Obl.goal (K := fun _ => False) mix (fun _ h => h.elim) (cast (refE false _ _).symm ⟨rfl, rfl⟩)
  | cons f t =>
    rw [parse_cons] at hp
    split at hp
    · cases hp
    rename_i hc
    have hf := u8_lt f
    by_cases hlt : tl f.toNat ≤ t.length
    · have hrow : ¬ row (val f.toNat (t.take (tl f.toNat))) = f :: t.take (tl f.toNat) := fun h => hc ⟨hlt, h⟩
      rcases sorts_of f with hs | hs | hs | hs | hs | hs | hs | hs | hs
      · exact refbadA f t hs hlt hrow
      · exact refbadB f t hs hlt hrow
      · exact refbadC f t hs hlt hrow
      all_goals exact refbadD f t (by omega) hlt hrow
    · rcases sorts_of f with hs | hs | hs | hs | hs | hs | hs | hs | hs
      · exact absurd (by rw [show tl f.toNat = 0 by simp only [tl, if_pos hs]]; omega) hlt
      · exact refshortB f t hs hlt
      · exact refshortC f t hs hlt
      all_goals exact refshortD f t (by omega) hlt

/-- A text is ahead. -/
theorem reft_ok (left : List UInt8) (hbig : left.length ≤ 100000) {n : Int} {k : Nat} (hp : parse left = some (n, k)) (hn : n ≤ (left.length - k : Nat)) :
    Goal P 1 17 (fun v H => v = .str ((left.drop k).take n.toNat) ∧ H = rh (left.drop (k + n.toNat)) false) (startH P 17 [.ptr 0 0 0] (rh left false)) := by
  obtain ⟨n0, n1, _, n3, _⟩ := parse_some hp
  have hl : (left.drop k).length = left.length - k := by simp
  have w1 : IntKind.u64.wrap (((left.drop k).length : Nat) : Int) = (left.length - k : Nat) := by rw [hl]; exact IntWalk.u64_in _ (by omega)
  refine Obl.goal (K := fun _ => False) mix (fun _ h => h.elim) (cast (rtextn left (left.drop k) false false n _ _).symm ⟨ref_ok left hp, gtf (by rw [w1]; exact hn), by rw [hl]; omega, by rw [hl]; omega, ?_, ?_⟩)
  · rw [Nat.sub_zero, List.drop_zero]
  · rw [drop_all, List.drop_drop]; rfl

/-- None is. -/
theorem reft_bad (left : List UInt8) (hbig : left.length ≤ 100000) (hp : parse left = none ∨ ∃ n k, parse left = some (n, k) ∧ ((left.length - k : Nat) : Int) < n) :
    Goal P 1 17 (fun v H => v = .str [] ∧ H = rh [] true) (startH P 17 [.ptr 0 0 0] (rh left false)) := by
  rcases hp with hp | ⟨n, k, hp, hn⟩
  · exact Obl.goal (K := fun _ => False) mix (fun _ h => h.elim) (cast (rtextn left [] false true 0 _ _).symm ⟨ref_bad left hp, by decide, by decide, by decide, rfl, rfl⟩)
  · have hl : (left.drop k).length = left.length - k := by simp
    have w1 : IntKind.u64.wrap (((left.drop k).length : Nat) : Int) = (left.length - k : Nat) := by rw [hl]; exact IntWalk.u64_in _ (by omega)
    exact Obl.goal (K := fun _ => False) mix (fun _ h => h.elim) (cast (rtexty left (left.drop k) false false n _ _).symm ⟨ref_ok left hp, gtt (by rw [w1]; exact hn), rfl, rfl⟩)

end Go.Proofs.Ytmnelckaighmkaa.wireR
