/- Two stores with which the same is done. -/
import Derived.Test.YtcdpmiebmhjmpaaLg
set_option maxRecDepth 100000
set_option linter.unusedVariables false
namespace Go.Proofs.Ytcdpmiebmhjmpaa.lr
open Go Ev

noncomputable def LM (off len cap : Nat) (n i : Int) (O : T AObj) (N : Nat) (G : T (T AV)) : AM := ⟨⟨5, 94, (.node (.node (.node (.node .leaf (some (.int .i64 n)) .leaf) none (.node .leaf (some (.int .i64 i)) .leaf)) none (.node (.node .leaf (some (.ptr 2 0 0)) .leaf) none .leaf)) none (.node .leaf (some (.slc 0 0 off len cap)) (.node (.node .leaf (some (.ptr 4 0 0)) .leaf) none .leaf))),
   [.code (cd P 5 [1, 1, 1, 1, 1, 0, 1, 0, 0]), .inLoop (cd P 5 [1, 1, 1, 1, 1, 0, 1, 0, 0]), .inBlock 0, .code (cd P 5 [1, 1, 1, 1, 1, 1])], [], .run, CallKind.normal, none⟩,
  [],
  ⟨O, N, G⟩⟩
noncomputable def C1 (off : Nat) (len : Nat) (cap : Nat) (n : Int) (i : Int) (k : Int) (v : Int) : AFrame := ⟨5, 94, (.node (.node (.node (.node (.node .leaf none (.node .leaf (some (.int .i64 k)) .leaf)) (some (.int .i64 n)) (.node (.node .leaf (some (.bool true)) .leaf) none .leaf)) none (.node (.node (.node .leaf (some (.bool (decide (i < (↑len : Int))))) .leaf) none (.node .leaf (some (.ptr 0 0 (off + i.toNat * 3 + 2))) .leaf)) (some (.int .i64 i)) (.node (.node .leaf (some (.slc 0 0 off len cap)) .leaf) none .leaf))) none (.node (.node (.node (.node .leaf (some (.slc 0 0 off len cap)) .leaf) none (.node .leaf (some (.int .i64 i)) .leaf)) (some (.ptr 2 0 0)) .leaf) none (.node (.node (.node .leaf (some (.int .i64 i)) .leaf) none .leaf) none (.node (.node .leaf (some (.ptr 0 0 (off + i.toNat * 3))) .leaf) none .leaf)))) none (.node (.node (.node (.node (.node .leaf (some (.int .i64 i)) .leaf) none (.node .leaf (some (.slc 0 0 off len cap)) .leaf)) none .leaf) none (.node (.node (.node .leaf (some (.bool true)) .leaf) none (.node .leaf (some (.int .i64 v)) .leaf)) none (.node (.node .leaf (some (.int .i64 i)) .leaf) none .leaf))) (some (.slc 0 0 off len cap)) (.node (.node (.node (.node .leaf (some (.int .i64 (↑len : Int))) .leaf) none (.node .leaf (some (.ptr 0 0 (off + i.toNat * 3))) .leaf)) (some (.ptr 4 0 0)) (.node (.node .leaf (some (.ptr 2 0 0)) .leaf) none .leaf)) none (.node (.node (.node .leaf (some (.bool (decide (i < (150 : Int))))) .leaf) none .leaf) none (.node (.node .leaf (some (.ptr 0 0 (off + i.toNat * 3 + 1))) .leaf) none .leaf))))),
   [.drw (rg P 5 [1, 1, 1, 1, 1, 0, 1, 0, 0, 1, 0, 0, 0]) [11] [10, 9, 8, 7, 6, 5, 4, 3, 2, 1, 0], .code (cd P 5 [1, 1, 1, 1, 1, 0, 1, 0, 0, 1, 0, 0, 1]), .inBlock 1, .code (cd P 5 [1, 1, 1, 1, 1, 0, 1, 0, 0, 1, 1]), .inLoop (cd P (5 : FuncId) [1, 1, 1, 1, 1, 0, 1, 0, 0]), .inBlock 0, .code (cd P (5 : FuncId) [1, 1, 1, 1, 1, 1])], [], .run, CallKind.normal, none⟩
noncomputable def C2 (off : Nat) (len : Nat) (cap : Nat) (n : Int) (i : Int) (k : Int) (v : Int) : AFrame := ⟨5, 94, (.node (.node (.node (.node (.node (.node (.node .leaf (some (.ptr 0 0 (off + i.toNat * 3 + 2))) .leaf) none .leaf) none (.node .leaf (some (.int .i64 k)) .leaf)) (some (.int .i64 n)) (.node (.node .leaf (some (.bool true)) .leaf) none (.node .leaf (some (.slc 0 0 off len cap)) .leaf))) none (.node (.node (.node .leaf (some (.bool (decide (i < (↑len : Int))))) .leaf) none (.node .leaf (some (.ptr 0 0 (off + i.toNat * 3 + 2))) .leaf)) (some (.int .i64 i)) (.node (.node .leaf (some (.slc 0 0 off len cap)) .leaf) none (.node .leaf (some (.int .i64 k)) .leaf)))) none (.node (.node (.node (.node .leaf (some (.slc 0 0 off len cap)) .leaf) none (.node .leaf (some (.int .i64 i)) .leaf)) (some (.ptr 2 0 0)) (.node .leaf none (.node .leaf (some (.ptr 0 0 (off + i.toNat * 3))) .leaf))) none (.node (.node (.node .leaf (some (.int .i64 i)) .leaf) none (.node .leaf (some (.tup [])) .leaf)) none (.node (.node .leaf (some (.ptr 0 0 (off + i.toNat * 3))) .leaf) none (.node .leaf (some (.int .i64 i)) .leaf))))) none (.node (.node (.node (.node (.node (.node .leaf (some (.int .i64 v)) .leaf) (some (.int .i64 i)) .leaf) none (.node .leaf (some (.slc 0 0 off len cap)) .leaf)) none (.node .leaf none (.node .leaf (some (.int .i64 i)) .leaf))) none (.node (.node (.node .leaf (some (.bool true)) .leaf) none (.node .leaf (some (.int .i64 v)) .leaf)) none (.node (.node .leaf (some (.int .i64 i)) .leaf) none (.node .leaf (some (.slc 0 0 off len cap)) .leaf)))) (some (.slc 0 0 off len cap)) (.node (.node (.node (.node .leaf (some (.int .i64 (↑len : Int))) .leaf) none (.node .leaf (some (.ptr 0 0 (off + i.toNat * 3))) .leaf)) (some (.ptr 4 0 0)) (.node (.node .leaf (some (.ptr 2 0 0)) .leaf) none (.node .leaf (some (.ptr 0 0 (off + i.toNat * 3 + 1))) .leaf))) none (.node (.node (.node .leaf (some (.bool (decide (i < (150 : Int))))) .leaf) none (.node .leaf (some (.ptr 4 0 0)) .leaf)) none (.node (.node .leaf (some (.ptr 0 0 (off + i.toNat * 3 + 1))) .leaf) none (.node .leaf (some (.ptr 0 0 (off + i.toNat * 3))) .leaf)))))),
   [.drw (rg P 5 [1, 1, 1, 1, 1, 0, 1, 0, 0, 1, 0, 0, 1, 0]) [11] [10, 9, 8, 7, 6, 5, 4, 3, 2, 1, 0], .code (cd P 5 [1, 1, 1, 1, 1, 0, 1, 0, 0, 1, 0, 0, 1, 1]), .inBlock 1, .code (cd P (5 : FuncId) [1, 1, 1, 1, 1, 0, 1, 0, 0, 1, 1]), .inLoop (cd P (5 : FuncId) [1, 1, 1, 1, 1, 0, 1, 0, 0]), .inBlock 0, .code (cd P (5 : FuncId) [1, 1, 1, 1, 1, 1])], [], .run, CallKind.normal, none⟩
noncomputable def C3 (off : Nat) (len : Nat) (cap : Nat) (n : Int) (i : Int) (k : Int) (v : Int) : AFrame := ⟨5, 94, (.node (.node (.node (.node (.node (.node (.node .leaf (some (.ptr 0 0 (off + i.toNat * 3 + 2))) .leaf) none .leaf) none (.node .leaf (some (.int .i64 k)) .leaf)) (some (.int .i64 n)) (.node (.node .leaf (some (.bool true)) .leaf) none (.node .leaf (some (.slc 0 0 off len cap)) .leaf))) none (.node (.node (.node .leaf (some (.bool (decide (i < (↑len : Int))))) .leaf) none (.node .leaf (some (.ptr 0 0 (off + i.toNat * 3 + 2))) .leaf)) (some (.int .i64 i)) (.node (.node .leaf (some (.slc 0 0 off len cap)) .leaf) none (.node .leaf (some (.int .i64 k)) .leaf)))) none (.node (.node (.node (.node (.node .leaf (some (.tup [])) .leaf) (some (.slc 0 0 off len cap)) .leaf) none (.node .leaf (some (.int .i64 i)) .leaf)) (some (.ptr 2 0 0)) (.node .leaf none (.node .leaf (some (.ptr 0 0 (off + i.toNat * 3))) .leaf))) none (.node (.node (.node .leaf (some (.int .i64 i)) .leaf) none (.node .leaf (some (.tup [])) .leaf)) none (.node (.node .leaf (some (.ptr 0 0 (off + i.toNat * 3))) .leaf) none (.node .leaf (some (.int .i64 i)) .leaf))))) none (.node (.node (.node (.node (.node (.node .leaf (some (.int .i64 v)) .leaf) (some (.int .i64 i)) .leaf) none (.node .leaf (some (.slc 0 0 off len cap)) .leaf)) none (.node .leaf none (.node .leaf (some (.int .i64 i)) .leaf))) none (.node (.node (.node .leaf (some (.bool true)) .leaf) none (.node .leaf (some (.int .i64 v)) .leaf)) none (.node (.node .leaf (some (.int .i64 i)) .leaf) none (.node .leaf (some (.slc 0 0 off len cap)) .leaf)))) (some (.slc 0 0 off len cap)) (.node (.node (.node (.node (.node .leaf (some (.ptr 2 0 0)) .leaf) (some (.int .i64 (↑len : Int))) .leaf) none (.node .leaf (some (.ptr 0 0 (off + i.toNat * 3))) .leaf)) (some (.ptr 4 0 0)) (.node (.node .leaf (some (.ptr 2 0 0)) .leaf) none (.node .leaf (some (.ptr 0 0 (off + i.toNat * 3 + 1))) .leaf))) none (.node (.node (.node .leaf (some (.bool (decide (i < (150 : Int))))) .leaf) none (.node .leaf (some (.ptr 4 0 0)) .leaf)) none (.node (.node .leaf (some (.ptr 0 0 (off + i.toNat * 3 + 1))) .leaf) none (.node .leaf (some (.ptr 0 0 (off + i.toNat * 3))) .leaf)))))),
   [.ops (rg P 5 [1, 1, 1, 1, 1, 0, 1, 0, 0, 1, 0, 0, 1, 1, 0]).toList ((rg P 5 [1, 1, 1, 1, 1, 0, 1, 0, 0, 1, 0, 0, 1, 1, 0]).toList.drop 1), .code (cd P 5 [1, 1, 1, 1, 1, 0, 1, 0, 0, 1, 0, 0, 1, 1, 1]), .inBlock 1, .code (cd P (5 : FuncId) [1, 1, 1, 1, 1, 0, 1, 0, 0, 1, 1]), .inLoop (cd P (5 : FuncId) [1, 1, 1, 1, 1, 0, 1, 0, 0]), .inBlock 0, .code (cd P (5 : FuncId) [1, 1, 1, 1, 1, 1])], [], .run, CallKind.normal, none⟩
noncomputable def C4 (off : Nat) (len : Nat) (cap : Nat) (n : Int) (i : Int) (k : Int) (v : Int) (ks : AV) : AFrame := ⟨5, 94, (.node (.node (.node (.node (.node (.node (.node .leaf (some (.ptr 0 0 (off + i.toNat * 3 + 2))) .leaf) none .leaf) none (.node .leaf (some (.int .i64 k)) .leaf)) (some (.int .i64 n)) (.node (.node .leaf (some (.bool true)) .leaf) none (.node .leaf (some (.slc 0 0 off len cap)) .leaf))) none (.node (.node (.node (.node .leaf (some ks) .leaf) (some (.bool (decide (i < (↑len : Int))))) .leaf) none (.node .leaf (some (.ptr 0 0 (off + i.toNat * 3 + 2))) .leaf)) (some (.int .i64 i)) (.node (.node .leaf (some (.slc 0 0 off len cap)) .leaf) none (.node .leaf (some (.int .i64 k)) .leaf)))) none (.node (.node (.node (.node (.node .leaf (some (.tup [])) .leaf) (some (.slc 0 0 off len cap)) .leaf) none (.node .leaf (some (.int .i64 i)) .leaf)) (some (.ptr 2 0 0)) (.node .leaf none (.node .leaf (some (.ptr 0 0 (off + i.toNat * 3))) .leaf))) none (.node (.node (.node .leaf (some (.int .i64 i)) .leaf) none (.node .leaf (some (.tup [])) .leaf)) none (.node (.node .leaf (some (.ptr 0 0 (off + i.toNat * 3))) .leaf) none (.node .leaf (some (.int .i64 i)) .leaf))))) none (.node (.node (.node (.node (.node (.node .leaf (some (.int .i64 v)) .leaf) (some (.int .i64 i)) .leaf) none (.node .leaf (some (.slc 0 0 off len cap)) .leaf)) none (.node .leaf none (.node .leaf (some (.int .i64 i)) .leaf))) none (.node (.node (.node (.node .leaf (some (.ptr 4 0 0)) .leaf) (some (.bool true)) .leaf) none (.node .leaf (some (.int .i64 v)) .leaf)) none (.node (.node .leaf (some (.int .i64 i)) .leaf) none (.node .leaf (some (.slc 0 0 off len cap)) .leaf)))) (some (.slc 0 0 off len cap)) (.node (.node (.node (.node (.node .leaf (some (.ptr 2 0 0)) .leaf) (some (.int .i64 (↑len : Int))) .leaf) none (.node .leaf (some (.ptr 0 0 (off + i.toNat * 3))) .leaf)) (some (.ptr 4 0 0)) (.node (.node .leaf (some (.ptr 2 0 0)) .leaf) none (.node .leaf (some (.ptr 0 0 (off + i.toNat * 3 + 1))) .leaf))) none (.node (.node (.node .leaf (some (.bool (decide (i < (150 : Int))))) .leaf) none (.node .leaf (some (.ptr 4 0 0)) .leaf)) none (.node (.node .leaf (some (.ptr 0 0 (off + i.toNat * 3 + 1))) .leaf) none (.node .leaf (some (.ptr 0 0 (off + i.toNat * 3))) .leaf)))))),
   [.ops (rg P (5 : FuncId) [1, 1, 1, 1, 1, 0, 1, 0, 0, 1, 0, 0, 1, 1, 0]).toList ((rg P (5 : FuncId) [1, 1, 1, 1, 1, 0, 1, 0, 0, 1, 0, 0, 1, 1, 0]).toList.drop 3), .code (cd P (5 : FuncId) [1, 1, 1, 1, 1, 0, 1, 0, 0, 1, 0, 0, 1, 1, 1]), .inBlock 1, .code (cd P (5 : FuncId) [1, 1, 1, 1, 1, 0, 1, 0, 0, 1, 1]), .inLoop (cd P (5 : FuncId) [1, 1, 1, 1, 1, 0, 1, 0, 0]), .inBlock 0, .code (cd P (5 : FuncId) [1, 1, 1, 1, 1, 1])], [], .run, CallKind.normal, none⟩
noncomputable def C5 (off : Nat) (len : Nat) (cap : Nat) (n : Int) (i : Int) (k : Int) (v : Int) (ki : Nat) (y : Nat) (kn : Nat) (kj : Nat) (z : Nat) (km : Nat) : AFrame := ⟨5, 94, (.node (.node (.node (.node (.node (.node (.node .leaf (some (.ptr 0 0 (off + i.toNat * 3 + 2))) .leaf) none .leaf) none (.node (.node .leaf (some (.int .i64 (↑kn : Int))) .leaf) (some (.int .i64 k)) .leaf)) (some (.int .i64 n)) (.node (.node (.node .leaf (some (.int .i64 (↑kn : Int))) .leaf) (some (.bool true)) .leaf) none (.node .leaf (some (.slc 0 0 off len cap)) .leaf))) none (.node (.node (.node (.node .leaf (some (.slg ki y 0 kn 0)) .leaf) (some (.bool (decide (i < (↑len : Int))))) .leaf) none (.node .leaf (some (.ptr 0 0 (off + i.toNat * 3 + 2))) .leaf)) (some (.int .i64 i)) (.node (.node (.node .leaf (some (.bool false)) .leaf) (some (.slc 0 0 off len cap)) .leaf) none (.node .leaf (some (.int .i64 k)) .leaf)))) none (.node (.node (.node (.node (.node .leaf (some (.tup [])) .leaf) (some (.slc 0 0 off len cap)) .leaf) none (.node .leaf (some (.int .i64 i)) .leaf)) (some (.ptr 2 0 0)) (.node (.node (.node .leaf (some (.int .i64 (↑km : Int))) .leaf) none .leaf) none (.node .leaf (some (.ptr 0 0 (off + i.toNat * 3))) .leaf))) none (.node (.node (.node (.node .leaf (some (.slg kj z 0 km 0)) .leaf) (some (.int .i64 i)) .leaf) none (.node .leaf (some (.tup [])) .leaf)) (some (.slg kj z 0 km 0)) (.node (.node (.node .leaf (some (.slg kj z 0 km 0)) .leaf) (some (.ptr 0 0 (off + i.toNat * 3))) .leaf) none (.node .leaf (some (.int .i64 i)) .leaf))))) none (.node (.node (.node (.node (.node (.node .leaf (some (.int .i64 v)) .leaf) (some (.int .i64 i)) .leaf) none (.node (.node .leaf (some (.slg kj z 0 kn 0)) .leaf) (some (.slc 0 0 off len cap)) .leaf)) none (.node (.node (.node .leaf (some (.slg kj z 0 km 0)) .leaf) none .leaf) none (.node .leaf (some (.int .i64 i)) .leaf))) none (.node (.node (.node (.node .leaf (some (.ptr 4 0 0)) .leaf) (some (.bool true)) .leaf) none (.node .leaf (some (.int .i64 v)) .leaf)) (some (.slg ki y 0 kn 0)) (.node (.node (.node .leaf (some (.slg ki y 0 kn 0)) .leaf) (some (.int .i64 i)) .leaf) none (.node .leaf (some (.slc 0 0 off len cap)) .leaf)))) (some (.slc 0 0 off len cap)) (.node (.node (.node (.node (.node .leaf (some (.ptr 2 0 0)) .leaf) (some (.int .i64 (↑len : Int))) .leaf) none (.node .leaf (some (.ptr 0 0 (off + i.toNat * 3))) .leaf)) (some (.ptr 4 0 0)) (.node (.node (.node .leaf (some (.bool (decide ((↑kn : Int) > (↑km : Int))))) .leaf) (some (.ptr 2 0 0)) .leaf) none (.node .leaf (some (.ptr 0 0 (off + i.toNat * 3 + 1))) .leaf))) none (.node (.node (.node (.node .leaf (some (.slg ki y 0 kn 0)) .leaf) (some (.bool (decide (i < (150 : Int))))) .leaf) none (.node .leaf (some (.ptr 4 0 0)) .leaf)) none (.node (.node (.node .leaf (some (.slg ki y 0 kn 0)) .leaf) (some (.ptr 0 0 (off + i.toNat * 3 + 1))) .leaf) none (.node .leaf (some (.ptr 0 0 (off + i.toNat * 3))) .leaf)))))),
   [.ops (rg P 5 [1, 1, 1, 1, 1, 0, 1, 0, 0, 1, 0, 0, 1, 1, 1, 0]).toList ((rg P 5 [1, 1, 1, 1, 1, 0, 1, 0, 0, 1, 0, 0, 1, 1, 1, 0]).toList.drop 11), .code (cd P 5 [1, 1, 1, 1, 1, 0, 1, 0, 0, 1, 0, 0, 1, 1, 1, 1]), .inBlock 1, .code (cd P (5 : FuncId) [1, 1, 1, 1, 1, 0, 1, 0, 0, 1, 1]), .inLoop (cd P (5 : FuncId) [1, 1, 1, 1, 1, 0, 1, 0, 0]), .inBlock 0, .code (cd P (5 : FuncId) [1, 1, 1, 1, 1, 1])], [], .run, CallKind.normal, none⟩

theorem q_la (R : AV → Prop) (k : Int) (v : Int) (cap : Nat) (O : T AObj) (N : Nat) (off : Nat) (len : Nat) (n : Int) (i : Int) (G : T (T AV)) (K : AM → Prop) : Obl P 5 (fun v _ => R v) 0 K [.run 8, .know 36 true, .run 4, .know 39 true, .run 9, .op, .run 1, .hop (.int .i64 k) O, .run 2, .op, .run 1, .hop (.int .i64 v) O, .run 1] ((LM off len cap n i O N G)) = ((decide (i < (↑len : Int)) = true) ∧ (decide (i < (150 : Int)) = true) ∧ ((0 : Int) ≤ i ∧ i < (↑len : Int)) ∧ (loadCellsA (⟨O, N, G⟩) (0) (0) (off + i.toNat * 3 + 1) (1) = (some [.int .i64 k])) ∧ ((0 : Int) ≤ i ∧ i < (↑len : Int)) ∧ (loadCellsA (⟨O, N, G⟩) (0) (0) (off + i.toNat * 3 + 2) (1) = (some [.int .i64 v])) ∧ K (AM.mk (enF 10 [.ptr 2 0 0, .int .i64 k, .int .i64 v]) [(C1 off len cap n i k v)] ⟨O, N, G⟩)) := by kernel_rfl

theorem q_lb (R : AV → Prop) (k : Int) (v : Int) (cap : Nat) (O : T AObj) (N : Nat) (off : Nat) (len : Nat) (n : Int) (i : Int) (td : List AItem) (G : T (T AV)) (K : AM → Prop) : Obl P 5 (fun v _ => R v) 0 K [.run 7, .op, .run 1, .hop (.int .i64 k) O, .run 2, .op, .run 1, .hop (.int .i64 v) O, .run 1] ((AM.mk (RF 10 53 .leaf td) [(C1 off len cap n i k v)] ⟨O, N, G⟩)) = (((0 : Int) ≤ i ∧ i < (↑len : Int)) ∧ (loadCellsA (⟨O, N, G⟩) (0) (0) (off + i.toNat * 3 + 1) (1) = (some [.int .i64 k])) ∧ ((0 : Int) ≤ i ∧ i < (↑len : Int)) ∧ (loadCellsA (⟨O, N, G⟩) (0) (0) (off + i.toNat * 3 + 2) (1) = (some [.int .i64 v])) ∧ K (AM.mk (enF 10 [.ptr 4 0 0, .int .i64 k, .int .i64 v]) [(C2 off len cap n i k v)] ⟨O, N, G⟩)) := by kernel_rfl

theorem q_lc (R : AV → Prop) (k : Int) (v : Int) (cap : Nat) (O : T AObj) (N : Nat) (off : Nat) (len : Nat) (n : Int) (i : Int) (td : List AItem) (G : T (T AV)) (K : AM → Prop) : Obl P 5 (fun v _ => R v) 0 K [.run 6] ((AM.mk (RF 10 53 .leaf td) [(C2 off len cap n i k v)] ⟨O, N, G⟩)) = (K (AM.mk (enF 12 [.ptr 2 0 0]) [(C3 off len cap n i k v)] ⟨O, N, G⟩)) := by kernel_rfl

theorem q_ld (R : AV → Prop) (k : Int) (v : Int) (cap : Nat) (O : T AObj) (N : Nat) (off : Nat) (len : Nat) (n : Int) (i : Int) (ks : AV) (td : List AItem) (G : T (T AV)) (K : AM → Prop) : Obl P 5 (fun v _ => R v) 0 K [.run 3] ((AM.mk (RF 12 35 (.node .leaf none (.node .leaf (some ks) .leaf)) td) [(C3 off len cap n i k v)] ⟨O, N, G⟩)) = (K (AM.mk (enF 12 [.ptr 4 0 0]) [(C4 off len cap n i k v ks)] ⟨O, N, G⟩)) := by kernel_rfl

theorem q_lenn (R : AV → Prop) (k : Int) (v : Int) (cap : Nat) (O : T AObj) (N : Nat) (off : Nat) (len : Nat) (n : Int) (i : Int) (td : List AItem) (G : T (T AV)) (K : AM → Prop) : Obl P 5 (fun v _ => R v) 0 K [.run 68, .know 92 false, .run 9, .keep [2, 7, 9, 10, 11]] ((AM.mk (RF 12 35 (.node .leaf none (.node .leaf (some (.nils 0 0)) .leaf)) td) [(C4 off len cap n i k v (.nils 0 0))] ⟨O, N, G⟩)) = (((0 != if decide (0 < n) = true then 0 else n) = false) ∧ K (LM off len cap n (IntKind.i64.wrap (i + (1 : Int))) O N G)) := by kernel_rfl

theorem q_lens (R : AV → Prop) (k : Int) (v : Int) (cap : Nat) (O : T AObj) (N : Nat) (kj : Nat) (z : Nat) (km : Nat) (off : Nat) (len : Nat) (n : Int) (i : Int) (td : List AItem) (G : T (T AV)) (K : AM → Prop) : Obl P 5 (fun v _ => R v) 0 K [.run 68, .know 92 false, .run 9, .keep [2, 7, 9, 10, 11]] ((AM.mk (RF 12 35 (.node .leaf none (.node .leaf (some (.slg kj z 0 km 0)) .leaf)) td) [(C4 off len cap n i k v (.nils 0 0))] ⟨O, N, G⟩)) = (((0 != if decide ((↑km : Int) < n) = true then (↑km : Int) else n) = false) ∧ K (LM off len cap n (IntKind.i64.wrap (i + (1 : Int))) O N G)) := by kernel_rfl

theorem q_less (R : AV → Prop) (k : Int) (v : Int) (cap : Nat) (O : T AObj) (N : Nat) (y : Nat) (ki : Nat) (kn : Nat) (kj : Nat) (z : Nat) (km : Nat) (off : Nat) (len : Nat) (n : Int) (i : Int) (td : List AItem) (G : T (T AV)) (K : AM → Prop) : Obl P 5 (fun v _ => R v) 0 K [.run 12, .know 75 false, .run 4, .hop (.slg kj z 0 kn 0) O, .run 1] ((AM.mk (RF 12 35 (.node .leaf none (.node .leaf (some (.slg kj z 0 km 0)) .leaf)) td) [(C4 off len cap n i k v (.slg ki y 0 kn 0))] ⟨O, N, G⟩)) = ((decide ((↑kn : Int) > (↑km : Int)) = false) ∧ (sliceH P (⟨O, N, G⟩) (32) (.slg kj z 0 km 0) (none) ((some (↑kn : Int))) (none) = (some (.slg kj z 0 kn 0))) ∧ K (AM.mk (enF 13 [.slg ki y 0 kn 0, .slg kj z 0 kn 0]) [(C5 off len cap n i k v ki y kn kj z km)] ⟨O, N, G⟩)) := by kernel_rfl

theorem q_lf (R : AV → Prop) (k : Int) (v : Int) (cap : Nat) (O : T AObj) (N : Nat) (y : Nat) (ki : Nat) (kn : Nat) (kj : Nat) (z : Nat) (km : Nat) (off : Nat) (len : Nat) (n : Int) (i : Int) (td : List AItem) (G : T (T AV)) (K : AM → Prop) : Obl P 5 (fun v _ => R v) 0 K [.run 13, .know 92 false, .run 9, .keep [2, 7, 9, 10, 11]] ((AM.mk (RF 13 26 (.node .leaf none (.node (.node .leaf (some (.bool true)) .leaf) none .leaf)) td) [(C5 off len cap n i k v ki y kn kj z km)] ⟨O, N, G⟩)) = ((((↑kn : Int) != if decide ((↑km : Int) < n) = true then (↑km : Int) else n) = false) ∧ K (LM off len cap n (IntKind.i64.wrap (i + (1 : Int))) O N G)) := by kernel_rfl

theorem q_le1 (R : AV → Prop) (v : Int) (cap : Nat) (O : T AObj) (N : Nat) (off : Nat) (len : Nat) (n : Int) (i : Int) (G : T (T AV)) (_K : AM → Prop) : Obl P 5 (fun v _ => R v) 0 _K [.run 8, .know 36 false, .run 9, .callv [] (.bool true), .run 3, .done] ((LM off len cap n i O N G)) = ((decide (i < (↑len : Int)) = false) ∧ (Goal P (0) 16 (fun x x_1 => x = AV.bool true) (startM P 16 [] G)) ∧ (R (.bool true))) := by kernel_rfl

theorem q_le2 (R : AV → Prop) (v : Int) (cap : Nat) (O : T AObj) (N : Nat) (off : Nat) (len : Nat) (n : Int) (i : Int) (G : T (T AV)) (_K : AM → Prop) : Obl P 5 (fun v _ => R v) 0 _K [.run 8, .know 36 true, .run 4, .know 39 false, .run 5, .callv [] (.bool true), .run 3, .done] ((LM off len cap n i O N G)) = ((decide (i < (↑len : Int)) = true) ∧ (decide (i < (150 : Int)) = false) ∧ (Goal P (0) 16 (fun x x_1 => x = AV.bool true) (startM P 16 [] G)) ∧ (R (.bool true))) := by kernel_rfl

abbrev R0 (v : AV) : Prop := v = AV.bool true
abbrev GP (m : AM) : Prop := Goal P 0 5 (fun v _ => R0 v) m

theorem works_ok {G : T (T AV)} : Goal P 0 16 (fun x _ => x = AV.bool true) (startM P 16 [] G) := Goal.ofRun mix (n := 40000) (by kernel_rfl) fun _ => rfl

/-- What is to be done: looked for or not; a key; a value. -/
abbrev Act := Bool × Int × Int
def arow (q : Act) : List AV := [.bool q.1, .int .i64 q.2.1, .int .i64 q.2.2]
def acell (act : Nat → Act) (j : Nat) : AV := (arow (act (j / 3))).getD (j % 3) undefA
def RoOk (O : T AObj) (act : Nat → Act) (off cap : Nat) : Prop := O.get 0 = some (.ro (.fn fun j => some (acell act (j - off))) off (off + cap * 3))

variable {O O' : T AObj} {N : Nat} {G : T (T AV)} {act : Nat → Act} {off len cap n m i : Nat} {La Lb : List Ent}

theorem act_load (h : RoOk O act off cap) (hi : i < cap) (u : Nat) (hu : u < 3) (N : Nat) (G : T (T AV)) : loadCellsA ⟨O, N, G⟩ 0 0 (off + ((i : Nat) : Int).toNat * 3 + u) 1 = some [(arow (act i)).getD u undefA] := by
  refine ro_load h (by omega) (by omega) ?_
  show some (acell act (off + ((i : Nat) : Int).toNat * 3 + u - off)) = _
  rw [show off + ((i : Nat) : Int).toNat * 3 + u - off = i * 3 + u by omega]
  unfold acell
  rw [show (i * 3 + u) / 3 = i by omega, show (i * 3 + u) % 3 = u by omega]

theorem cmp_ok {a n b : Nat} (h : a = min n b) : ((((a : Nat) : Int) != if decide (((b : Nat) : Int) < ((n : Nat) : Int)) = true then ((b : Nat) : Int) else ((n : Nat) : Int)) = false) := by
  have e : (if decide (((b : Nat) : Int) < ((n : Nat) : Int)) = true then ((b : Nat) : Int) else ((n : Nat) : Int)) = ((a : Nat) : Int) := by
    by_cases hb : b < n
    · rw [decide_eq_true (by omega), if_pos rfl]; omega
    · rw [decide_eq_false (by omega), if_neg (by simp)]; omega
  rw [e]
  exact bne_self_eq_false _

/-- What is so at the loop's head. -/
structure Inv (O : T AObj) (N : Nat) (act : Nat → Act) (off cap n m : Nat) (La Lb : List Ent) : Prop where
  ro : RoOk O act off cap
  a : LR O 2 1 n La
  b : LR O 4 3 m Lb
  hN : 5 ≤ N
  ia : ∀ x ∈ La, 5 ≤ x.1 ∧ x.1 < N
  ib : ∀ x ∈ Lb, 5 ≤ x.1 ∧ x.1 < N
  ab : ∀ x ∈ La, ∀ y ∈ Lb, x.1 ≠ y.1
  eq : La.map (·.2) = (Lb.map (·.2)).take n

theorem round (h : Inv O N act off cap n m La Lb) (hi : i < len) (hl : len ≤ cap) (h1 : i < 150) (hnm : n ≤ m) (hm : m < 1000000000)
    (hK : ∀ O' N' La' Lb', Inv O' N' act off cap n m La' Lb' → GP (LM off len cap ((n : Nat) : Int) ((i + 1 : Nat) : Int) O' N' G)) : GP (LM off len cap ((n : Nat) : Int) ((i : Nat) : Int) O N G) := by
  obtain ⟨ro, ha, hb, hN, ia, ib, ab, heq⟩ := h
  have w : IntKind.i64.wrap (((i : Nat) : Int) + (1 : Int)) = ((i + 1 : Nat) : Int) := by rw [IntKind.wrap_i64]; omega
  refine (Obl.goal mix (K := GP) (fun _ h => h) (cast (q_la R0 ((act i).2.1) ((act i).2.2) cap O N off len (((n : Nat) : Int)) (((i : Nat) : Int)) G GP).symm ⟨decide_eq_true (by omega), decide_eq_true (by omega), ⟨by omega, by omega⟩, act_load ro (by omega) 1 (by omega) N G, ⟨by omega, by omega⟩, act_load ro (by omega) 2 (by omega) N G, ?_⟩))
  refine put_ok ha (by omega) (by omega) (fun x hx => (ia x hx).2) (by omega) fun O1 N1 La' td1 ha1 hN1 ia1 pa1 fr1 => ?_
  have ia1' : ∀ x ∈ La', 5 ≤ x.1 ∧ x.1 < N1 ∧ (x.1 < N → ∃ y ∈ La, y.1 = x.1) := fun x hx => by
    obtain ⟨p, q⟩ := ia1 x hx
    rcases q with q | ⟨y, hy, q⟩
    · exact ⟨by omega, p, fun hh => by omega⟩
    · exact ⟨by rw [← q]; exact (ia y hy).1, p, fun _ => ⟨y, hy, q⟩⟩
  have ro1 : RoOk O1 act off cap := (fr1 0 (by omega) (by omega) (by omega) (fun y hy => by have := (ia y hy).1; omega)).trans ro
  have hb1 : LR O1 4 3 m Lb := hb.same fun j hj => by
    rcases hj with rfl | rfl | ⟨x, hx, rfl⟩
    · exact fr1 _ (by omega) (by omega) (by omega) fun y hy => by have := (ia y hy).1; omega
    · exact fr1 _ (by omega) (by omega) (by omega) fun y hy => by have := (ia y hy).1; omega
    · have := ib x hx
      exact fr1 _ (by omega) (by omega) (by omega) fun y hy => ab y hy x hx
  refine (Obl.goal mix (K := GP) (fun _ h => h) (cast (q_lb R0 ((act i).2.1) ((act i).2.2) cap O1 N1 off len (((n : Nat) : Int)) (((i : Nat) : Int)) td1 G GP).symm ⟨⟨by omega, by omega⟩, act_load ro1 (by omega) 1 (by omega) N1 G, ⟨by omega, by omega⟩, act_load ro1 (by omega) 2 (by omega) N1 G, ?_⟩))
  refine put_ok hb1 (by omega) (by omega) (fun x hx => by have := (ib x hx).2; omega) hm fun O2 N2 Lb' td2 hb2 hN2 ib2 pb2 fr2 => ?_
  have ib2' : ∀ x ∈ Lb', 5 ≤ x.1 ∧ x.1 < N2 ∧ (x.1 < N1 → ∃ y ∈ Lb, y.1 = x.1) := fun x hx => by
    obtain ⟨p, q⟩ := ib2 x hx
    rcases q with q | ⟨y, hy, q⟩
    · exact ⟨by omega, p, fun hh => by omega⟩
    · exact ⟨by rw [← q]; exact (ib y hy).1, p, fun _ => ⟨y, hy, q⟩⟩
  have ro2 : RoOk O2 act off cap := (fr2 0 (by omega) (by omega) (by omega) (fun y hy => by have := (ib y hy).1; omega)).trans ro1
  have dis : ∀ x ∈ La', ∀ y ∈ Lb, y.1 ≠ x.1 := fun x hx y hy e => by
    have hyN := (ib y hy).2
    obtain ⟨z, hz, ez⟩ := (ia1' x hx).2.2 (by omega)
    exact ab z hz y hy (by rw [ez, e])
  have ha2 : LR O2 2 1 n La' := ha1.same fun j hj => by
    rcases hj with rfl | rfl | ⟨x, hx, rfl⟩
    · exact fr2 _ (by omega) (by omega) (by omega) fun y hy => by have := (ib y hy).1; omega
    · exact fr2 _ (by omega) (by omega) (by omega) fun y hy => by have := (ib y hy).1; omega
    · have := ia1' x hx
      exact fr2 _ (by omega) (by omega) (by omega) fun y hy => dis x hx y hy
  have dis2 : ∀ x ∈ La', ∀ y ∈ Lb', x.1 ≠ y.1 := fun x hx y hy e => by
    have hx1 := (ia1' x hx).2.1
    obtain ⟨z, hz, ez⟩ := (ib2' y hy).2.2 (by omega)
    exact dis x hx z hz (by rw [ez, e])
  have hnd : ((Lb.map (·.2)).map (·.1)).Nodup := by
    rw [List.map_map]
    exact hb.2.2.2.2.2.2.2.1
  have heq2 : La'.map (·.2) = (Lb'.map (·.2)).take n := by rw [pa1, pb2, heq, putP_take hnm hnd]
  have hlen : La'.length = min n Lb'.length := by
    have := congrArg List.length heq2
    rwa [List.length_map, List.length_take, List.length_map] at this
  refine (Obl.goal mix (K := GP) (fun _ h => h) (cast (q_lc R0 ((act i).2.1) ((act i).2.2) cap O2 N2 off len (((n : Nat) : Int)) (((i : Nat) : Int)) td2 G GP).symm ?_))
  refine keys_ok ha2 (by omega) (fun x hx => by have := (ia1' x hx).2.1; omega) (by omega) fun O3 N3 ks3 td3 hN3 fr3 kv3 => ?_
  have hb3 : LR O3 4 3 m Lb' := hb2.same fun j hj => by
    rcases hj with rfl | rfl | ⟨x, hx, rfl⟩
    · exact fr3 _ (by omega)
    · exact fr3 _ (by omega)
    · exact fr3 _ (ib2' x hx).2.1
  refine (Obl.goal mix (K := GP) (fun _ h => h) (cast (q_ld R0 ((act i).2.1) ((act i).2.2) cap O3 N3 off len (((n : Nat) : Int)) (((i : Nat) : Int)) ks3 td3 G GP).symm ?_))
  refine keys_ok hb3 (by omega) (fun x hx => by have := (ib2' x hx).2.1; omega) hm fun O4 N4 ks4 td4 hN4 fr4 kv4 => ?_
  have kv3' : KV O4 N2 N3 (La'.map (·.2.1)) ks3 := kv3.to (fun j _ hj => fr4 j hj) (Nat.le_refl _)
  have inv : Inv O4 N4 act off cap n m La' Lb' := ⟨(fr4 0 (by omega)).trans ((fr3 0 (by omega)).trans ro2), ha2.same fun j hj => by
    rcases hj with rfl | rfl | ⟨x, hx, rfl⟩
    · exact (fr4 _ (by omega)).trans (fr3 _ (by omega))
    · exact (fr4 _ (by omega)).trans (fr3 _ (by omega))
    · have := (ia1' x hx).2.1
      exact (fr4 _ (by omega)).trans (fr3 _ (by omega)), hb3.same fun j hj => by
    rcases hj with rfl | rfl | ⟨x, hx, rfl⟩
    · exact fr4 _ (by omega)
    · exact fr4 _ (by omega)
    · have := (ib2' x hx).2.1
      exact fr4 _ (by omega), by omega, fun x hx => ⟨(ia1' x hx).1, by have := (ia1' x hx).2.1; omega⟩, fun x hx => ⟨(ib2' x hx).1, by have := (ib2' x hx).2.1; omega⟩, dis2, heq2⟩
  have hnx := hK O4 N4 La' Lb' inv
  rw [← w] at hnx
  have hkeys : La'.map (·.2.1) = (Lb'.map (·.2.1)).take n := by
    have := congrArg (List.map (·.1)) heq2
    rw [List.map_take, List.map_map, List.map_map] at this
    exact this
  rcases kv3' with ⟨rfl, z3⟩ | ⟨ri, q, rfl, _, _, g3, gr3⟩
  · have l3 : La'.length = 0 := by rw [List.map_eq_nil_iff.1 z3]; rfl
    rcases kv4 with ⟨rfl, z4⟩ | ⟨rj, qj, rfl, _, _, g4, gr4⟩
    · have l4 : Lb'.length = 0 := by rw [List.map_eq_nil_iff.1 z4]; rfl
      exact (Obl.goal mix (K := GP) (fun _ h => h) (cast (q_lenn R0 ((act i).2.1) ((act i).2.2) cap O4 N4 off len (((n : Nat) : Int)) (((i : Nat) : Int)) td4 G GP).symm ⟨cmp_ok (a := 0) (b := 0) (by omega), hnx⟩))
    · rw [List.length_map] at g4
      exact (Obl.goal mix (K := GP) (fun _ h => h) (cast (q_lens R0 ((act i).2.1) ((act i).2.2) cap O4 N4 rj qj (qj + 1) off len (((n : Nat) : Int)) (((i : Nat) : Int)) td4 G GP).symm ⟨cmp_ok (a := 0) (b := qj + 1) (by omega), hnx⟩))
  · rw [List.length_map] at g3
    rcases kv4 with ⟨rfl, z4⟩ | ⟨rj, qj, rfl, _, _, g4, gr4⟩
    · have l4 : Lb'.length = 0 := by rw [List.map_eq_nil_iff.1 z4]; rfl
      omega
    · rw [List.length_map] at g4
      refine (Obl.goal mix (K := GP) (fun _ h => h) (cast (q_less R0 ((act i).2.1) ((act i).2.2) cap O4 N4 q ri (q + 1) rj qj (qj + 1) off len (((n : Nat) : Int)) (((i : Nat) : Int)) td4 G GP).symm ⟨decide_eq_false (by omega), slc_keys _ (by omega), ?_⟩))
      refine ints_ok gr3 gr4 (Nat.le_refl _) (by omega) (fun j hj => ?_) (by have := hb3.2.2.2.2.2.2.2.2.2; omega) fun td5 => ?_
      · rw [hkeys, List.getD_eq_getElem?_getD, List.getD_eq_getElem?_getD, List.getElem?_take_of_lt (by omega)]
      · exact (Obl.goal mix (K := GP) (fun _ h => h) (cast (q_lf R0 ((act i).2.1) ((act i).2.2) cap O4 N4 q ri (q + 1) rj qj (qj + 1) off len (((n : Nat) : Int)) (((i : Nat) : Int)) td5 G GP).symm ⟨cmp_ok (by omega), hnx⟩))

theorem loop (hl : len ≤ cap) (hnm : n ≤ m) (hm : m < 1000000000) : ∀ (d i : Nat) (O : T AObj) (N : Nat) (La Lb : List Ent), i + d = 150 → Inv O N act off cap n m La Lb → GP (LM off len cap ((n : Nat) : Int) ((i : Nat) : Int) O N G)
  | d, i, O, N, La, Lb, hd, h => by
    by_cases hi : i < len
    rotate_left
    · exact (Obl.goal mix (K := GP) (fun _ h => h) (cast (q_le1 R0 0 cap O N off len (((n : Nat) : Int)) (((i : Nat) : Int)) G GP).symm ⟨decide_eq_false (by omega), works_ok, rfl⟩))
    cases d with
    | zero => exact (Obl.goal mix (K := GP) (fun _ h => h) (cast (q_le2 R0 0 cap O N off len (((n : Nat) : Int)) (((i : Nat) : Int)) G GP).symm ⟨decide_eq_true (by omega), decide_eq_false (by omega), works_ok, rfl⟩))
    | succ d => exact round h hi hl (by omega) hnm hm fun O' N' La' Lb' h' => loop hl hnm hm d (i + 1) O' N' La' Lb' (by omega) h'

end Go.Proofs.Ytcdpmiebmhjmpaa.lr
