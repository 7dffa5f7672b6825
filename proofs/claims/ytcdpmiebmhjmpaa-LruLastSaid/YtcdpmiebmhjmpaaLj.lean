/- The statement LruLast's loops. -/
import Derived.Test.YtcdpmiebmhjmpaaLi
set_option maxRecDepth 100000
set_option linter.unusedVariables false
namespace Go.Proofs.Ytcdpmiebmhjmpaa.lr
open Go Ev

noncomputable def WL (off len cap : Nat) (n i : Int) (O : T AObj) (N : Nat) (G : T (T AV)) : AM := ⟨⟨4, 161, (.node (.node (.node (.node .leaf (some (.int .i64 i)) .leaf) none .leaf) (some (.slc 0 0 off len cap)) (.node .leaf (some (.int .i64 n)) .leaf)) none (.node .leaf none (.node .leaf (some (.ptr 2 0 0)) .leaf))),
   [.code (cd P 4 [1, 1, 1, 1, 1, 0, 1, 0, 0]), .inLoop (cd P 4 [1, 1, 1, 1, 1, 0, 1, 0, 0]), .inBlock 0, .code (cd P 4 [1, 1, 1, 1, 1, 1])], [], .run, CallKind.normal, none⟩,
  [],
  ⟨O, N, G⟩⟩
noncomputable def D1 (off : Nat) (len : Nat) (cap : Nat) (n : Int) (i : Int) (k : Int) (v : Int) : AFrame := ⟨4, 161, (.node (.node (.node (.node (.node (.node .leaf (some (.slc 0 0 off len cap)) .leaf) none (.node .leaf (some (.int .i64 v)) .leaf)) (some (.int .i64 i)) (.node (.node .leaf (some (.int .i64 i)) .leaf) none .leaf)) none (.node (.node (.node .leaf (some (.bool false)) .leaf) none .leaf) none (.node (.node .leaf (some (.slc 0 0 off len cap)) .leaf) (some (.int .i64 (↑len : Int))) .leaf))) (some (.slc 0 0 off len cap)) (.node (.node (.node (.node .leaf (some (.ptr 0 0 (off + i.toNat * 3))) .leaf) none .leaf) none (.node (.node .leaf (some (.ptr 0 0 (off + i.toNat * 3 + 1))) .leaf) (some (.int .i64 i)) .leaf)) (some (.int .i64 n)) (.node (.node (.node .leaf (some (.ptr 2 0 0)) .leaf) none .leaf) none (.node (.node .leaf (some (.ptr 0 0 (off + i.toNat * 3))) .leaf) none .leaf)))) none (.node (.node (.node (.node (.node .leaf (some (.int .i64 i)) .leaf) none .leaf) none (.node (.node .leaf (some (.ptr 0 0 (off + i.toNat * 3))) .leaf) none .leaf)) none (.node (.node (.node .leaf (some (.bool true)) .leaf) none .leaf) none (.node (.node .leaf (some (.int .i64 i)) .leaf) (some (.bool true)) .leaf))) none (.node (.node (.node (.node .leaf (some (.ptr 0 0 (off + i.toNat * 3))) .leaf) none .leaf) none (.node (.node .leaf (some (.int .i64 k)) .leaf) (some (.slc 0 0 off len cap)) .leaf)) (some (.ptr 2 0 0)) (.node (.node (.node .leaf (some (.slc 0 0 off len cap)) .leaf) none .leaf) none (.node (.node .leaf (some (.ptr 0 0 (off + i.toNat * 3 + 2))) .leaf) none .leaf))))),
   [.drw (rg P 4 [1, 1, 1, 1, 1, 0, 1, 0, 0, 1, 0, 0, 0, 1, 0, 0]) [11] [10, 9, 8, 7, 6, 5, 4, 3, 2, 1, 0], .code (cd P 4 [1, 1, 1, 1, 1, 0, 1, 0, 0, 1, 0, 0, 0, 1, 0, 1]), .code (cd P 4 [1, 1, 1, 1, 1, 0, 1, 0, 0, 1, 0, 0, 1]), .inBlock 1, .code (cd P 4 [1, 1, 1, 1, 1, 0, 1, 0, 0, 1, 1]), .inLoop (cd P (4 : FuncId) [1, 1, 1, 1, 1, 0, 1, 0, 0]), .inBlock 0, .code (cd P (4 : FuncId) [1, 1, 1, 1, 1, 1])], [], .run, CallKind.normal, none⟩
noncomputable def D2 (off : Nat) (len : Nat) (cap : Nat) (n : Int) (i : Int) (k : Int) : AFrame := ⟨4, 161, (.node (.node (.node (.node (.node (.node .leaf (some (.slc 0 0 off len cap)) .leaf) none .leaf) (some (.int .i64 i)) (.node .leaf none (.node .leaf (some (.slc 0 0 off len cap)) .leaf))) none (.node (.node (.node .leaf (some (.bool true)) .leaf) none .leaf) none (.node .leaf (some (.int .i64 (↑len : Int))) (.node .leaf (some (.int .i64 k)) .leaf)))) (some (.slc 0 0 off len cap)) (.node (.node (.node (.node .leaf (some (.ptr 0 0 (off + i.toNat * 3))) .leaf) none .leaf) none (.node .leaf (some (.int .i64 i)) (.node .leaf (some (.ptr 0 0 (off + i.toNat * 3))) .leaf))) (some (.int .i64 n)) .leaf)) none (.node (.node (.node (.node (.node .leaf (some (.int .i64 i)) .leaf) none .leaf) none (.node .leaf none (.node .leaf (some (.int .i64 i)) .leaf))) none (.node (.node (.node .leaf (some (.bool false)) .leaf) none .leaf) none (.node .leaf (some (.bool true)) .leaf))) none (.node (.node (.node (.node .leaf (some (.ptr 0 0 (off + i.toNat * 3))) .leaf) none .leaf) none (.node .leaf (some (.slc 0 0 off len cap)) (.node .leaf (some (.ptr 0 0 (off + i.toNat * 3 + 1))) .leaf))) (some (.ptr 2 0 0)) (.node (.node .leaf none (.node .leaf (some (.ptr 2 0 0)) .leaf)) none .leaf)))),
   [.ops (rg P 4 [1, 1, 1, 1, 1, 0, 1, 0, 0, 1, 0, 0, 1, 0]).toList ((rg P 4 [1, 1, 1, 1, 1, 0, 1, 0, 0, 1, 0, 0, 1, 0]).toList.drop 6), .code (cd P 4 [1, 1, 1, 1, 1, 0, 1, 0, 0, 1, 0, 0, 1, 1]), .inBlock 1, .code (cd P 4 [1, 1, 1, 1, 1, 0, 1, 0, 0, 1, 1]), .inLoop (cd P (4 : FuncId) [1, 1, 1, 1, 1, 0, 1, 0, 0]), .inBlock 0, .code (cd P (4 : FuncId) [1, 1, 1, 1, 1, 1])], [], .run, CallKind.normal, none⟩
noncomputable def HL (off len cap : Nat) (n i x pt j : Int) (is : Bool) (ot : AV) (O : T AObj) (N : Nat) (G : T (T AV)) : AM := ⟨⟨4, 161, (.node (.node (.node (.node .leaf (some (.int .i64 i)) .leaf) none (.node .leaf (some ot) .leaf)) (some (.slc 0 0 off len cap)) (.node (.node .leaf (some (.bool is)) .leaf) (some (.int .i64 n)) .leaf)) none (.node (.node (.node .leaf (some (.int .i64 x)) .leaf) none (.node .leaf (some (.int .i64 j)) .leaf)) none (.node (.node .leaf (some (.int .i64 pt)) .leaf) (some (.ptr 2 0 0)) .leaf))),
   [.code (cd P 4 [1, 1, 1, 1, 1, 0, 1, 0, 0, 1, 0, 0, 1, 1, 1, 1, 0, 1, 0, 0]), .inLoop (cd P 4 [1, 1, 1, 1, 1, 0, 1, 0, 0, 1, 0, 0, 1, 1, 1, 1, 0, 1, 0, 0]), .inBlock 2, .code (cd P 4 [1, 1, 1, 1, 1, 0, 1, 0, 0, 1, 0, 0, 1, 1, 1, 1, 1]), .inBlock 1, .code (cd P (4 : FuncId) [1, 1, 1, 1, 1, 0, 1, 0, 0, 1, 1]), .inLoop (cd P (4 : FuncId) [1, 1, 1, 1, 1, 0, 1, 0, 0]), .inBlock 0, .code (cd P (4 : FuncId) [1, 1, 1, 1, 1, 1])], [], .run, CallKind.normal, none⟩,
  [],
  ⟨O, N, G⟩⟩
noncomputable def D3 (off : Nat) (len : Nat) (cap : Nat) (n : Int) (i : Int) (k : Int) (x : Int) (pt : Int) (j : Int) (is : Bool) (ot : AV) (w : Int) : AFrame := ⟨4, 161, (.node (.node (.node (.node (.node (.node .leaf none (.node .leaf (some (.ptr 0 0 (off + j.toNat * 3))) .leaf)) none (.node (.node .leaf (some (.int .i64 i)) .leaf) none .leaf)) (some (.int .i64 i)) (.node (.node .leaf none (.node .leaf (some (.bool (w != k))) .leaf)) none (.node (.node .leaf (some (.tup [])) .leaf) none .leaf))) none (.node (.node (.node (.node .leaf (some (.bool true)) .leaf) none (.node .leaf (some (.int .i64 i)) .leaf)) none (.node (.node .leaf (some (.bool (w == k))) .leaf) none .leaf)) (some ot) (.node (.node (.node .leaf (some (.ptr 0 0 (off + j.toNat * 3))) .leaf) none (.node .leaf (some (.int .i64 j)) .leaf)) none (.node (.node .leaf (some (.bool false)) .leaf) none .leaf)))) (some (.slc 0 0 off len cap)) (.node (.node (.node (.node (.node .leaf (some (.int .i64 j)) .leaf) none (.node .leaf (some (.int .i64 w)) .leaf)) none (.node (.node .leaf (some (.ptr 0 0 (off + i.toNat * 3 + 1))) .leaf) none .leaf)) (some (.bool is)) (.node (.node (.node .leaf (some (.slc 0 0 off len cap)) .leaf) none (.node .leaf (some ot) .leaf)) none (.node (.node .leaf (some (.tup [])) .leaf) none .leaf))) (some (.int .i64 n)) (.node (.node (.node (.node .leaf (some (.bool (decide (pt < (0 : Int))))) .leaf) none (.node .leaf (some (.ptr 0 0 (off + i.toNat * 3 + 1))) .leaf)) none (.node (.node .leaf (some (.tup [])) .leaf) none .leaf)) none (.node (.node (.node .leaf (some (.int .i64 w)) .leaf) none (.node .leaf (some (.ptr 0 0 (off + j.toNat * 3 + 1))) .leaf)) none (.node (.node .leaf (some (.slc 0 0 off len cap)) .leaf) none .leaf))))) none (.node (.node (.node (.node (.node .leaf none (.node .leaf (some (.ptr 0 0 (off + j.toNat * 3 + 1))) .leaf)) none (.node (.node .leaf (some (.ptr 0 0 (off + i.toNat * 3))) .leaf) none .leaf)) (some (.int .i64 x)) (.node (.node .leaf none (.node .leaf (some (.bool true)) .leaf)) none (.node (.node .leaf (some (.tup [])) .leaf) none .leaf))) none (.node (.node (.node (.node .leaf (some (.int .i64 pt)) .leaf) none (.node .leaf (some (.ptr 0 0 (off + i.toNat * 3))) .leaf)) none (.node (.node .leaf (some (.bool false)) .leaf) none .leaf)) (some (.int .i64 j)) (.node (.node (.node .leaf (some (.ptr 0 0 (off + j.toNat * 3 + 1))) .leaf) none (.node .leaf (some (.ptr 0 0 (off + j.toNat * 3))) .leaf)) none .leaf))) none (.node (.node (.node (.node (.node .leaf (some (.bool (decide (j ≥ (0 : Int))))) .leaf) none (.node .leaf (some (.slc 0 0 off len cap)) .leaf)) none (.node (.node .leaf (some (.int .i64 k)) .leaf) none .leaf)) (some (.int .i64 pt)) (.node (.node (.node .leaf (some (.int .i64 j)) .leaf) none (.node .leaf (some (.slc 0 0 off len cap)) .leaf)) none (.node (.node .leaf (some (.tup [])) .leaf) none .leaf))) (some (.ptr 2 0 0)) (.node (.node (.node (.node .leaf (some (.bool true)) .leaf) none (.node .leaf (some (.int .i64 k)) .leaf)) none (.node (.node .leaf (some (.tup [])) .leaf) none .leaf)) none (.node (.node (.node .leaf (some (.slc 0 0 off len cap)) .leaf) none (.node .leaf (some (.int .i64 w)) .leaf)) none (.node (.node .leaf (some (.int .i64 j)) .leaf) none .leaf)))))),
   [.drw (rg P 4 [1, 1, 1, 1, 1, 0, 1, 0, 0, 1, 0, 0, 1, 1, 1, 1, 0, 1, 0, 0, 1, 0, 0, 1, 1, 0]) [18, 19, 20] [17, 16, 15, 14, 13, 12, 11, 10, 9, 8, 7, 6, 5, 4, 3, 2, 1, 0], .code (cd P 4 [1, 1, 1, 1, 1, 0, 1, 0, 0, 1, 0, 0, 1, 1, 1, 1, 0, 1, 0, 0, 1, 0, 0, 1, 1, 1]), .inBlock 3, .code (cd P 4 [1, 1, 1, 1, 1, 0, 1, 0, 0, 1, 0, 0, 1, 1, 1, 1, 0, 1, 0, 0, 1, 1]), .inLoop (cd P (4 : FuncId) [1, 1, 1, 1, 1, 0, 1, 0, 0, 1, 0, 0, 1, 1, 1, 1, 0, 1, 0, 0]), .inBlock 2, .code (cd P (4 : FuncId) [1, 1, 1, 1, 1, 0, 1, 0, 0, 1, 0, 0, 1, 1, 1, 1, 1]), .inBlock 1, .code (cd P (4 : FuncId) [1, 1, 1, 1, 1, 0, 1, 0, 0, 1, 1]), .inLoop (cd P (4 : FuncId) [1, 1, 1, 1, 1, 0, 1, 0, 0]), .inBlock 0, .code (cd P (4 : FuncId) [1, 1, 1, 1, 1, 1])], [], .run, CallKind.normal, none⟩
noncomputable def AL (ki y kn : Nat) (w j : Int) (rest : List AFrame) (O : T AObj) (N : Nat) (G : T (T AV)) : AM := ⟨⟨17, 18, (.node (.node .leaf (some (.int .i64 w)) (.node .leaf (some (.int .i64 j)) .leaf)) (some (.slg ki y 0 kn 0)) .leaf),
   [.code (cd P 17 [1, 0, 1, 0, 0]), .inLoop (cd P 17 [1, 0, 1, 0, 0]), .inBlock 0, .code (cd P 17 [1, 1])], [], .run, CallKind.normal, none⟩,
  rest,
  ⟨O, N, G⟩⟩

theorem q_ca (R : AV → Prop) (off : Nat) (len : Nat) (cap : Nat) (n : Int) (i : Int) (k : Int) (v : Int) (O : T AObj) (N : Nat) (G : T (T AV)) (K : AM → Prop) : Obl P 4 (fun v _ => R v) 0 K [.run 8, .know 28 true, .run 9, .op, .run 1, .hop (.bool false) O, .run 8, .op, .run 1, .hop (.int .i64 k) O, .run 2, .op, .run 1, .hop (.int .i64 v) O, .run 1] ((WL off len cap n i O N G)) = ((decide (i < (↑len : Int)) = true) ∧ ((0 : Int) ≤ i ∧ i < (↑len : Int)) ∧ (loadCellsA (⟨O, N, G⟩) (0) (0) (off + i.toNat * 3) (1) = (some [.bool false])) ∧ ((0 : Int) ≤ i ∧ i < (↑len : Int)) ∧ (loadCellsA (⟨O, N, G⟩) (0) (0) (off + i.toNat * 3 + 1) (1) = (some [.int .i64 k])) ∧ ((0 : Int) ≤ i ∧ i < (↑len : Int)) ∧ (loadCellsA (⟨O, N, G⟩) (0) (0) (off + i.toNat * 3 + 2) (1) = (some [.int .i64 v])) ∧ K (AM.mk (enF 10 [.ptr 2 0 0, .int .i64 k, .int .i64 v]) [(D1 off len cap n i k v)] ⟨O, N, G⟩)) := by kernel_rfl

theorem q_cg (R : AV → Prop) (off : Nat) (len : Nat) (cap : Nat) (n : Int) (i : Int) (k : Int) (v : Int) (O : T AObj) (N : Nat) (G : T (T AV)) (K : AM → Prop) : Obl P 4 (fun v _ => R v) 0 K [.run 8, .know 28 true, .run 9, .op, .run 1, .hop (.bool true) O, .run 9, .op, .run 1, .hop (.int .i64 k) O, .run 1] ((WL off len cap n i O N G)) = ((decide (i < (↑len : Int)) = true) ∧ ((0 : Int) ≤ i ∧ i < (↑len : Int)) ∧ (loadCellsA (⟨O, N, G⟩) (0) (0) (off + i.toNat * 3) (1) = (some [.bool true])) ∧ ((0 : Int) ≤ i ∧ i < (↑len : Int)) ∧ (loadCellsA (⟨O, N, G⟩) (0) (0) (off + i.toNat * 3 + 1) (1) = (some [.int .i64 k])) ∧ K (AM.mk (enF 8 [.ptr 2 0 0, .int .i64 k]) [(D2 off len cap n i k)] ⟨O, N, G⟩)) := by kernel_rfl

theorem q_p2 (R : AV → Prop) (off : Nat) (len : Nat) (cap : Nat) (n : Int) (i : Int) (k : Int) (v : Int) (w : Int) (O : T AObj) (N : Nat) (td : List AItem) (G : T (T AV)) (K : AM → Prop) : Obl P 4 (fun v _ => R v) 0 K [.run 7, .run 17, .hop (.int .i64 w) O, .run 7, .know 52 false, .run 9, .keep [1, 5, 6, 7]] ((AM.mk (RF 10 53 .leaf td) [(D1 off len cap n i k v)] ⟨O, N, G⟩)) = ((loadCellsA (⟨O, N, G⟩) (2) (0) (1) (1) = (some [.int .i64 w])) ∧ (decide (w > n) = false) ∧ K (WL off len cap n (IntKind.i64.wrap (i + (1 : Int))) O N G)) := by kernel_rfl

theorem q_g2 (R : AV → Prop) (off : Nat) (len : Nat) (cap : Nat) (n : Int) (i : Int) (k : Int) (v : Int) (x : Int) (is : Bool) (O : T AObj) (N : Nat) (td : List AItem) (G : T (T AV)) (K : AM → Prop) : Obl P 4 (fun v _ => R v) 0 K [.run 24, .keep [1, 5, 6, 7, 8, 9, 10, 11, 12]] ((AM.mk (RF 8 25 (.node (.node .leaf none (.node .leaf (some (.bool is)) .leaf)) none (.node (.node .leaf (some (.int .i64 x)) .leaf) none .leaf)) td) [(D2 off len cap n i k)] ⟨O, N, G⟩)) = (K (HL off len cap n i x (Int.negSucc (0)) (IntKind.i64.wrap (i - (1 : Int))) is (AV.nils (0) (0)) O N G)) := by kernel_rfl

theorem q_e1 (R : AV → Prop) (off : Nat) (len : Nat) (cap : Nat) (n : Int) (i : Int) (v : Int) (w : Int) (x : Int) (O : T AObj) (N : Nat) (G : T (T AV)) (_K : AM → Prop) : Obl P 4 (fun v _ => R v) 0 _K [.run 8, .know 28 false, .run 6, .run 17, .hop (.int .i64 w) O, .run 7, .know 158 true, .run 1, .callv [] (.bool true), .run 4, .done] ((WL off len cap n i O N G)) = ((decide (i < (↑len : Int)) = false) ∧ (loadCellsA (⟨O, N, G⟩) (2) (0) (1) (1) = (some [.int .i64 w])) ∧ (decide (w ≤ n) = true) ∧ (Goal P (0) 16 (fun x x_1 => x = AV.bool true) (startM P 16 [] G)) ∧ (R (.bool true))) := by kernel_rfl

theorem q_bc (R : AV → Prop) (off : Nat) (len : Nat) (cap : Nat) (n : Int) (i : Int) (k : Int) (v : Int) (w : Int) (x : Int) (pt : Int) (j : Int) (is : Bool) (O : T AObj) (N : Nat) (ot : AV) (G : T (T AV)) (K : AM → Prop) : Obl P 4 (fun v _ => R v) 0 K [.run 6, .know 67 true, .run 4, .know 70 true, .run 8, .op, .run 1, .hop (.int .i64 w) O, .run 2, .op, .run 1, .hop (.int .i64 k) O, .run 2, .know 84 false, .run 13, .op, .run 1, .hop (.int .i64 w) O, .run 2, .op, .run 1, .hop (.int .i64 k) O, .run 2, .know 104 true, .run 3, .op, .run 1, .hop (.int .i64 w) O, .run 1] ((HL off len cap n i x pt j is ot O N G)) = ((decide (j ≥ (0 : Int)) = true) ∧ (decide (pt < (0 : Int)) = true) ∧ ((0 : Int) ≤ j ∧ j < (↑len : Int)) ∧ (loadCellsA (⟨O, N, G⟩) (0) (0) (off + j.toNat * 3 + 1) (1) = (some [.int .i64 w])) ∧ ((0 : Int) ≤ i ∧ i < (↑len : Int)) ∧ (loadCellsA (⟨O, N, G⟩) (0) (0) (off + i.toNat * 3 + 1) (1) = (some [.int .i64 k])) ∧ ((w == k) = false) ∧ ((0 : Int) ≤ j ∧ j < (↑len : Int)) ∧ (loadCellsA (⟨O, N, G⟩) (0) (0) (off + j.toNat * 3 + 1) (1) = (some [.int .i64 w])) ∧ ((0 : Int) ≤ i ∧ i < (↑len : Int)) ∧ (loadCellsA (⟨O, N, G⟩) (0) (0) (off + i.toNat * 3 + 1) (1) = (some [.int .i64 k])) ∧ ((w != k) = true) ∧ ((0 : Int) ≤ j ∧ j < (↑len : Int)) ∧ (loadCellsA (⟨O, N, G⟩) (0) (0) (off + j.toNat * 3 + 1) (1) = (some [.int .i64 w])) ∧ K (AM.mk (enF 17 [ot, .int .i64 w]) [(D3 off len cap n i k x pt j is ot w)] ⟨O, N, G⟩)) := by kernel_rfl

theorem q_ba (R : AV → Prop) (off : Nat) (len : Nat) (cap : Nat) (n : Int) (i : Int) (k : Int) (v : Int) (x : Int) (pt : Int) (j : Int) (is : Bool) (O : T AObj) (N : Nat) (ot : AV) (G : T (T AV)) (K : AM → Prop) : Obl P 4 (fun v _ => R v) 0 K [.run 6, .know 67 true, .run 4, .know 70 true, .run 8, .op, .run 1, .hop (.int .i64 k) O, .run 2, .op, .run 1, .hop (.int .i64 k) O, .run 2, .know 84 true, .run 2, .op, .run 1, .hop (.bool false) O, .run 15, .keep [1, 5, 6, 7, 8, 9, 10, 11, 12]] ((HL off len cap n i x pt j is ot O N G)) = ((decide (j ≥ (0 : Int)) = true) ∧ (decide (pt < (0 : Int)) = true) ∧ ((0 : Int) ≤ j ∧ j < (↑len : Int)) ∧ (loadCellsA (⟨O, N, G⟩) (0) (0) (off + j.toNat * 3 + 1) (1) = (some [.int .i64 k])) ∧ ((0 : Int) ≤ i ∧ i < (↑len : Int)) ∧ (loadCellsA (⟨O, N, G⟩) (0) (0) (off + i.toNat * 3 + 1) (1) = (some [.int .i64 k])) ∧ ((k == k) = true) ∧ ((0 : Int) ≤ j ∧ j < (↑len : Int)) ∧ (loadCellsA (⟨O, N, G⟩) (0) (0) (off + j.toNat * 3) (1) = (some [.bool false])) ∧ K (HL off len cap n i x j (IntKind.i64.wrap (j - (1 : Int))) is ot O N G)) := by kernel_rfl

theorem q_bb (R : AV → Prop) (off : Nat) (len : Nat) (cap : Nat) (n : Int) (i : Int) (k : Int) (v : Int) (x : Int) (pt : Int) (j : Int) (is : Bool) (O : T AObj) (N : Nat) (ot : AV) (G : T (T AV)) (K : AM → Prop) : Obl P 4 (fun v _ => R v) 0 K [.run 6, .know 67 true, .run 4, .know 70 true, .run 8, .op, .run 1, .hop (.int .i64 k) O, .run 2, .op, .run 1, .hop (.int .i64 k) O, .run 2, .know 84 true, .run 2, .op, .run 1, .hop (.bool true) O, .run 8, .op, .run 1, .hop (.int .i64 k) O, .run 2, .op, .run 1, .hop (.int .i64 k) O, .run 2, .know 104 false, .run 19, .keep [1, 5, 6, 7, 8, 9, 10, 11, 12]] ((HL off len cap n i x pt j is ot O N G)) = ((decide (j ≥ (0 : Int)) = true) ∧ (decide (pt < (0 : Int)) = true) ∧ ((0 : Int) ≤ j ∧ j < (↑len : Int)) ∧ (loadCellsA (⟨O, N, G⟩) (0) (0) (off + j.toNat * 3 + 1) (1) = (some [.int .i64 k])) ∧ ((0 : Int) ≤ i ∧ i < (↑len : Int)) ∧ (loadCellsA (⟨O, N, G⟩) (0) (0) (off + i.toNat * 3 + 1) (1) = (some [.int .i64 k])) ∧ ((k == k) = true) ∧ ((0 : Int) ≤ j ∧ j < (↑len : Int)) ∧ (loadCellsA (⟨O, N, G⟩) (0) (0) (off + j.toNat * 3) (1) = (some [.bool true])) ∧ ((0 : Int) ≤ j ∧ j < (↑len : Int)) ∧ (loadCellsA (⟨O, N, G⟩) (0) (0) (off + j.toNat * 3 + 1) (1) = (some [.int .i64 k])) ∧ ((0 : Int) ≤ i ∧ i < (↑len : Int)) ∧ (loadCellsA (⟨O, N, G⟩) (0) (0) (off + i.toNat * 3 + 1) (1) = (some [.int .i64 k])) ∧ ((k != k) = false) ∧ K (HL off len cap n i x pt (IntKind.i64.wrap (j - (1 : Int))) is ot O N G)) := by kernel_rfl

theorem q_xt1 (R : AV → Prop) (off : Nat) (len : Nat) (cap : Nat) (n : Int) (i : Int) (v : Int) (x : Int) (pt : Int) (j : Int) (O : T AObj) (N : Nat) (ot : AV) (G : T (T AV)) (K : AM → Prop) : Obl P 4 (fun v _ => R v) 0 K [.run 6, .know 67 false, .run 13, .know 126 false, .run 3, .op, .run 1, .hop (.int .i64 x) O, .run 4, .know 136 false, .run 27, .keep [1, 5, 6, 7]] ((HL off len cap n i x pt j true ot O N G)) = ((decide (j ≥ (0 : Int)) = false) ∧ (decide (pt < (0 : Int)) = false) ∧ ((0 : Int) ≤ pt ∧ pt < (↑len : Int)) ∧ (loadCellsA (⟨O, N, G⟩) (0) (0) (off + pt.toNat * 3 + 2) (1) = (some [.int .i64 x])) ∧ ((x != x) = false) ∧ K (WL off len cap n (IntKind.i64.wrap (i + (1 : Int))) O N G)) := by kernel_rfl

theorem q_xt2 (R : AV → Prop) (off : Nat) (len : Nat) (cap : Nat) (n : Int) (i : Int) (v : Int) (x : Int) (pt : Int) (j : Int) (O : T AObj) (N : Nat) (ot : AV) (G : T (T AV)) (K : AM → Prop) : Obl P 4 (fun v _ => R v) 0 K [.run 6, .know 67 true, .run 4, .know 70 false, .run 9, .know 126 false, .run 3, .op, .run 1, .hop (.int .i64 x) O, .run 4, .know 136 false, .run 27, .keep [1, 5, 6, 7]] ((HL off len cap n i x pt j true ot O N G)) = ((decide (j ≥ (0 : Int)) = true) ∧ (decide (pt < (0 : Int)) = false) ∧ (decide (pt < (0 : Int)) = false) ∧ ((0 : Int) ≤ pt ∧ pt < (↑len : Int)) ∧ (loadCellsA (⟨O, N, G⟩) (0) (0) (off + pt.toNat * 3 + 2) (1) = (some [.int .i64 x])) ∧ ((x != x) = false) ∧ K (WL off len cap n (IntKind.i64.wrap (i + (1 : Int))) O N G)) := by kernel_rfl

theorem q_xf (R : AV → Prop) (off : Nat) (len : Nat) (cap : Nat) (n : Int) (i : Int) (v : Int) (pt : Int) (j : Int) (O : T AObj) (N : Nat) (ot : AV) (G : T (T AV)) (K : AM → Prop) : Obl P 4 (fun v _ => R v) 0 K [.run 6, .know 67 false, .run 32, .know 145 false, .run 18, .keep [1, 5, 6, 7]] ((HL off len cap n i 0 pt j false ot O N G)) = ((decide (j ≥ (0 : Int)) = false) ∧ (decide (pt ≥ (0 : Int)) = false) ∧ K (WL off len cap n (IntKind.i64.wrap (i + (1 : Int))) O N G)) := by kernel_rfl

theorem q_xn1 (R : AV → Prop) (off : Nat) (len : Nat) (cap : Nat) (n : Int) (i : Int) (v : Int) (pt : Int) (j : Int) (O : T AObj) (N : Nat) (G : T (T AV)) (K : AM → Prop) : Obl P 4 (fun v _ => R v) 0 K [.run 6, .know 67 false, .run 32, .know 145 true, .run 9, .know 153 false, .run 9, .keep [1, 5, 6, 7]] ((HL off len cap n i 0 pt j false (.nils 0 0) O N G)) = ((decide (j ≥ (0 : Int)) = false) ∧ (decide (pt ≥ (0 : Int)) = true) ∧ (decide (0 < n) = false) ∧ K (WL off len cap n (IntKind.i64.wrap (i + (1 : Int))) O N G)) := by kernel_rfl

theorem q_xn2 (R : AV → Prop) (off : Nat) (len : Nat) (cap : Nat) (n : Int) (i : Int) (v : Int) (pt : Int) (j : Int) (O : T AObj) (N : Nat) (G : T (T AV)) (K : AM → Prop) : Obl P 4 (fun v _ => R v) 0 K [.run 6, .know 67 true, .run 4, .know 70 false, .run 28, .know 145 true, .run 9, .know 153 false, .run 9, .keep [1, 5, 6, 7]] ((HL off len cap n i 0 pt j false (.nils 0 0) O N G)) = ((decide (j ≥ (0 : Int)) = true) ∧ (decide (pt < (0 : Int)) = false) ∧ (decide (pt ≥ (0 : Int)) = true) ∧ (decide (0 < n) = false) ∧ K (WL off len cap n (IntKind.i64.wrap (i + (1 : Int))) O N G)) := by kernel_rfl

theorem q_xs1 (R : AV → Prop) (off : Nat) (len : Nat) (cap : Nat) (n : Int) (i : Int) (v : Int) (pt : Int) (j : Int) (O : T AObj) (N : Nat) (ki : Nat) (y : Nat) (kn : Nat) (G : T (T AV)) (K : AM → Prop) : Obl P 4 (fun v _ => R v) 0 K [.run 6, .know 67 false, .run 32, .know 145 true, .run 9, .know 153 false, .run 9, .keep [1, 5, 6, 7]] ((HL off len cap n i 0 pt j false (.slg ki y 0 kn 0) O N G)) = ((decide (j ≥ (0 : Int)) = false) ∧ (decide (pt ≥ (0 : Int)) = true) ∧ (decide ((↑kn : Int) < n) = false) ∧ K (WL off len cap n (IntKind.i64.wrap (i + (1 : Int))) O N G)) := by kernel_rfl

theorem q_xs2 (R : AV → Prop) (off : Nat) (len : Nat) (cap : Nat) (n : Int) (i : Int) (v : Int) (pt : Int) (j : Int) (O : T AObj) (N : Nat) (ki : Nat) (y : Nat) (kn : Nat) (G : T (T AV)) (K : AM → Prop) : Obl P 4 (fun v _ => R v) 0 K [.run 6, .know 67 true, .run 4, .know 70 false, .run 28, .know 145 true, .run 9, .know 153 false, .run 9, .keep [1, 5, 6, 7]] ((HL off len cap n i 0 pt j false (.slg ki y 0 kn 0) O N G)) = ((decide (j ≥ (0 : Int)) = true) ∧ (decide (pt < (0 : Int)) = false) ∧ (decide (pt ≥ (0 : Int)) = true) ∧ (decide ((↑kn : Int) < n) = false) ∧ K (WL off len cap n (IntKind.i64.wrap (i + (1 : Int))) O N G)) := by kernel_rfl

theorem q_bt (R : AV → Prop) (off : Nat) (len : Nat) (cap : Nat) (n : Int) (i : Int) (k : Int) (v : Int) (w : Int) (x : Int) (pt : Int) (j : Int) (is : Bool) (O : T AObj) (N : Nat) (ot : AV) (td : List AItem) (G : T (T AV)) (K : AM → Prop) : Obl P 4 (fun v _ => R v) 0 K [.run 13, .keep [1, 5, 6, 7, 8, 9, 10, 11, 12]] ((AM.mk (RF 17 18 (.node .leaf none (.node (.node .leaf (some (.bool true)) .leaf) none .leaf)) td) [(D3 off len cap n i k x pt j is ot w)] ⟨O, N, G⟩)) = (K (HL off len cap n i x pt (IntKind.i64.wrap (j - (1 : Int))) is ot O N G)) := by kernel_rfl

theorem q_bn (R : AV → Prop) (off : Nat) (len : Nat) (cap : Nat) (n : Int) (i : Int) (k : Int) (v : Int) (w : Int) (x : Int) (pt : Int) (j : Int) (is : Bool) (O : T AObj) (O1 : T AObj) (O2 : T AObj) (N : Nat) (td : List AItem) (G : T (T AV)) (K : AM → Prop) : Obl P 4 (fun v _ => R v) 0 K [.run 9, .op, .run 1, .hop (.int .i64 w) O, .hopn (.slc N 0 0 1 1) O1 (N + 1), .hopn (.slg (N + 1) 0 0 1 0) O2 (N + 2), .run 9, .keep [1, 5, 6, 7, 8, 9, 10, 11, 12]] ((AM.mk (RF 17 18 (.node .leaf none (.node (.node .leaf (some (.bool false)) .leaf) none .leaf)) td) [(D3 off len cap n i k x pt j is (.nils 0 0) w)] ⟨O, N, G⟩)) = (((0 : Int) ≤ j ∧ j < (↑len : Int)) ∧ (loadCellsA (⟨O, N, G⟩) (0) (0) (off + j.toNat * 3 + 1) (1) = (some [.int .i64 w])) ∧ (buildSliceA P (⟨O, N, G⟩) (32) (1) ([(0, .int .i64 w)]) = (some (.slc N 0 0 1 1, ⟨O1, N + 1, G⟩))) ∧ (builtinE P (⟨O1, N + 1, G⟩) (Builtin.append) ((some 32)) ((some 32)) ([.nils 0 0, .slc N 0 0 1 1]) = (some (.val (.slg (N + 1) 0 0 1 0) ⟨O2, N + 2, G⟩))) ∧ K (HL off len cap n i x pt (IntKind.i64.wrap (j - (1 : Int))) is (AV.slg (N + 1) (0) (0) (1) (0)) O2 (N + 2) G)) := by kernel_rfl

theorem q_bs (R : AV → Prop) (off : Nat) (len : Nat) (cap : Nat) (n : Int) (i : Int) (k : Int) (v : Int) (w : Int) (x : Int) (pt : Int) (j : Int) (is : Bool) (O : T AObj) (O1 : T AObj) (O2 : T AObj) (N : Nat) (ki : Nat) (y : Nat) (kn : Nat) (td : List AItem) (G : T (T AV)) (K : AM → Prop) : Obl P 4 (fun v _ => R v) 0 K [.run 9, .op, .run 1, .hop (.int .i64 w) O, .hopn (.slc N 0 0 1 1) O1 (N + 1), .hop (.slg ki (y + 1) 0 (kn + 1) 0) O2, .run 9, .keep [1, 5, 6, 7, 8, 9, 10, 11, 12]] ((AM.mk (RF 17 18 (.node .leaf none (.node (.node .leaf (some (.bool false)) .leaf) none .leaf)) td) [(D3 off len cap n i k x pt j is (.slg ki y 0 kn 0) w)] ⟨O, N, G⟩)) = (((0 : Int) ≤ j ∧ j < (↑len : Int)) ∧ (loadCellsA (⟨O, N, G⟩) (0) (0) (off + j.toNat * 3 + 1) (1) = (some [.int .i64 w])) ∧ (buildSliceA P (⟨O, N, G⟩) (32) (1) ([(0, .int .i64 w)]) = (some (.slc N 0 0 1 1, ⟨O1, N + 1, G⟩))) ∧ (builtinE P (⟨O1, N + 1, G⟩) (Builtin.append) ((some 32)) ((some 32)) ([.slg ki y 0 kn 0, .slc N 0 0 1 1]) = (some (.val (.slg ki (y + 1) 0 (kn + 1) 0) ⟨O2, N + 1, G⟩))) ∧ K (HL off len cap n i x pt (IntKind.i64.wrap (j - (1 : Int))) is (AV.slg ki (y + 1) (0) (kn + 1) (0)) O2 (N + 1) G)) := by kernel_rfl

theorem q_hs (R : AV → AHeap → Prop) (keep : Nat) (f0 : FuncId) (rest : List AFrame) (w : Int) (O : T AObj) (N : Nat) (ki : Nat) (y : Nat) (kn : Nat) (G : T (T AV)) (K : AM → Prop) : Obl P f0 (fun v h => R v h) keep K [.run 11, .keep [0, 1, 5]] ((AM.mk (enF 17 [.slg ki y 0 kn 0, .int .i64 w]) rest ⟨O, N, G⟩)) = (K (AL ki y kn w (0) rest O N G)) := by kernel_rfl

theorem q_hn (R : AV → AHeap → Prop) (keep : Nat) (f0 : FuncId) (rest : List AFrame) (w : Int) (O : T AObj) (N : Nat) (G : T (T AV)) (K : AM → Prop) : Obl P f0 (fun v h => R v h) keep K [.run 26, .keep [4]] ((AM.mk (enF 17 [.nils 0 0, .int .i64 w]) rest ⟨O, N, G⟩)) = (K (AM.mk (RF 17 18 (.node .leaf none (.node (.node .leaf (some (.bool false)) .leaf) none .leaf)) [.code (cd P 17 [1, 0, 1, 0, 0, 1, 0, 0, 1, 0, 1])]) rest ⟨O, N, G⟩)) := by kernel_rfl

theorem q_hm (R : AV → AHeap → Prop) (keep : Nat) (f0 : FuncId) (rest : List AFrame) (w : Int) (x : Int) (j : Int) (O : T AObj) (N : Nat) (ki : Nat) (y : Nat) (kn : Nat) (G : T (T AV)) (K : AM → Prop) : Obl P f0 (fun v h => R v h) keep K [.run 8, .know 9 true, .run 8, .op, .hop (.int .i64 x) O, .run 3, .know 17 false, .run 9, .keep [0, 1, 5]] ((AL ki y kn w j rest O N G)) = ((decide (j < (↑kn : Int)) = true) ∧ ((0 : Int) ≤ j ∧ j < (↑kn : Int)) ∧ (loadCellsA (⟨O, N, G⟩) (ki) (y) (0 + j.toNat * 1) (1) = (some [.int .i64 x])) ∧ ((x == w) = false) ∧ K (AL ki y kn w (IntKind.i64.wrap (j + (1 : Int))) rest O N G)) := by kernel_rfl

theorem q_hy (R : AV → AHeap → Prop) (keep : Nat) (f0 : FuncId) (rest : List AFrame) (w : Int) (j : Int) (O : T AObj) (N : Nat) (ki : Nat) (y : Nat) (kn : Nat) (G : T (T AV)) (K : AM → Prop) : Obl P f0 (fun v h => R v h) keep K [.run 8, .know 9 true, .run 8, .op, .hop (.int .i64 w) O, .run 3, .know 17 true, .run 6, .keep [4]] ((AL ki y kn w j rest O N G)) = ((decide (j < (↑kn : Int)) = true) ∧ ((0 : Int) ≤ j ∧ j < (↑kn : Int)) ∧ (loadCellsA (⟨O, N, G⟩) (ki) (y) (0 + j.toNat * 1) (1) = (some [.int .i64 w])) ∧ ((w == w) = true) ∧ K (AM.mk (RF 17 18 (.node .leaf none (.node (.node .leaf (some (.bool true)) .leaf) none .leaf)) [.code (cd P 17 [1, 0, 1, 0, 0, 1, 0, 0, 1, 0, 1]), .inBlock 1, .code (cd P 17 [1, 0, 1, 0, 0, 1, 1]), .inLoop (cd P (17 : FuncId) [1, 0, 1, 0, 0]), .inBlock 0, .code (cd P (17 : FuncId) [1, 1])]) rest ⟨O, N, G⟩)) := by kernel_rfl

theorem q_he (R : AV → AHeap → Prop) (keep : Nat) (f0 : FuncId) (rest : List AFrame) (w : Int) (j : Int) (O : T AObj) (N : Nat) (ki : Nat) (y : Nat) (kn : Nat) (G : T (T AV)) (K : AM → Prop) : Obl P f0 (fun v h => R v h) keep K [.run 8, .know 9 false, .run 7, .keep [4]] ((AL ki y kn w j rest O N G)) = ((decide (j < (↑kn : Int)) = false) ∧ K (AM.mk (RF 17 18 (.node .leaf none (.node (.node .leaf (some (.bool false)) .leaf) none .leaf)) [.code (cd P 17 [1, 0, 1, 0, 0, 1, 0, 0, 1, 0, 1])]) rest ⟨O, N, G⟩)) := by kernel_rfl

abbrev R0 (v : AV) : Prop := v = AV.bool true
abbrev GQ (m : AM) : Prop := Goal P 0 4 (fun v _ => R0 v) m

theorem works_ok {G : T (T AV)} : Goal P 0 16 (fun x _ => x = AV.bool true) (startM P 16 [] G) := Goal.ofRun mix (n := 40000) (by kernel_rfl) fun _ => rfl

def arow (q : Act) : List AV := [.bool q.1, .int .i64 q.2.1, .int .i64 q.2.2]
def acell (act : Nat → Act) (j : Nat) : AV := (arow (act (j / 3))).getD (j % 3) undefA
def RoOk (O : T AObj) (act : Nat → Act) (off cap : Nat) : Prop := O.get 0 = some (.ro (.fn fun j => some (acell act (j - off))) off (off + cap * 3))

variable {O O' O0 : T AObj} {N N0 : Nat} {G : T (T AV)} {act : Nat → Act} {off len cap n m i : Nat} {L : List Ent}

theorem act_load (h : RoOk O act off cap) (hi : i < cap) (u : Nat) (hu : u < 3) (N : Nat) (G : T (T AV)) : loadCellsA ⟨O, N, G⟩ 0 0 (off + ((i : Nat) : Int).toNat * 3 + u) 1 = some [(arow (act i)).getD u undefA] := by
  refine ro_load h (by omega) (by omega) ?_
  show some (acell act (off + ((i : Nat) : Int).toNat * 3 + u - off)) = _
  rw [show off + ((i : Nat) : Int).toNat * 3 + u - off = i * 3 + u by omega]
  unfold acell
  rw [show (i * 3 + u) / 3 = i by omega, show (i * 3 + u) % 3 = u by omega]

theorem act_load0 (h : RoOk O act off cap) (hi : i < cap) (N : Nat) (G : T (T AV)) : loadCellsA ⟨O, N, G⟩ 0 0 (off + ((i : Nat) : Int).toNat * 3) 1 = some [.bool (act i).1] := act_load h hi 0 (by omega) N G

theorem has_loop {w : Int} {ri q : Nat} {zs : List Int} (g : GRow O ri (q + 1) (fun i => kAV (zs.getD i 0))) (hq : q + 1 = zs.length) (hb : zs.length < 1000000000) {keep : Nat} {f0 : FuncId} {Q : AV → AHeap → Prop} {rest : List AFrame}
    (hK : ∀ b td, (b = true ↔ w ∈ zs) → Goal P keep f0 Q (AM.mk (RF 17 18 (.node .leaf none (.node (.node .leaf (some (.bool b)) .leaf) none .leaf)) td) rest ⟨O, N, G⟩)) :
    ∀ (d i : Nat), i + d = q + 1 → (∀ m, m < i → zs.getD m 0 ≠ w) → Goal P keep f0 Q (AL ri q (q + 1) w ((i : Nat) : Int) rest O N G)
  | 0, i, hd, hi => (Obl.goal mix (K := Goal P keep f0 Q) (fun _ h => h) (cast (q_he Q keep f0 rest w (((i : Nat) : Int)) O N ri q (q + 1) G ((Goal P keep f0 Q))).symm ⟨decide_eq_false (by omega), hK false _ ⟨fun h => Bool.noConfusion h, fun h => by obtain ⟨m, hm, e⟩ := List.getElem_of_mem h; exact absurd (by rw [List.getD_eq_getElem?_getD, List.getElem?_eq_getElem hm]; exact e) (hi m (by omega))⟩⟩))
  | d + 1, i, hd, hi => by
    by_cases e : zs.getD i 0 = w
    · exact (Obl.goal mix (K := Goal P keep f0 Q) (fun _ h => h) (cast (q_hy Q keep f0 rest w (((i : Nat) : Int)) O N ri q (q + 1) G ((Goal P keep f0 Q))).symm ⟨decide_eq_true (by omega), ⟨by omega, by omega⟩, (grow_at g (by omega) N G).trans (by rw [e]; rfl), by simp, hK true _ ⟨fun _ => by rw [← e, List.getD_eq_getElem?_getD, List.getElem?_eq_getElem (by omega)]; exact List.getElem_mem _, fun _ => rfl⟩⟩))
    · have ww : IntKind.i64.wrap (((i : Nat) : Int) + (1 : Int)) = ((i + 1 : Nat) : Int) := by rw [IntKind.wrap_i64]; omega
      have ih := has_loop g hq hb hK d (i + 1) (by omega) fun m hm => by
        by_cases hmi : m = i
        · rw [hmi]; exact e
        · exact hi m (by omega)
      exact (Obl.goal mix (K := Goal P keep f0 Q) (fun _ h => h) (cast (q_hm Q keep f0 rest w (zs.getD i 0) (((i : Nat) : Int)) O N ri q (q + 1) G ((Goal P keep f0 Q))).symm ⟨decide_eq_true (by omega), ⟨by omega, by omega⟩, grow_at g (by omega) N G, beq_eq_false_iff_ne.2 e, by rw [ww]; exact ih⟩))

theorem has_ok {w : Int} {lo hi : Nat} {zs : List Int} {ot : AV} (hv : KV O lo hi zs ot) (hb : zs.length < 1000000000) {keep : Nat} {f0 : FuncId} {Q : AV → AHeap → Prop} {rest : List AFrame}
    (hK : ∀ b td, (b = true ↔ w ∈ zs) → Goal P keep f0 Q (AM.mk (RF 17 18 (.node .leaf none (.node (.node .leaf (some (.bool b)) .leaf) none .leaf)) td) rest ⟨O, N, G⟩)) :
    Goal P keep f0 Q (AM.mk (enF 17 [ot, .int .i64 w]) rest ⟨O, N, G⟩) := by
  rcases hv with ⟨rfl, rfl⟩ | ⟨ri, q, rfl, _, _, g3, g⟩
  · exact (Obl.goal mix (K := Goal P keep f0 Q) (fun _ h => h) (cast (q_hn Q keep f0 rest w O N G ((Goal P keep f0 Q))).symm (hK false _ ⟨fun h => Bool.noConfusion h, fun h => absurd h List.not_mem_nil⟩)))
  · exact (Obl.goal mix (K := Goal P keep f0 Q) (fun _ h => h) (cast (q_hs Q keep f0 rest w O N ri q (q + 1) G ((Goal P keep f0 Q))).symm (has_loop g g3 hb hK (q + 1) 0 (by omega) fun m hm => absurd hm (Nat.not_lt_zero m))))

/-- The way back through what was done. -/
theorem scan (ro : RoOk O0 act off cap) (hN0 : 0 < N0) (hi : i < len) (hl : len ≤ cap) (h1 : i < 150) {x : Int} {is : Bool}
    (hT : is = true → ∃ p, p < i ∧ act p = (false, (act i).2.1, x) ∧ ∀ m, p < m → m < i → ¬ puts act m (act i).2.1)
    (hF : is = false → x = 0 ∧ ∀ p, p < i → puts act p (act i).2.1 → (∀ m, p < m → m < i → ¬ puts act m (act i).2.1) → ∃ D : List Int, D.Nodup ∧ n ≤ D.length ∧ ∀ d ∈ D, d ≠ (act i).2.1 ∧ ∃ m, p < m ∧ m < i ∧ (act m).2.1 = d)
    (hK : ∀ O N, N0 ≤ N → (∀ j, j < N0 → O.get j = O0.get j) → GQ (WL off len cap ((n : Nat) : Int) (IntKind.i64.wrap (((i : Nat) : Int) + (1 : Int))) O N G)) :
    ∀ (d : Nat) (jv : Int) (O : T AObj) (N : Nat) (ot : AV) (zs : List Int), jv = ((d : Nat) : Int) - 1 → d ≤ i → N0 ≤ N → (∀ j, j < N0 → O.get j = O0.get j) → KV O N0 N zs ot → zs.length + d ≤ i →
      (∀ m, d ≤ m → m < i → (act m).2.1 ≠ (act i).2.1 → (act m).2.1 ∈ zs) → (∀ m, d ≤ m → m < i → ¬ puts act m (act i).2.1) → GQ (HL off len cap ((n : Nat) : Int) ((i : Nat) : Int) x (Int.negSucc 0) jv is ot O N G)
  | 0, jv, O, N, ot, zs, hj, hd, hN, hO, hv, hz, hc, hp => by
    cases is with
    | true =>
      obtain ⟨p, p1, p2, p3⟩ := hT rfl
      exact absurd ⟨by rw [p2], by rw [p2]⟩ (hp p (Nat.zero_le _) p1)
    | false =>
      obtain ⟨rfl, _⟩ := hF rfl
      exact (Obl.goal mix (K := GQ) (fun _ h => h) (cast (q_xf R0 off len cap (((n : Nat) : Int)) (((i : Nat) : Int)) 0 ((Int.negSucc 0)) jv O N ot G GQ).symm ⟨decide_eq_false (by omega), decide_eq_false (by decide), hK O N hN hO⟩))
  | d + 1, jv, O, N, ot, zs, hj, hd, hN, hO, hv, hz, hc, hp => by
    obtain rfl : jv = ((d : Nat) : Int) := by omega
    have ro' : RoOk O act off cap := (hO 0 hN0).trans ro
    have wd : IntKind.i64.wrap (((d : Nat) : Int) - (1 : Int)) = ((d : Nat) : Int) - 1 := by rw [IntKind.wrap_i64]; omega
    have li := act_load ro' (show i < cap by omega) 1 (by omega) N G
    have ld := act_load ro' (show d < cap by omega) 1 (by omega) N G
    have l0 := act_load0 ro' (show d < cap by omega) N G
    have bd : (0 : Int) ≤ ((d : Nat) : Int) ∧ ((d : Nat) : Int) < ((len : Nat) : Int) := ⟨by omega, by omega⟩
    have bi : (0 : Int) ≤ ((i : Nat) : Int) ∧ ((i : Nat) : Int) < ((len : Nat) : Int) := ⟨by omega, by omega⟩
    by_cases hk : (act d).2.1 = (act i).2.1
    · have ld' : loadCellsA ⟨O, N, G⟩ 0 0 (off + ((d : Nat) : Int).toNat * 3 + 1) 1 = some [.int .i64 (act i).2.1] := by rw [ld]; show some [AV.int .i64 (act d).2.1] = _; rw [hk]
      cases hg : (act d).1 with
      | true =>
        refine (Obl.goal mix (K := GQ) (fun _ h => h) (cast (q_bb R0 off len cap (((n : Nat) : Int)) (((i : Nat) : Int)) ((act i).2.1) 0 x ((Int.negSucc 0)) (((d : Nat) : Int)) is O N ot G GQ).symm ⟨decide_eq_true (by omega), decide_eq_true (by decide), bd, ld', bi, li, by simp, bd, by rw [l0, hg], bd, ld', bi, li, by simp, ?_⟩))
        refine scan ro hN0 hi hl h1 hT hF hK d _ O N ot zs wd (by omega) hN hO hv (by omega) (fun m m1 m2 m3 => ?_) fun m m1 m2 => ?_
        · by_cases hmd : m = d
          · subst hmd; exact absurd hk m3
          · exact hc m (by omega) m2 m3
        · by_cases hmd : m = d
          · subst hmd; intro hh; rw [hh.1] at hg; cases hg
          · exact hp m (by omega) m2
      | false =>
        refine (Obl.goal mix (K := GQ) (fun _ h => h) (cast (q_ba R0 off len cap (((n : Nat) : Int)) (((i : Nat) : Int)) ((act i).2.1) 0 x ((Int.negSucc 0)) (((d : Nat) : Int)) is O N ot G GQ).symm ⟨decide_eq_true (by omega), decide_eq_true (by decide), bd, ld', bi, li, by simp, bd, by rw [l0, hg], ?_⟩))
        have hpd : puts act d (act i).2.1 := ⟨hg, hk⟩
        have hlast : ∀ m, d < m → m < i → ¬ puts act m (act i).2.1 := fun m m1 m2 => hp m (by omega) m2
        have dpt : decide (((d : Nat) : Int) < (0 : Int)) = false := decide_eq_false (by omega)
        have dpg : decide (((d : Nat) : Int) ≥ (0 : Int)) = true := decide_eq_true (by omega)
        cases is with
        | true =>
          obtain ⟨p, p1, p2, p3⟩ := hT rfl
          obtain rfl : p = d := by
            rcases Nat.lt_trichotomy p d with h | h | h
            · exact absurd hpd (p3 d h (by omega))
            · exact h
            · exact absurd ⟨by rw [p2], by rw [p2]⟩ (hlast p h p1)
          have lx : loadCellsA ⟨O, N, G⟩ 0 0 (off + ((p : Nat) : Int).toNat * 3 + 2) 1 = some [.int .i64 x] := by
            rw [act_load ro' (show p < cap by omega) 2 (by omega) N G, p2]
            rfl
          by_cases h0 : p = 0
          · exact (Obl.goal mix (K := GQ) (fun _ h => h) (cast (q_xt1 R0 off len cap (((n : Nat) : Int)) (((i : Nat) : Int)) 0 x (((p : Nat) : Int)) (IntKind.i64.wrap (((p : Nat) : Int) - (1 : Int))) O N ot G GQ).symm ⟨decide_eq_false (by rw [wd]; omega), dpt, bd, lx, by simp, hK O N hN hO⟩))
          · exact (Obl.goal mix (K := GQ) (fun _ h => h) (cast (q_xt2 R0 off len cap (((n : Nat) : Int)) (((i : Nat) : Int)) 0 x (((p : Nat) : Int)) (IntKind.i64.wrap (((p : Nat) : Int) - (1 : Int))) O N ot G GQ).symm ⟨decide_eq_true (by rw [wd]; omega), dpt, dpt, bd, lx, by simp, hK O N hN hO⟩))
        | false =>
          obtain ⟨rfl, hD⟩ := hF rfl
          obtain ⟨D, d1, d2, d3⟩ := hD d (by omega) hpd hlast
          have hle : n ≤ zs.length := Nat.le_trans d2 (nodup_le D zs d1 fun y hy => by
            obtain ⟨e1, m, m1, m2, m3⟩ := d3 y hy
            have := hc m (by omega) m2 (by rw [m3]; exact e1)
            rwa [m3] at this)
          rcases hv with ⟨rfl, rfl⟩ | ⟨ri, q, rfl, _, _, g3, g⟩
          · have hn0 : decide ((0 : Int) < ((n : Nat) : Int)) = false := decide_eq_false (by have : n ≤ 0 := hle; omega)
            by_cases h0 : d = 0
            · exact (Obl.goal mix (K := GQ) (fun _ h => h) (cast (q_xn1 R0 off len cap (((n : Nat) : Int)) (((i : Nat) : Int)) 0 (((d : Nat) : Int)) (IntKind.i64.wrap (((d : Nat) : Int) - (1 : Int))) O N G GQ).symm ⟨decide_eq_false (by rw [wd]; omega), dpg, hn0, hK O N hN hO⟩))
            · exact (Obl.goal mix (K := GQ) (fun _ h => h) (cast (q_xn2 R0 off len cap (((n : Nat) : Int)) (((i : Nat) : Int)) 0 (((d : Nat) : Int)) (IntKind.i64.wrap (((d : Nat) : Int) - (1 : Int))) O N G GQ).symm ⟨decide_eq_true (by rw [wd]; omega), dpt, dpg, hn0, hK O N hN hO⟩))
          · have hn0 : decide (((q + 1 : Nat) : Int) < ((n : Nat) : Int)) = false := decide_eq_false (by omega)
            by_cases h0 : d = 0
            · exact (Obl.goal mix (K := GQ) (fun _ h => h) (cast (q_xs1 R0 off len cap (((n : Nat) : Int)) (((i : Nat) : Int)) 0 (((d : Nat) : Int)) (IntKind.i64.wrap (((d : Nat) : Int) - (1 : Int))) O N ri q (q + 1) G GQ).symm ⟨decide_eq_false (by rw [wd]; omega), dpg, hn0, hK O N hN hO⟩))
            · exact (Obl.goal mix (K := GQ) (fun _ h => h) (cast (q_xs2 R0 off len cap (((n : Nat) : Int)) (((i : Nat) : Int)) 0 (((d : Nat) : Int)) (IntKind.i64.wrap (((d : Nat) : Int) - (1 : Int))) O N ri q (q + 1) G GQ).symm ⟨decide_eq_true (by rw [wd]; omega), dpt, dpg, hn0, hK O N hN hO⟩))
    · have hkb : ((act d).2.1 == (act i).2.1) = false := beq_eq_false_iff_ne.2 hk
      have hkn : ((act d).2.1 != (act i).2.1) = true := by rw [bne, hkb]; rfl
      refine (Obl.goal mix (K := GQ) (fun _ h => h) (cast (q_bc R0 off len cap (((n : Nat) : Int)) (((i : Nat) : Int)) ((act i).2.1) 0 ((act d).2.1) x ((Int.negSucc 0)) (((d : Nat) : Int)) is O N ot G GQ).symm ⟨decide_eq_true (by omega), decide_eq_true (by decide), bd, ld, bi, li, hkb, bd, ld, bi, li, hkn, bd, ld, ?_⟩))
      refine has_ok hv (by omega) fun bb td hb => ?_
      have hp' : ∀ m, d ≤ m → m < i → ¬ puts act m (act i).2.1 := fun m m1 m2 => by
        by_cases hmd : m = d
        · subst hmd; exact fun hh => hk hh.2
        · exact hp m (by omega) m2
      cases bb with
      | true =>
        have hin := hb.1 rfl
        refine (Obl.goal mix (K := GQ) (fun _ h => h) (cast (q_bt R0 off len cap (((n : Nat) : Int)) (((i : Nat) : Int)) ((act i).2.1) 0 ((act d).2.1) x ((Int.negSucc 0)) (((d : Nat) : Int)) is O N ot td G GQ).symm ?_))
        exact scan ro hN0 hi hl h1 hT hF hK d _ O N ot zs wd (by omega) hN hO hv (by omega) (fun m m1 m2 m3 => by
          by_cases hmd : m = d
          · subst hmd; exact hin
          · exact hc m (by omega) m2 m3) hp'
      | false =>
        obtain ⟨O1, e1, r1, f1⟩ := lit_ok O N G (act d).2.1
        have hc' : ∀ m, d ≤ m → m < i → (act m).2.1 ≠ (act i).2.1 → (act m).2.1 ∈ zs ++ [(act d).2.1] := fun m m1 m2 m3 => by
          by_cases hmd : m = d
          · subst hmd; simp
          · exact List.mem_append_left _ (hc m (by omega) m2 m3)
        rcases hv with ⟨rfl, rfl⟩ | ⟨ri, q, rfl, g1, g2, g3, g⟩
        · obtain ⟨O2, e2, r2, gr2, f2⟩ := app_nils (M := N + 1) (G := G) r1 (Nat.lt_succ_self _) rfl
          have hO2 : ∀ j, j < N0 → O2.get j = O0.get j := fun j hj => (f2 j (by omega)).trans ((f1 j (by omega)).trans (hO j hj))
          refine (Obl.goal mix (K := GQ) (fun _ h => h) (cast (q_bn R0 off len cap (((n : Nat) : Int)) (((i : Nat) : Int)) ((act i).2.1) 0 ((act d).2.1) x ((Int.negSucc 0)) (((d : Nat) : Int)) is O O1 O2 N td G GQ).symm ⟨bd, ld, e1, e2, ?_⟩))
          exact scan ro hN0 hi hl h1 hT hF hK d _ O2 (N + 2) _ [(act d).2.1] wd (by omega) (by omega) hO2 (.inr ⟨N + 1, 0, rfl, by omega, by omega, rfl, gr2.to fun k hk => by (obtain rfl : k = 0 := (by omega)); rfl⟩) (by show 1 + d ≤ i; omega) hc' hp'
        · obtain ⟨O2, e2, gr2, f2⟩ := app_slg (M := N + 1) (G := G) (t := 0) r1 (g.same (f1 ri (by omega))) (by omega) (Nat.zero_le _) (by omega) rfl
          have hO2 : ∀ j, j < N0 → O2.get j = O0.get j := fun j hj => (f2 j (by omega)).trans ((f1 j (by omega)).trans (hO j hj))
          refine (Obl.goal mix (K := GQ) (fun _ h => h) (cast (q_bs R0 off len cap (((n : Nat) : Int)) (((i : Nat) : Int)) ((act i).2.1) 0 ((act d).2.1) x ((Int.negSucc 0)) (((d : Nat) : Int)) is O O1 O2 N ri q (q + 1) td G GQ).symm ⟨bd, ld, e1, e2, ?_⟩))
          refine scan ro hN0 hi hl h1 hT hF hK d _ O2 (N + 1) _ (zs ++ [(act d).2.1]) wd (by omega) (by omega) hO2 (.inr ⟨ri, q + 1, rfl, g1, by omega, by rw [List.length_append, ← g3]; rfl, gr2.to fun k hk => ?_⟩) (by rw [List.length_append]; show zs.length + 1 + d ≤ i; omega) hc' hp'
          by_cases hkq : k = q + 1
          · subst hkq
            rw [if_pos rfl, List.getD_eq_getElem?_getD, List.getElem?_append_right (by omega), ← g3, Nat.sub_self]
            rfl
          · rw [if_neg hkq, List.getD_eq_getElem?_getD, List.getD_eq_getElem?_getD, List.getElem?_append_left (by omega)]

/-- What is so at the loop's head. -/
structure InvL (O : T AObj) (N : Nat) (act : Nat → Act) (off cap n i : Nat) (L : List Ent) : Prop where
  ro : RoOk O act off cap
  a : LR O 2 1 n L
  hN : 3 ≤ N
  ia : ∀ x ∈ L, 3 ≤ x.1 ∧ x.1 < N
  i1 : I1 act i (L.map (·.2))
  i2 : I2 act n i (L.map (·.2))

theorem InvL.nodup (h : InvL O N act off cap n i L) : ((L.map (·.2)).map (·.1)).Nodup := by
  rw [List.map_map]
  exact h.a.2.2.2.2.2.2.2.1

theorem roundL (h : InvL O N act off cap n i L) (hi : i < len) (hl : len ≤ cap) (h1 : i < 150) (hn : n < 1000000000)
    (hK : ∀ O' N' L', InvL O' N' act off cap n (i + 1) L' → GQ (WL off len cap ((n : Nat) : Int) ((i + 1 : Nat) : Int) O' N' G)) : GQ (WL off len cap ((n : Nat) : Int) ((i : Nat) : Int) O N G) := by
  have hnd := h.nodup
  obtain ⟨ro, ha, hN, ia, i1, i2⟩ := h
  have hlen : (L.map (·.2)).length ≤ n := by rw [List.length_map]; exact ha.2.2.2.2.2.2.2.2.2
  have w : IntKind.i64.wrap (((i : Nat) : Int) + (1 : Int)) = ((i + 1 : Nat) : Int) := by rw [IntKind.wrap_i64]; omega
  have bi : (0 : Int) ≤ ((i : Nat) : Int) ∧ ((i : Nat) : Int) < ((len : Nat) : Int) := ⟨by omega, by omega⟩
  have l0 := act_load0 ro (show i < cap by omega) N G
  have l1 := act_load ro (show i < cap by omega) 1 (by omega) N G
  cases hg : (act i).1 with
  | false =>
    have he : act i = (false, (act i).2.1, (act i).2.2) := Prod.ext hg rfl
    refine (Obl.goal mix (K := GQ) (fun _ h => h) (cast (q_ca R0 off len cap (((n : Nat) : Int)) (((i : Nat) : Int)) ((act i).2.1) ((act i).2.2) O N G GQ).symm ⟨decide_eq_true (by omega), bi, by rw [l0, hg], bi, l1, bi, act_load ro (show i < cap by omega) 2 (by omega) N G, ?_⟩))
    refine put_ok ha (by omega) (by omega) (fun x hx => (ia x hx).2) hn fun O1 N1 L' td1 ha1 hN1 ia1 pa1 fr1 => ?_
    have hl1 := ha1.2.2.2.2.2.2.2.2.2
    refine (Obl.goal mix (K := GQ) (fun _ h => h) (cast (q_p2 R0 off len cap (((n : Nat) : Int)) (((i : Nat) : Int)) ((act i).2.1) ((act i).2.2) (((L'.length : Nat) : Int)) O1 N1 td1 G GQ).symm ⟨ha1.2.2.1.load _ _, decide_eq_false (by omega), ?_⟩))
    rw [w]
    refine hK O1 N1 L' ⟨(fr1 0 (by omega) (by omega) (by omega) (fun y hy => by have := (ia y hy).1; omega)).trans ro, ha1, by omega, fun x hx => ?_, ?_, ?_⟩
    · obtain ⟨p, q⟩ := ia1 x hx
      rcases q with q | ⟨y, hy, q⟩
      · exact ⟨by omega, p⟩
      · exact ⟨by rw [← q]; exact (ia y hy).1, p⟩
    · rw [pa1]; exact i1.put he hlen
    · rw [pa1]; exact i2.put he hlen hnd
  | true =>
    refine (Obl.goal mix (K := GQ) (fun _ h => h) (cast (q_cg R0 off len cap (((n : Nat) : Int)) (((i : Nat) : Int)) ((act i).2.1) 0 O N G GQ).symm ⟨decide_eq_true (by omega), bi, by rw [l0, hg], bi, l1, ?_⟩))
    have ww : IntKind.i64.wrap (((i : Nat) : Int) - (1 : Int)) = ((i : Nat) : Int) - 1 := by rw [IntKind.wrap_i64]; omega
    have go : ∀ (is : Bool) (x : Int) (O' : T AObj) (L' : List Ent) (td : List AItem), RoOk O' act off cap → LR O' 2 1 n L' → (∀ y ∈ L', 3 ≤ y.1 ∧ y.1 < N) → L'.map (·.2) = getP (act i).2.1 (L.map (·.2)) →
        (is = true → (((act i).2.1, x) : Int × Int) ∈ L.map (·.2)) → (is = false → x = 0 ∧ ∀ q ∈ L.map (·.2), q.1 ≠ (act i).2.1) →
        GQ (AM.mk (RF 8 25 (.node (.node .leaf none (.node .leaf (some (.bool is)) .leaf)) none (.node (.node .leaf (some (.int .i64 x)) .leaf) none .leaf)) td) [(D2 off len cap ((n : Nat) : Int) ((i : Nat) : Int) (act i).2.1)] ⟨O', N, G⟩) := fun is x O' L' td ro' ha' ia' heq hT hF => by
      refine (Obl.goal mix (K := GQ) (fun _ h => h) (cast (q_g2 R0 off len cap (((n : Nat) : Int)) (((i : Nat) : Int)) ((act i).2.1) 0 x is (O') N td G GQ).symm ?_))
      refine scan (O0 := O') (N0 := N) ro' (by omega) hi hl h1 (fun e => ?_) (fun e => ⟨(hF e).1, fun p p1 p2 p3 => ?_⟩) (fun O2 N2 hN2 hO2 => ?_) i _ O' N _ [] ww (Nat.le_refl _) (Nat.le_refl _) (fun _ _ => rfl) (.inl ⟨rfl, rfl⟩) (by show 0 + i ≤ i; omega) (fun m m1 m2 => absurd m2 (by omega)) (fun m m1 m2 => absurd m2 (by omega))
      · exact i1 _ (hT e)
      · have hi2 := i2 p p1 p2.1 (by rw [p2.2]; exact p3)
        rw [p2.2] at hi2
        rcases hi2 with ⟨U, v0, W, hU, _⟩ | hD
        · exact absurd rfl ((hF e).2 ((act i).2.1, v0) (by rw [hU]; simp))
        · exact hD
      · rw [w]
        refine hK O2 N2 L' ⟨(hO2 0 (by omega)).trans ro', ha'.same fun j hj => ?_, by omega, fun y hy => ⟨(ia' y hy).1, by have := (ia' y hy).2; omega⟩, ?_, ?_⟩
        · rcases hj with rfl | rfl | ⟨y, hy, rfl⟩
          · exact hO2 _ (by omega)
          · exact hO2 _ (by omega)
          · exact hO2 _ (ia' y hy).2
        · rw [heq]; exact i1.get hg
        · rw [heq]; exact i2.get hg rfl hnd
    refine get_ok ha (fun hk td => ?_) fun p u ws O' td hL hpk ha' fr' => ?_
    · have hq : ∀ q ∈ L.map (·.2), q.1 ≠ (act i).2.1 := fun q hq => by obtain ⟨y, hy, rfl⟩ := List.mem_map.1 hq; exact hk y hy
      exact go false 0 O L td ro ha ia (getP_miss hq).symm (fun e => by cases e) fun _ => ⟨rfl, hq⟩
    · subst hL
      refine go true p.2.2 O' _ td ((fr' 0 (by omega) (fun y hy => by have := (ia y hy).1; omega)).trans ro) ha' (fun y hy => ia y ?_) ?_ (fun _ => ?_) fun e => by cases e
      · rcases List.mem_cons.1 hy with rfl | hy
        · simp
        · rcases List.mem_append.1 hy with b | b
          · exact List.mem_append_left _ b
          · exact List.mem_append_right _ (List.mem_cons_of_mem _ b)
      · have em : (u ++ p :: ws).map (·.2) = u.map (·.2) ++ p.2 :: ws.map (·.2) := by rw [List.map_append, List.map_cons]
        rw [em] at hnd ⊢
        rw [getP_hit hpk hnd, List.map_cons, List.map_append]
      · rw [← hpk, List.map_append, List.map_cons]
        simp

theorem loopL (hl : len ≤ cap) (h150 : len ≤ 150) (hn : n < 1000000000) : ∀ (d i : Nat) (O : T AObj) (N : Nat) (L : List Ent), i + d = len → InvL O N act off cap n i L → GQ (WL off len cap ((n : Nat) : Int) ((i : Nat) : Int) O N G)
  | 0, i, O, N, L, hd, h => by
    have hl1 := h.a.2.2.2.2.2.2.2.2.2
    exact (Obl.goal mix (K := GQ) (fun _ h => h) (cast (q_e1 R0 off len cap (((n : Nat) : Int)) (((i : Nat) : Int)) 0 (((L.length : Nat) : Int)) 0 O N G GQ).symm ⟨decide_eq_false (by omega), h.a.2.2.1.load _ _, decide_eq_true (by omega), works_ok, rfl⟩))
  | d + 1, i, O, N, L, hd, h => roundL h (by omega) hl (by omega) hn fun O' N' L' h' => loopL hl h150 hn d (i + 1) O' N' L' (by omega) h'

end Go.Proofs.Ytcdpmiebmhjmpaa.lr
