/- Sessions: how many live, and the ones that are over deleted, of a list of any length; a login. -/
import Derived.Test.YtcdgbadnnodbeaaDoorSessA
set_option maxRecDepth 100000
set_option linter.unusedVariables false
namespace Go.Proofs.YtcdgbadnnodbeaaDoor.shaW
open Go Ev

def sc (c : Nat → Int) (s : Int) : List AV := [.int .u8 (c 0), .int .u8 (c 1), .int .u8 (c 2), .int .u8 (c 3), .int .u8 (c 4), .int .u8 (c 5), .int .u8 (c 6), .int .u8 (c 7), .int .u8 (c 8), .int .u8 (c 9), .int .u8 (c 10), .int .u8 (c 11), .int .u8 (c 12), .int .u8 (c 13), .int .u8 (c 14), .int .u8 (c 15), .int .u8 (c 16), .int .u8 (c 17), .int .u8 (c 18), .int .u8 (c 19), .int .u8 (c 20), .int .u8 (c 21), .int .u8 (c 22), .int .u8 (c 23), .int .u8 (c 24), .int .u8 (c 25), .int .u8 (c 26), .int .u8 (c 27), .int .u8 (c 28), .int .u8 (c 29), .int .u8 (c 30), .int .u8 (c 31), .int .u8 (c 32), .int .u8 (c 33), .int .u8 (c 34), .int .u8 (c 35), .int .u8 (c 36), .int .u8 (c 37), .int .u8 (c 38), .int .u8 (c 39), .int .u8 (c 40), .int .u8 (c 41), .int .u8 (c 42), .int .u8 (c 43), .int .u8 (c 44), .int .u8 (c 45), .int .u8 (c 46), .int .u8 (c 47), .int .u8 (c 48), .int .u8 (c 49), .int .u8 (c 50), .int .u8 (c 51), .int .u8 (c 52), .int .u8 (c 53), .int .u8 (c 54), .int .u8 (c 55), .int .u8 (c 56), .int .u8 (c 57), .int .u8 (c 58), .int .u8 (c 59), .int .u8 (c 60), .int .u8 (c 61), .int .u8 (c 62), .int .u8 (c 63), .int .u64 s]
def rc (cell : Nat → AV) (o : Nat) : List AV := [cell o, cell (o + 1), cell (o + 2), cell (o + 3), cell (o + 4), cell (o + 5), cell (o + 6), cell (o + 7), cell (o + 8), cell (o + 9), cell (o + 10), cell (o + 11), cell (o + 12), cell (o + 13), cell (o + 14), cell (o + 15), cell (o + 16), cell (o + 17), cell (o + 18), cell (o + 19), cell (o + 20), cell (o + 21), cell (o + 22), cell (o + 23), cell (o + 24), cell (o + 25), cell (o + 26), cell (o + 27), cell (o + 28), cell (o + 29), cell (o + 30), cell (o + 31), cell (o + 32), cell (o + 33), cell (o + 34), cell (o + 35), cell (o + 36), cell (o + 37), cell (o + 38), cell (o + 39), cell (o + 40), cell (o + 41), cell (o + 42), cell (o + 43), cell (o + 44), cell (o + 45), cell (o + 46), cell (o + 47), cell (o + 48), cell (o + 49), cell (o + 50), cell (o + 51), cell (o + 52), cell (o + 53), cell (o + 54), cell (o + 55), cell (o + 56), cell (o + 57), cell (o + 58), cell (o + 59), cell (o + 60), cell (o + 61), cell (o + 62), cell (o + 63), cell (o + 64)]

noncomputable def H1 (secret : List UInt8) (ttl slots logins : Int) (G : T (T AV)) : AHeap := ⟨(.node .leaf (some (.cells (.node (.node (.node .leaf (some (.int .u64 logins)) .leaf) (some (.int .u64 ttl)) .leaf) (some (.str secret)) (.node (.node .leaf (some (.nils 0 0)) .leaf) (some (.int .i64 slots)) .leaf)) 5 36 0 0 1 0 false .leaf)) .leaf), 1, G⟩
noncomputable def H2 (secret : List UInt8) (ttl slots logins : Int) (cell : Nat → AV) (n z : Nat) (G : T (T AV)) : AHeap := ⟨(.node (.node .leaf (some (.cells (.fn fun c => some (cell c)) z 42 0 0 1 0 false .leaf)) .leaf) (some (.cells (.node (.node (.node .leaf (some (.int .u64 logins)) .leaf) (some (.int .u64 ttl)) .leaf) (some (.str secret)) (.node (.node .leaf (some (.slg 1 0 0 n 0)) .leaf) (some (.int .i64 slots)) .leaf)) 5 36 0 0 1 0 false .leaf)) .leaf), 2, G⟩
noncomputable def H4 (secret : List UInt8) (ttl slots logins now : Int) (cell : Nat → AV) (n z : Nat) (G : T (T AV)) : AHeap := ⟨(.node (.node (.node .leaf (some (.cells (.node .leaf (some (.int .u64 now)) .leaf) 1 26 0 0 1 0 false .leaf)) .leaf) (some (.cells (.fn fun c => some (cell c)) z 42 0 0 1 0 false .leaf)) .leaf) (some (.cells (.node (.node (.node .leaf (some (.int .u64 logins)) .leaf) (some (.int .u64 ttl)) .leaf) (some (.str secret)) (.node (.node .leaf (some (.slg 1 0 0 n 0)) .leaf) (some (.int .i64 slots)) .leaf)) 5 36 0 0 1 0 false .leaf)) (.node .leaf (some (.cells (.node .leaf (some (.ptr 0 0 0)) .leaf) 1 24 0 0 1 0 false .leaf)) .leaf)), 4, G⟩

noncomputable def LV (secret : List UInt8) (ttl slots logins now i u : Int) (cell : Nat → AV) (n z : Nat) (G : T (T AV)) : AM := ⟨⟨6, 31, (.node (.node (.node .leaf none (.node (.node .leaf (some (.int .i64 u)) .leaf) none .leaf)) none (.node (.node (.node .leaf (some (.slg 1 0 0 n 0)) .leaf) none .leaf) (some (.fn (Fn.func (18 : Nat)) [] [.ptr 2 0 0, .ptr 3 0 0])) .leaf)) none (.node .leaf none (.node (.node (.node .leaf (some (.int .i64 (↑n : Int))) .leaf) none .leaf) (some (.int .i64 i)) .leaf))),
   [.code (cd P (6 : Nat) [(1 : Nat), (1 : Nat), (1 : Nat), (0 : Nat), (1 : Nat), (0 : Nat), (0 : Nat)]), .inLoop (cd P (6 : Nat) [(1 : Nat), (1 : Nat), (1 : Nat), (0 : Nat), (1 : Nat), (0 : Nat), (0 : Nat)]), .inBlock 0, .code (cd P (6 : Nat) [(1 : Nat), (1 : Nat), (1 : Nat), (1 : Nat)])], [], .run, CallKind.normal, none⟩,
  [],
  ⟨(.node (.node (.node .leaf (some (.cells (.node .leaf (some (.ptr 0 0 0)) .leaf) 1 24 0 0 1 0 false .leaf)) .leaf) (some (.cells (.fn fun c => some (cell c)) z 42 0 0 1 0 false .leaf)) .leaf) (some (.cells (.node (.node (.node .leaf (some (.int .u64 logins)) .leaf) (some (.int .u64 ttl)) .leaf) (some (.str secret)) (.node (.node .leaf (some (.slg 1 0 0 n 0)) .leaf) (some (.int .i64 slots)) .leaf)) 5 36 0 0 1 0 false .leaf)) (.node .leaf (some (.cells (.node .leaf (some (.int .u64 now)) .leaf) 1 26 0 0 1 0 false .leaf)) .leaf)), 4, G⟩⟩

noncomputable def DI (secret : List UInt8) (ttl slots logins now u : Int) (cell : Nat → AV) (n z : Nat) (G : T (T AV)) : AM := ⟨⟨15, 19, (.node (.node (.node (.node .leaf (some (.int .i64 (↑n : Int))) .leaf) none .leaf) (some (.fn (Fn.func (18 : Nat)) [] [.ptr 3 0 0, .ptr 2 0 0])) .leaf) (some (.slg 1 0 0 n 0)) (.node (.node (.node .leaf (some (.int .i64 u)) .leaf) none .leaf) none .leaf)),
   [.code (cd P (15 : Nat) [(1 : Nat), (0 : Nat), (1 : Nat), (0 : Nat), (0 : Nat)]), .inLoop (cd P (15 : Nat) [(1 : Nat), (0 : Nat), (1 : Nat), (0 : Nat), (0 : Nat)]), .inBlock 0, .code (cd P (15 : Nat) [(1 : Nat), (1 : Nat)])], [], .run, CallKind.normal, none⟩,
  [⟨12, 42, (.node (.node .leaf (some (.fn (Fn.func (18 : Nat)) [] [.ptr 3 0 0, .ptr 2 0 0])) .leaf) (some (.slg 1 0 0 n 0)) .leaf),
   [.ops (rg P 12 [1, 0]).toList ((rg P 12 [1, 0]).toList.drop 2), .code (cd P (12 : Nat) [(1 : Nat), (1 : Nat)])], [], .run, CallKind.normal, none⟩],
  ⟨(.node (.node (.node .leaf (some (.cells (.node .leaf (some (.int .u64 now)) .leaf) 1 26 0 0 1 0 false .leaf)) .leaf) (some (.cells (.fn fun c => some (cell c)) z 42 0 0 1 0 false .leaf)) .leaf) (some (.cells (.node (.node (.node .leaf (some (.int .u64 logins)) .leaf) (some (.int .u64 ttl)) .leaf) (some (.str secret)) (.node (.node .leaf (some (.slg 1 0 0 n 0)) .leaf) (some (.int .i64 slots)) .leaf)) 5 36 0 0 1 0 false .leaf)) (.node .leaf (some (.cells (.node .leaf (some (.ptr 0 0 0)) .leaf) 1 24 0 0 1 0 false .leaf)) .leaf)), 4, G⟩⟩

noncomputable def DJ (secret : List UInt8) (ttl slots logins now i j : Int) (cell : Nat → AV) (n z : Nat) (G : T (T AV)) : AM := ⟨⟨12, 42, (.node (.node .leaf (some (.fn (Fn.func (18 : Nat)) [] [.ptr 3 0 0, .ptr 2 0 0])) (.node .leaf (some (.int .i64 i)) .leaf)) (some (.slg 1 0 0 n 0)) (.node .leaf none (.node .leaf (some (.int .i64 j)) .leaf))),
   [.code (cd P (12 : Nat) [(1 : Nat), (1 : Nat), (1 : Nat), (0 : Nat), (1 : Nat), (0 : Nat), (0 : Nat)]), .inLoop (cd P (12 : Nat) [(1 : Nat), (1 : Nat), (1 : Nat), (0 : Nat), (1 : Nat), (0 : Nat), (0 : Nat)]), .inBlock 0, .code (cd P (12 : Nat) [(1 : Nat), (1 : Nat), (1 : Nat), (1 : Nat)])], [], .run, CallKind.normal, none⟩,
  [],
  ⟨(.node (.node (.node .leaf (some (.cells (.node .leaf (some (.int .u64 now)) .leaf) 1 26 0 0 1 0 false .leaf)) .leaf) (some (.cells (.fn fun c => some (cell c)) z 42 0 0 1 0 false .leaf)) .leaf) (some (.cells (.node (.node (.node .leaf (some (.int .u64 logins)) .leaf) (some (.int .u64 ttl)) .leaf) (some (.str secret)) (.node (.node .leaf (some (.slg 1 0 0 n 0)) .leaf) (some (.int .i64 slots)) .leaf)) 5 36 0 0 1 0 false .leaf)) (.node .leaf (some (.cells (.node .leaf (some (.ptr 0 0 0)) .leaf) 1 24 0 0 1 0 false .leaf)) .leaf)), 4, G⟩⟩

theorem dl (R : AV → AHeap → Prop) (secret : List UInt8) (ttl slots logins now : Int) (cell : Nat → AV) (n z : Nat) (G : T (T AV)) (K : AM → Prop) : Obl P 12 (fun v h => R v h) 4 K [.run 22, .can 4 [0, 1, 2, 3] [0, 1, 7, 8] [[0, 1]]] ((startH P 12 [.slg 1 0 0 n 0, .fn (Fn.func 18) [] [.ptr 3 0 0, .ptr 2 0 0]] ⟨(.node (.node (.node .leaf (some (.cells (.node .leaf (some (.int .u64 now)) .leaf) 1 26 0 0 1 0 false .leaf)) .leaf) (some (.cells (.fn fun c => some (cell c)) z 42 0 0 1 0 false .leaf)) .leaf) (some (.cells (.node (.node (.node .leaf (some (.int .u64 logins)) .leaf) (some (.int .u64 ttl)) .leaf) (some (.str secret)) (.node (.node .leaf (some (.slg 1 0 0 n 0)) .leaf) (some (.int .i64 slots)) .leaf)) 5 36 0 0 1 0 false .leaf)) (.node .leaf (some (.cells (.node .leaf (some (.ptr 0 0 0)) .leaf) 1 24 0 0 1 0 false .leaf)) .leaf)), 4, G⟩)) = ((PlainFn fun c => some (cell c)) ∧ K (DI secret ttl slots logins now 0 cell n z G)) := by kernel_rfl

theorem diyyyn (R : AV → AHeap → Prop) (secret : List UInt8) (ttl slots logins now u : Int) (cell cell' : Nat → AV) (c c' : Nat → Int) (s s' : Int) (n z : Nat) (G : T (T AV)) (K : AM → Prop) : Obl P 12 (fun v h => R v h) 4 K [.run 5, .know 9 true, .run 14, .op, .op, .run 1, .slot 0 (.agg (sc c s)), .run 12, .know 9 true, .run 15, .know 16 true, .run 16, .know 12 false, .run 11, .can 4 [0, 1, 2, 3] [0, 1, 5, 6] []] ((DI secret ttl slots logins now u cell n z G)) = ((decide (u < (↑n : Int)) = true) ∧ ((0 : Int) ≤ u ∧ u < (↑n : Int)) ∧ (0 + u.toNat * 65 + 65 ≤ z) ∧ (AV.agg (rc cell (0 + u.toNat * 65)) = AV.agg (sc c s)) ∧ (decide (now ≥ s) = true) ∧ (decide (IntKind.u64.wrap (now - s) ≥ ttl) = true) ∧ ((u == (-1 : Int)) = false) ∧ (PlainFn fun c => some (cell c)) ∧ K (DJ secret ttl slots logins now u (IntKind.i64.wrap (u + (1 : Int))) cell n z G)) := by kernel_rfl

theorem diyyn (R : AV → AHeap → Prop) (secret : List UInt8) (ttl slots logins now u : Int) (cell cell' : Nat → AV) (c c' : Nat → Int) (s s' : Int) (n z : Nat) (G : T (T AV)) (K : AM → Prop) : Obl P 12 (fun v h => R v h) 4 K [.run 5, .know 9 true, .run 14, .op, .op, .run 1, .slot 0 (.agg (sc c s)), .run 12, .know 9 true, .run 15, .know 16 false, .run 8, .can 4 [0, 1, 2, 3] [0, 1, 7, 8] [[0, 1]]] ((DI secret ttl slots logins now u cell n z G)) = ((decide (u < (↑n : Int)) = true) ∧ ((0 : Int) ≤ u ∧ u < (↑n : Int)) ∧ (0 + u.toNat * 65 + 65 ≤ z) ∧ (AV.agg (rc cell (0 + u.toNat * 65)) = AV.agg (sc c s)) ∧ (decide (now ≥ s) = true) ∧ (decide (IntKind.u64.wrap (now - s) ≥ ttl) = false) ∧ (PlainFn fun c => some (cell c)) ∧ K (DI secret ttl slots logins now (IntKind.i64.wrap (u + (1 : Int))) cell n z G)) := by kernel_rfl

theorem din (R : AV → AHeap → Prop) (secret : List UInt8) (ttl slots logins now u : Int) (cell cell' : Nat → AV) (c c' : Nat → Int) (s s' : Int) (n z : Nat) (G : T (T AV)) (_K : AM → Prop) : Obl P 12 (fun v h => R v h) 4 _K [.run 5, .know 9 false, .run 23, .can 4 [0, 1, 2, 3] [4] [], .done] ((DI secret ttl slots logins now u cell n z G)) = ((decide (u < (↑n : Int)) = false) ∧ (PlainFn fun c => some (cell c)) ∧ (R (.slg 1 0 0 n 0) (⟨(.node (.node (.node .leaf (some (.cells (.node .leaf (some (.int .u64 now)) .leaf) 1 26 0 0 1 0 false .leaf)) .leaf) (some (.cells (.fn fun c => some (cell c)) z 42 0 0 1 0 false .leaf)) .leaf) (some (.cells (.node (.node (.node .leaf (some (.int .u64 logins)) .leaf) (some (.int .u64 ttl)) .leaf) (some (.str secret)) (.node (.node .leaf (some (.slg 1 0 0 n 0)) .leaf) (some (.int .i64 slots)) .leaf)) 5 36 0 0 1 0 false .leaf)) (.node .leaf (some (.cells (.node .leaf (some (.ptr 0 0 0)) .leaf) 1 24 0 0 1 0 false .leaf)) .leaf)), 4, G⟩))) := by kernel_rfl

theorem djyyy (R : AV → AHeap → Prop) (secret : List UInt8) (ttl slots logins now i j : Int) (cell cell' : Nat → AV) (c : Nat → Int) (s : Int) (n z : Nat) (G : T (T AV)) (K : AM → Prop) : Obl P 12 (fun v h => R v h) 4 K [.run 8, .know 19 true, .run 8, .op, .op, .slot 25 (.agg (sc c s)), .run 20, .know 9 true, .run 16, .know 29 true, .run 6, .op, .opw false, .told 1 (.fn fun c => some (cell' c)) z, .run 13, .can 4 [0, 1, 2, 3] [0, 1, 5, 6] []] ((DJ secret ttl slots logins now i j cell n z G)) = ((decide (j < (↑n : Int)) = true) ∧ ((0 : Int) ≤ j ∧ j < (↑n : Int)) ∧ (0 + j.toNat * 65 + 65 ≤ z) ∧ (AV.agg (rc cell (0 + j.toNat * 65)) = AV.agg (sc c s)) ∧ (decide (now ≥ s) = true) ∧ ((!decide (IntKind.u64.wrap (now - s) ≥ ttl)) = true) ∧ ((0 : Int) ≤ i ∧ i < (↑n : Int)) ∧ (True ∧ 0 + i.toNat * 65 + (sc c s).length ≤ z ∧ 0 ≤ 0 + i.toNat * 65) ∧ (Tells (z) ((.fn fun c => some (cell' c))) ((.fn fun k => bif (0 + i.toNat * 65).ble k && k.blt (0 + i.toNat * 65 + (sc c s).length) then (fun k => (sc c s)[k]?) (k - (0 + i.toNat * 65)) else (T.fn fun c => some (cell c)).get k))) ∧ (z = z) ∧ (PlainFn fun c => some (cell' c)) ∧ K (DJ secret ttl slots logins now (IntKind.i64.wrap (i + (1 : Int))) (IntKind.i64.wrap (j + (1 : Int))) cell' n z G)) := by kernel_rfl

theorem djyyn (R : AV → AHeap → Prop) (secret : List UInt8) (ttl slots logins now i j : Int) (cell cell' : Nat → AV) (c : Nat → Int) (s : Int) (n z : Nat) (G : T (T AV)) (K : AM → Prop) : Obl P 12 (fun v h => R v h) 4 K [.run 8, .know 19 true, .run 8, .op, .op, .slot 25 (.agg (sc c s)), .run 20, .know 9 true, .run 16, .know 29 false, .run 9, .can 4 [0, 1, 2, 3] [0, 1, 5, 6] []] ((DJ secret ttl slots logins now i j cell n z G)) = ((decide (j < (↑n : Int)) = true) ∧ ((0 : Int) ≤ j ∧ j < (↑n : Int)) ∧ (0 + j.toNat * 65 + 65 ≤ z) ∧ (AV.agg (rc cell (0 + j.toNat * 65)) = AV.agg (sc c s)) ∧ (decide (now ≥ s) = true) ∧ ((!decide (IntKind.u64.wrap (now - s) ≥ ttl)) = false) ∧ (PlainFn fun c => some (cell c)) ∧ K (DJ secret ttl slots logins now i (IntKind.i64.wrap (j + (1 : Int))) cell n z G)) := by kernel_rfl

theorem djn (R : AV → AHeap → Prop) (secret : List UInt8) (ttl slots logins now i j : Int) (cell cell' : Nat → AV) (c : Nat → Int) (s : Int) (n z : Nat) (G : T (T AV)) (_K : AM → Prop) : Obl P 12 (fun v h => R v h) 4 _K [.run 8, .know 19 false, .run 6, .op, .opw false, .told 1 (.fn fun c => some (cell' c)) z, .run 5, .op, .run 3, .can 4 [0, 1, 2, 3] [4] [], .done] ((DJ secret ttl slots logins now i j cell n z G)) = ((decide (j < (↑n : Int)) = false) ∧ ((0 : Int) ≤ i ∧ i ≤ (↑n : Int)) ∧ ((0 : Nat) < n - i.toNat ∧ 0 + i.toNat * 65 + (n - i.toNat) * 65 ≤ z ∧ 0 ≤ 0 + i.toNat * 65) ∧ (Tells (z) ((.fn fun c => some (cell' c))) ((.fn fun k => bif (0 + i.toNat * 65).ble k && k.blt (0 + i.toNat * 65 + (n - i.toNat) * (sc (fun _ => 0) 0).length) then (fun k => (sc (fun _ => 0) 0)[k % (sc (fun _ => 0) 0).length]?) (k - (0 + i.toNat * 65)) else (T.fn fun c => some (cell c)).get k))) ∧ (z = z) ∧ ((0 : Int) ≤ i ∧ i ≤ (↑n : Int)) ∧ (PlainFn fun c => some (cell' c)) ∧ (R (.slg 1 0 0 (i.toNat - (0 : Nat)) 0) (⟨(.node (.node (.node .leaf (some (.cells (.node .leaf (some (.int .u64 now)) .leaf) 1 26 0 0 1 0 false .leaf)) .leaf) (some (.cells (.fn fun c => some (cell' c)) z 42 0 0 1 0 false .leaf)) .leaf) (some (.cells (.node (.node (.node .leaf (some (.int .u64 logins)) .leaf) (some (.int .u64 ttl)) .leaf) (some (.str secret)) (.node (.node .leaf (some (.slg 1 0 0 n 0)) .leaf) (some (.int .i64 slots)) .leaf)) 5 36 0 0 1 0 false .leaf)) (.node .leaf (some (.cells (.node .leaf (some (.ptr 0 0 0)) .leaf) 1 24 0 0 1 0 false .leaf)) .leaf)), 4, G⟩))) := by kernel_rfl

theorem lw (R : AV → AHeap → Prop) (secret : List UInt8) (ttl slots logins now i u : Int) (cell : Nat → AV) (c : Nat → Int) (s : Int) (n z : Nat) (G : T (T AV)) (K : AM → Prop) : Obl P 6 (fun v h => R v h) 2 K [.run 45, .can 2 [0, 1, 3, 2] [5, 6, 17, 18, 19] []] ((startH P 6 [.ptr 0 0 0, .int .u64 now] ⟨(.node (.node .leaf (some (.cells (.fn fun c => some (cell c)) z 42 0 0 1 0 false .leaf)) .leaf) (some (.cells (.node (.node (.node .leaf (some (.int .u64 logins)) .leaf) (some (.int .u64 ttl)) .leaf) (some (.str secret)) (.node (.node .leaf (some (.slg 1 0 0 n 0)) .leaf) (some (.int .i64 slots)) .leaf)) 5 36 0 0 1 0 false .leaf)) .leaf), 2, G⟩)) = ((PlainFn fun c => some (cell c)) ∧ K (LV secret ttl slots logins now (Int.ofNat (0)) (Int.ofNat (0)) cell n z G)) := by kernel_rfl

theorem lvyyy (R : AV → AHeap → Prop) (secret : List UInt8) (ttl slots logins now i u : Int) (cell : Nat → AV) (c : Nat → Int) (s : Int) (n z : Nat) (G : T (T AV)) (K : AM → Prop) : Obl P 6 (fun v h => R v h) 2 K [.run 5, .know 20 true, .run 6, .op, .op, .slot 22 (.agg (sc c s)), .run 20, .know 9 true, .run 16, .know 26 true, .run 12, .can 2 [0, 1, 2, 3] [5, 6, 17, 18, 19] []] ((LV secret ttl slots logins now i u cell n z G)) = ((decide (u < (↑n : Int)) = true) ∧ ((0 : Int) ≤ u ∧ u < (↑n : Int)) ∧ (0 + u.toNat * 65 + 65 ≤ z) ∧ (AV.agg (rc cell (0 + u.toNat * 65)) = AV.agg (sc c s)) ∧ (decide (now ≥ s) = true) ∧ ((!decide (IntKind.u64.wrap (now - s) ≥ ttl)) = true) ∧ (PlainFn fun c => some (cell c)) ∧ K (LV secret ttl slots logins now (IntKind.i64.wrap (i + (1 : Int))) (IntKind.i64.wrap (u + (1 : Int))) cell n z G)) := by kernel_rfl

theorem lvyyn (R : AV → AHeap → Prop) (secret : List UInt8) (ttl slots logins now i u : Int) (cell : Nat → AV) (c : Nat → Int) (s : Int) (n z : Nat) (G : T (T AV)) (K : AM → Prop) : Obl P 6 (fun v h => R v h) 2 K [.run 5, .know 20 true, .run 6, .op, .op, .slot 22 (.agg (sc c s)), .run 20, .know 9 true, .run 16, .know 26 false, .run 8, .can 2 [0, 1, 2, 3] [5, 6, 17, 18, 19] []] ((LV secret ttl slots logins now i u cell n z G)) = ((decide (u < (↑n : Int)) = true) ∧ ((0 : Int) ≤ u ∧ u < (↑n : Int)) ∧ (0 + u.toNat * 65 + 65 ≤ z) ∧ (AV.agg (rc cell (0 + u.toNat * 65)) = AV.agg (sc c s)) ∧ (decide (now ≥ s) = true) ∧ ((!decide (IntKind.u64.wrap (now - s) ≥ ttl)) = false) ∧ (PlainFn fun c => some (cell c)) ∧ K (LV secret ttl slots logins now i (IntKind.i64.wrap (u + (1 : Int))) cell n z G)) := by kernel_rfl

theorem lvn (R : AV → AHeap → Prop) (secret : List UInt8) (ttl slots logins now i u : Int) (cell : Nat → AV) (c : Nat → Int) (s : Int) (n z : Nat) (G : T (T AV)) (_K : AM → Prop) : Obl P 6 (fun v h => R v h) 2 _K [.run 5, .know 20 false, .run 8, .can 2 [0, 1] [4] [], .done] ((LV secret ttl slots logins now i u cell n z G)) = ((decide (u < (↑n : Int)) = false) ∧ (PlainFn fun c => some (cell c)) ∧ (R (.int .i64 i) (⟨(.node (.node .leaf (some (.cells (.fn fun c => some (cell c)) z 42 0 0 1 0 false .leaf)) .leaf) (some (.cells (.node (.node (.node .leaf (some (.int .u64 logins)) .leaf) (some (.int .u64 ttl)) .leaf) (some (.str secret)) (.node (.node .leaf (some (.slg 1 0 0 n 0)) .leaf) (some (.int .i64 slots)) .leaf)) 5 36 0 0 1 0 false .leaf)) .leaf), 2, G⟩))) := by kernel_rfl

theorem lvN (R : AV → AHeap → Prop) (secret nonce : List UInt8) (ttl slots logins now : Int) (b : Nat → Int) (t : Nat → UInt8) (G : T (T AV)) (_K : AM → Prop) : Obl P 6 (fun v h => R v h) 1 _K [.run 58, .can 1 [0] [4] [], .done] ((startH P 6 [.ptr 0 0 0, .int .u64 now] ⟨(.node .leaf (some (.cells (.node (.node (.node .leaf (some (.int .u64 logins)) .leaf) (some (.int .u64 ttl)) .leaf) (some (.str secret)) (.node (.node .leaf (some (.nils 0 0)) .leaf) (some (.int .i64 slots)) .leaf)) 5 36 0 0 1 0 false .leaf)) .leaf), 1, G⟩)) = ((R (.int .i64 0) (⟨(.node .leaf (some (.cells (.node (.node (.node .leaf (some (.int .u64 logins)) .leaf) (some (.int .u64 ttl)) .leaf) (some (.str secret)) (.node (.node .leaf (some (.nils 0 0)) .leaf) (some (.int .i64 slots)) .leaf)) 5 36 0 0 1 0 false .leaf)) .leaf), 1, G⟩))) := by kernel_rfl

/-! ## Rows of sessions -/

def el (b : Nat → Nat → Int) (s : Nat → Int) (k : Nat) : AV := bif Nat.blt (k % 65) 64 then .int .u8 (b (k / 65) (k % 65)) else .int .u64 (s (k / 65))
def upd {α : Type} (f : Nat → α) (i : Nat) (x : α) (j : Nat) : α := if j = i then x else f j

theorem el_plain (b : Nat → Nat → Int) (s : Nat → Int) : PlainFn fun c => some (el b s c) := by
  intro k v h
  cases h
  unfold el
  cases Nat.blt (k % 65) 64 <;> rfl

theorem rc_map (cell : Nat → AV) (o : Nat) : rc cell o = (List.range 65).map fun j => cell (o + j) := rfl
theorem sc_map (c : Nat → Int) (s : Int) : sc c s = (List.range 65).map fun j => bif Nat.blt j 64 then AV.int .u8 (c j) else .int .u64 s := rfl
theorem sc_len (c : Nat → Int) (s : Int) : (sc c s).length = 65 := rfl

theorem sc_get (c : Nat → Int) (s : Int) {r : Nat} (h : r < 65) : (sc c s)[r]? = some (bif Nat.blt r 64 then AV.int .u8 (c r) else .int .u64 s) := by
  rw [sc_map, List.getElem?_map, List.getElem?_range h, Option.map_some]

theorem el_at (b : Nat → Nat → Int) (s : Nat → Int) (u j : Nat) (h : j < 65) : el b s (0 + u * 65 + j) = bif Nat.blt j 64 then .int .u8 (b u j) else .int .u64 (s u) := by
  have h1 : (0 + u * 65 + j) / 65 = u := by omega
  have h2 : (0 + u * 65 + j) % 65 = j := by omega
  unfold el
  rw [h1, h2]

theorem rc_el (b : Nat → Nat → Int) (s : Nat → Int) (u : Nat) : rc (el b s) (0 + u * 65) = sc (b u) (s u) := by
  rw [rc_map, sc_map]
  exact List.map_congr_left fun j hj => el_at b s u j (List.mem_range.1 hj)

theorem agg_el (b : Nat → Nat → Int) (s : Nat → Int) (u : Nat) : AV.agg (rc (el b s) (0 + u * 65)) = AV.agg (sc (b u) (s u)) := congrArg AV.agg (rc_el b s u)

theorem put_el (b : Nat → Nat → Int) (s : Nat → Int) (i : Nat) (c : Nat → Int) (x : Int) (z : Nat) :
    Tells z (.fn fun k => some (el (upd b i c) (upd s i x) k)) (.fn fun k => bif (0 + i * 65).ble k && k.blt (0 + i * 65 + (sc c x).length) then (fun k => (sc c x)[k]?) (k - (0 + i * 65)) else (T.fn fun c => some (el b s c)).get k) := by
  intro k v hk h
  have h : some (el (upd b i c) (upd s i x) k) = some v := h
  rw [← h]
  show (bif (0 + i * 65).ble k && k.blt (0 + i * 65 + (sc c x).length) then (sc c x)[k - (0 + i * 65)]? else some (el b s k)) = _
  rw [sc_len]
  by_cases hin : i * 65 ≤ k ∧ k < i * 65 + 65
  · have e : ((0 + i * 65).ble k && k.blt (0 + i * 65 + 65)) = true := by
      rw [Bool.and_eq_true, Nat.ble_eq, Nat.blt_eq]; omega
    rw [e, cond_true, sc_get c x (by omega)]
    have h1 : k / 65 = i := by omega
    have h2 : k % 65 = k - (0 + i * 65) := by omega
    unfold el
    rw [h1, h2]
    unfold upd
    rw [if_pos rfl, if_pos rfl]
  · have e : ((0 + i * 65).ble k && k.blt (0 + i * 65 + 65)) = false := by
      rw [← Bool.not_eq_true, Bool.and_eq_true, Nat.ble_eq, Nat.blt_eq]; omega
    rw [e, cond_false]
    have h1 : ¬ k / 65 = i := by omega
    unfold el upd
    rw [if_neg h1, if_neg h1]

def clr {α : Type} (f : Nat → α) (i n : Nat) (x : α) (j : Nat) : α := if i ≤ j ∧ j < n then x else f j

theorem clr_el (b : Nat → Nat → Int) (s : Nat → Int) (i n : Nat) (z : Nat) :
    Tells z (.fn fun k => some (el (clr b i n fun _ => 0) (clr s i n 0) k)) (.fn fun k => bif (0 + i * 65).ble k && k.blt (0 + i * 65 + (n - i) * (sc (fun _ => 0) 0).length) then (fun k => (sc (fun _ => 0) 0)[k % (sc (fun _ => 0) 0).length]?) (k - (0 + i * 65)) else (T.fn fun c => some (el b s c)).get k) := by
  intro k v hk h
  have h : some (el (clr b i n fun _ => 0) (clr s i n 0) k) = some v := h
  rw [← h]
  show (bif (0 + i * 65).ble k && k.blt (0 + i * 65 + (n - i) * (sc (fun _ => 0) 0).length) then (sc (fun _ => 0) 0)[(k - (0 + i * 65)) % (sc (fun _ => 0) 0).length]? else some (el b s k)) = _
  rw [sc_len]
  by_cases hin : i * 65 ≤ k ∧ k < i * 65 + (n - i) * 65
  · have e : ((0 + i * 65).ble k && k.blt (0 + i * 65 + (n - i) * 65)) = true := by
      rw [Bool.and_eq_true, Nat.ble_eq, Nat.blt_eq]; omega
    rw [e, cond_true, sc_get _ _ (by omega)]
    have h1 : i ≤ k / 65 ∧ k / 65 < n := by omega
    have h2 : (k - (0 + i * 65)) % 65 = k % 65 := by omega
    unfold el clr
    rw [h2, if_pos h1, if_pos h1]
  · have e : ((0 + i * 65).ble k && k.blt (0 + i * 65 + (n - i) * 65)) = false := by
      rw [← Bool.not_eq_true, Bool.and_eq_true, Nat.ble_eq, Nat.blt_eq]; omega
    rw [e, cond_false]
    have h1 : ¬ (i ≤ k / 65 ∧ k / 65 < n) := by omega
    unfold el clr
    rw [if_neg h1, if_neg h1]

/-! ## Lists of times -/

def sl (s : Nat → Int) : Nat → Nat → List Int
  | _, 0 => []
  | j, r + 1 => s j :: sl s (j + 1) r

theorem sl_snoc (s : Nat → Int) : ∀ r j, sl s j (r + 1) = sl s j r ++ [s (j + r)]
  | 0, j => rfl
  | r + 1, j => by
    show s j :: sl s (j + 1) (r + 1) = (s j :: sl s (j + 1) r) ++ [s (j + (r + 1))]
    rw [sl_snoc s r (j + 1), List.cons_append, show j + 1 + r = j + (r + 1) by omega]

theorem sl_split (s : Nat → Int) (r : Nat) : ∀ i j, sl s j (i + r) = sl s j i ++ sl s (j + i) r
  | 0, j => by rw [Nat.zero_add]; rfl
  | i + 1, j => by
    rw [show i + 1 + r = (i + r) + 1 by omega]
    show s j :: sl s (j + 1) (i + r) = (s j :: sl s (j + 1) i) ++ sl s (j + (i + 1)) r
    rw [sl_split s r i (j + 1), List.cons_append, show j + 1 + i = j + (i + 1) by omega]

theorem sl_congr {s s' : Nat → Int} : ∀ r j, (∀ t, j ≤ t → t < j + r → s t = s' t) → sl s j r = sl s' j r
  | 0, _, _ => rfl
  | r + 1, j, h => by
    show s j :: sl s (j + 1) r = s' j :: sl s' (j + 1) r
    rw [h j (by omega) (by omega), sl_congr r (j + 1) fun t h1 h2 => h t (by omega) (by omega)]

theorem sl_mem {s : Nat → Int} {x : Int} : ∀ r j, x ∈ sl s j r → ∃ t, j ≤ t ∧ t < j + r ∧ s t = x
  | 0, _, h => by cases h
  | r + 1, j, h => by
    rcases List.mem_cons.1 h with e | h
    · exact ⟨j, by omega, by omega, e.symm⟩
    · obtain ⟨t, h1, h2, h3⟩ := sl_mem r (j + 1) h
      exact ⟨t, by omega, by omega, h3⟩

theorem sl_at (s : Nat → Int) : ∀ r j t, j ≤ t → t < j + r → s t ∈ sl s j r
  | 0, j, t, h1, h2 => by omega
  | r + 1, j, t, h1, h2 => by
    by_cases e : t = j
    · subst e; exact .head _
    · exact .tail _ (sl_at s r (j + 1) t (by omega) (by omega))

theorem sl_len (s : Nat → Int) : ∀ r j, (sl s j r).length = r
  | 0, _ => rfl
  | r + 1, j => by
    show (sl s (j + 1) r).length + 1 = r + 1
    rw [sl_len s r (j + 1)]

/-- A session that is not over. -/
def al (now ttl x : Int) : Bool := !decide (IntKind.u64.wrap (now - x) ≥ ttl)

/-! ## How many live -/

theorem live_loop {secret : List UInt8} {ttl slots logins now : Int} {b : Nat → Nat → Int} {s : Nat → Int} {n z : Nat} {G : T (T AV)} (hs : ∀ k, k < n → s k ≤ now) (hz : n * 65 ≤ z) (hn : n < 1000000) :
    ∀ r u, u + r = n → Goal P 2 6 (fun v h => v = .int .i64 ((((sl s 0 n).filter (al now ttl)).length : Nat) : Int) ∧ h = H2 secret ttl slots logins (el b s) n z G) (LV secret ttl slots logins now (((((sl s 0 u).filter (al now ttl)).length : Nat)) : Int) (u : Int) (el b s) n z G)
  | 0, u, hu => by
    obtain rfl : u = n := by omega
    exact Obl.goal (K := Goal P 2 6 _) mix (fun _ h => h) (cast (lvn (fun v h => v = .int .i64 ((((sl s 0 u).filter (al now ttl)).length : Nat) : Int) ∧ h = H2 secret ttl slots logins (el b s) u z G) _ _ _ _ _ _ _ _ (fun _ => 0) 0 _ _ _ _).symm ⟨decide_eq_false (by omega), el_plain _ _, rfl, rfl⟩)
  | r + 1, u, hu => by
    have hlen : ((sl s 0 u).filter (al now ttl)).length ≤ u := by
      have : ∀ r j, (sl s j r).length = r := fun r => by
        induction r with
        | zero => intro j; rfl
        | succ r ih => intro j; show (sl s (j + 1) r).length + 1 = r + 1; rw [ih]
      exact Nat.le_trans (List.length_filter_le _ _) (Nat.le_of_eq (this _ _))
    have hw : IntKind.i64.wrap ((u : Int) + 1) = ((u + 1 : Nat) : Int) := by rw [IntWalk.i64_in _ (by omega)]; omega
    have ih := live_loop (secret := secret) (slots := slots) (logins := logins) (ttl := ttl) (b := b) (G := G) hs hz hn r (u + 1) (by omega)
    rw [sl_snoc, Nat.zero_add, List.filter_append] at ih
    by_cases ha : al now ttl (s u) = true
    · rw [List.filter_cons_of_pos ha, List.filter_nil, List.length_append] at ih
      refine Obl.goal (K := Goal P 2 6 _) mix (fun _ h => h) (cast (lvyyy (fun v h => v = .int .i64 ((((sl s 0 n).filter (al now ttl)).length : Nat) : Int) ∧ h = H2 secret ttl slots logins (el b s) n z G) _ _ _ _ _ _ _ _ (b u) (s u) _ _ _ _).symm ⟨decide_eq_true (by omega), ⟨by omega, by omega⟩, by rw [Int.toNat_natCast]; omega, agg_el b s u, decide_eq_true (hs u (by omega)), ha, el_plain _ _, ?_⟩)
      rw [hw, IntWalk.i64_in _ (by omega)]
      exact ih
    · rw [List.filter_cons_of_neg ha, List.filter_nil, List.append_nil] at ih
      refine Obl.goal (K := Goal P 2 6 _) mix (fun _ h => h) (cast (lvyyn (fun v h => v = .int .i64 ((((sl s 0 n).filter (al now ttl)).length : Nat) : Int) ∧ h = H2 secret ttl slots logins (el b s) n z G) _ _ _ _ _ _ _ _ (b u) (s u) _ _ _ _).symm ⟨decide_eq_true (by omega), ⟨by omega, by omega⟩, by rw [Int.toNat_natCast]; omega, agg_el b s u, decide_eq_true (hs u (by omega)), Bool.not_eq_true _ ▸ ha, el_plain _ _, ?_⟩)
      rw [hw]
      exact ih

theorem live_ok {secret : List UInt8} {ttl slots logins now : Int} {b : Nat → Nat → Int} {s : Nat → Int} {n z : Nat} {G : T (T AV)} (hs : ∀ k, k < n → s k ≤ now) (hz : n * 65 ≤ z) (hn : n < 1000000) :
    Goal P 2 6 (fun v h => v = .int .i64 ((((sl s 0 n).filter (al now ttl)).length : Nat) : Int) ∧ h = H2 secret ttl slots logins (el b s) n z G) (startH P 6 [.ptr 0 0 0, .int .u64 now] (H2 secret ttl slots logins (el b s) n z G)) :=
  Obl.goal (K := Goal P 2 6 _) mix (fun _ h => h) (cast (lw (fun v h => v = .int .i64 ((((sl s 0 n).filter (al now ttl)).length : Nat) : Int) ∧ h = H2 secret ttl slots logins (el b s) n z G) _ _ _ _ _ 0 0 _ (fun _ => 0) 0 _ _ _ _).symm ⟨el_plain _ _, live_loop (b := b) hs hz hn n 0 (by omega)⟩)

theorem live_nil {secret : List UInt8} {ttl slots logins now : Int} {G : T (T AV)} :
    Goal P 1 6 (fun v h => v = .int .i64 0 ∧ h = H1 secret ttl slots logins G) (startH P 6 [.ptr 0 0 0, .int .u64 now] (H1 secret ttl slots logins G)) :=
  Obl.goal (K := Goal P 1 6 _) mix (fun _ h => h) (cast (lvN (fun v h => v = .int .i64 0 ∧ h = H1 secret ttl slots logins G) _ [] _ _ _ _ (fun _ => 0) (fun _ => 0) _ _).symm ⟨rfl, rfl⟩)

/-! ## Those that are over are deleted -/

theorem dj_loop {secret : List UInt8} {ttl slots logins now : Int} {n z : Nat} {G : T (T AV)} {F : List Int} (hz : n * 65 ≤ z) (hn : n < 1000000) :
    ∀ r i j (b : Nat → Nat → Int) (s : Nat → Int), j + r = n → i < j → (∀ k, k < n → s k ≤ now) → sl s 0 i ++ (sl s j r).filter (al now ttl) = F →
      ∃ b' s' m, m < n ∧ sl s' 0 m = F ∧ Goal P 4 12 (fun v h => v = .slg 1 0 0 m 0 ∧ h = H4 secret ttl slots logins now (el b' s') n z G) (DJ secret ttl slots logins now (i : Int) (j : Int) (el b s) n z G)
  | 0, i, j, b, s, hj, hi, hs, hF => by
    obtain rfl : j = n := by omega
    refine ⟨clr b i j fun _ => 0, clr s i j 0, i, hi, ?_, ?_⟩
    · rw [← hF]
      show _ = sl s 0 i ++ []
      rw [List.append_nil]
      exact sl_congr i 0 fun t h1 h2 => by unfold clr; rw [if_neg (by omega)]
    · exact Obl.goal (K := Goal P 4 12 _) mix (fun _ h => h) (cast (djn (fun v h => v = .slg 1 0 0 i 0 ∧ h = H4 secret ttl slots logins now (el (clr b i j fun _ => 0) (clr s i j 0)) j z G) _ _ _ _ _ _ _ _ (el (clr b i j fun _ => 0) (clr s i j 0)) (fun _ => 0) 0 _ _ _ _).symm
        ⟨decide_eq_false (by omega), ⟨by omega, by omega⟩, ⟨by rw [Int.toNat_natCast]; omega, by rw [Int.toNat_natCast]; omega, by omega⟩, clr_el b s i j z, rfl, ⟨by omega, by omega⟩, el_plain _ _, rfl, rfl⟩)
  | r + 1, i, j, b, s, hj, hi, hs, hF => by
    have hw : IntKind.i64.wrap ((j : Int) + 1) = ((j + 1 : Nat) : Int) := by rw [IntWalk.i64_in _ (by omega)]; omega
    have hv : IntKind.i64.wrap ((i : Int) + 1) = ((i + 1 : Nat) : Int) := by rw [IntWalk.i64_in _ (by omega)]; omega
    by_cases ha : al now ttl (s j) = true
    · obtain ⟨b', s', m, h0, h1, h2⟩ := dj_loop (secret := secret) (slots := slots) (logins := logins) (ttl := ttl) (G := G) (F := F) hz hn r (i + 1) (j + 1) (upd b i (b j)) (upd s i (s j)) (by omega) (by omega)
        (fun k hk => by unfold upd; split; exact hs j (by omega); exact hs k hk)
        (by
          rw [← hF, sl_snoc, Nat.zero_add]
          show _ = sl s 0 i ++ (s j :: sl s (j + 1) r).filter (al now ttl)
          rw [List.filter_cons_of_pos ha, List.append_assoc, List.singleton_append]
          have e1 : upd s i (s j) i = s j := by unfold upd; rw [if_pos rfl]
          rw [e1, sl_congr (s := upd s i (s j)) (s' := s) i 0 fun t h1 h2 => by unfold upd; rw [if_neg (by omega)],
            sl_congr (s := upd s i (s j)) (s' := s) r (j + 1) fun t h1 h2 => by unfold upd; rw [if_neg (by omega)]])
      refine ⟨b', s', m, h0, h1, Obl.goal (K := Goal P 4 12 _) mix (fun _ h => h) (cast (djyyy (fun v h => v = .slg 1 0 0 m 0 ∧ h = H4 secret ttl slots logins now (el b' s') n z G) _ _ _ _ _ _ _ _ (el (upd b i (b j)) (upd s i (s j))) (b j) (s j) _ _ _ _).symm
        ⟨decide_eq_true (by omega), ⟨by omega, by omega⟩, by rw [Int.toNat_natCast]; omega, agg_el b s j, decide_eq_true (hs j (by omega)), ha, ⟨by omega, by omega⟩, ⟨trivial, by rw [Int.toNat_natCast, sc_len]; omega, by omega⟩, put_el b s i (b j) (s j) z, rfl, el_plain _ _, ?_⟩)⟩
      rw [hw, hv]
      exact h2
    · obtain ⟨b', s', m, h0, h1, h2⟩ := dj_loop (secret := secret) (slots := slots) (logins := logins) (ttl := ttl) (G := G) (F := F) hz hn r i (j + 1) b s (by omega) (by omega) hs
        (by
          rw [← hF]
          show _ = sl s 0 i ++ (s j :: sl s (j + 1) r).filter (al now ttl)
          rw [List.filter_cons_of_neg ha])
      refine ⟨b', s', m, h0, h1, Obl.goal (K := Goal P 4 12 _) mix (fun _ h => h) (cast (djyyn (fun v h => v = .slg 1 0 0 m 0 ∧ h = H4 secret ttl slots logins now (el b' s') n z G) _ _ _ _ _ _ _ _ (el b s) (b j) (s j) _ _ _ _).symm
        ⟨decide_eq_true (by omega), ⟨by omega, by omega⟩, by rw [Int.toNat_natCast]; omega, agg_el b s j, decide_eq_true (hs j (by omega)), Bool.not_eq_true _ ▸ ha, el_plain _ _, ?_⟩)⟩
      rw [hw]
      exact h2

theorem di_loop {secret : List UInt8} {ttl slots logins now : Int} {b : Nat → Nat → Int} {s : Nat → Int} {n z : Nat} {G : T (T AV)} (hs : ∀ k, k < n → s k ≤ now) (hz : n * 65 ≤ z) (hn : n < 1000000) :
    ∀ r u, u + r = n → (sl s 0 u).filter (al now ttl) = sl s 0 u →
      ∃ b' s' m, m ≤ n ∧ sl s' 0 m = (sl s 0 n).filter (al now ttl) ∧ Goal P 4 12 (fun v h => v = .slg 1 0 0 m 0 ∧ h = H4 secret ttl slots logins now (el b' s') n z G) (DI secret ttl slots logins now (u : Int) (el b s) n z G)
  | 0, u, hu, hf => by
    obtain rfl : u = n := by omega
    exact ⟨b, s, u, Nat.le_refl _, hf.symm, Obl.goal (K := Goal P 4 12 _) mix (fun _ h => h) (cast (din (fun v h => v = .slg 1 0 0 u 0 ∧ h = H4 secret ttl slots logins now (el b s) u z G) _ _ _ _ _ _ _ (el b s) (fun _ => 0) (fun _ => 0) 0 0 _ _ _ _).symm
      ⟨decide_eq_false (by omega), el_plain _ _, rfl, rfl⟩)⟩
  | r + 1, u, hu, hf => by
    have hw : IntKind.i64.wrap ((u : Int) + 1) = ((u + 1 : Nat) : Int) := by rw [IntWalk.i64_in _ (by omega)]; omega
    by_cases ha : al now ttl (s u) = true
    · obtain ⟨b', s', m, h0, h1, h2⟩ := di_loop (secret := secret) (slots := slots) (logins := logins) (ttl := ttl) (b := b) (G := G) hs hz hn r (u + 1) (by omega)
        (by rw [sl_snoc, Nat.zero_add, List.filter_append, hf, List.filter_cons_of_pos ha, List.filter_nil])
      refine ⟨b', s', m, h0, h1, Obl.goal (K := Goal P 4 12 _) mix (fun _ h => h) (cast (diyyn (fun v h => v = .slg 1 0 0 m 0 ∧ h = H4 secret ttl slots logins now (el b' s') n z G) _ _ _ _ _ _ _ (el b s) (b u) (fun _ => 0) (s u) 0 _ _ _ _).symm
        ⟨decide_eq_true (by omega), ⟨by omega, by omega⟩, by rw [Int.toNat_natCast]; omega, agg_el b s u, decide_eq_true (hs u (by omega)), by unfold al at ha; simpa using ha, el_plain _ _, ?_⟩)⟩
      rw [hw]
      exact h2
    · obtain ⟨b', s', m, h0, h1, h2⟩ := dj_loop (secret := secret) (slots := slots) (logins := logins) (ttl := ttl) (G := G) (F := (sl s 0 n).filter (al now ttl)) hz hn r u (u + 1) b s (by omega) (by omega) hs
        (by
          rw [show n = u + (r + 1) by omega, sl_split, List.filter_append, hf, Nat.zero_add]
          show _ = sl s 0 u ++ (s u :: sl s (u + 1) r).filter (al now ttl)
          rw [List.filter_cons_of_neg ha])
      refine ⟨b', s', m, by omega, h1, Obl.goal (K := Goal P 4 12 _) mix (fun _ h => h) (cast (diyyyn (fun v h => v = .slg 1 0 0 m 0 ∧ h = H4 secret ttl slots logins now (el b' s') n z G) _ _ _ _ _ _ _ (el b s) (b u) (fun _ => 0) (s u) 0 _ _ _ _).symm
        ⟨decide_eq_true (by omega), ⟨by omega, by omega⟩, by rw [Int.toNat_natCast]; omega, agg_el b s u, decide_eq_true (hs u (by omega)), by unfold al at ha; simpa using ha, by rw [beq_eq_false_iff_ne]; omega, el_plain _ _, ?_⟩)⟩
      rw [hw]
      exact h2

theorem del_ok {secret : List UInt8} {ttl slots logins now : Int} {b : Nat → Nat → Int} {s : Nat → Int} {n z : Nat} {G : T (T AV)} (hs : ∀ k, k < n → s k ≤ now) (hz : n * 65 ≤ z) (hn : n < 1000000) :
    ∃ b' s' m, m ≤ n ∧ sl s' 0 m = (sl s 0 n).filter (al now ttl) ∧ Goal P 4 12 (fun v h => v = .slg 1 0 0 m 0 ∧ h = H4 secret ttl slots logins now (el b' s') n z G) (startH P 12 [.slg 1 0 0 n 0, .fn (Fn.func 18) [] [.ptr 3 0 0, .ptr 2 0 0]] (H4 secret ttl slots logins now (el b s) n z G)) := by
  obtain ⟨b', s', m, h0, h1, h2⟩ := di_loop (secret := secret) (slots := slots) (logins := logins) (ttl := ttl) (b := b) (G := G) hs hz hn n 0 (by omega) rfl
  exact ⟨b', s', m, h0, h1, Obl.goal (K := Goal P 4 12 _) mix (fun _ h => h) (cast (dl (fun v h => v = .slg 1 0 0 m 0 ∧ h = H4 secret ttl slots logins now (el b' s') n z G) _ _ _ _ _ _ _ _ _ _).symm ⟨el_plain _ _, h2⟩)⟩



def tx (c : Nat → UInt8) : List UInt8 := [c 0, c 1, c 2, c 3, c 4, c 5, c 6, c 7, c 8, c 9, c 10, c 11, c 12, c 13, c 14, c 15, c 16, c 17, c 18, c 19, c 20, c 21, c 22, c 23, c 24, c 25, c 26, c 27, c 28, c 29, c 30, c 31, c 32, c 33, c 34, c 35, c 36, c 37, c 38, c 39, c 40, c 41, c 42, c 43, c 44, c 45, c 46, c 47, c 48, c 49, c 50, c 51, c 52, c 53, c 54, c 55, c 56, c 57, c 58, c 59, c 60, c 61, c 62, c 63]

noncomputable def H2g (secret : List UInt8) (ttl slots logins : Int) (cell : Nat → AV) (n z : Nat) (G : T (T AV)) : AHeap := ⟨(.node (.node .leaf (some (.cells (.fn fun c => some (cell c)) z 42 1 1 2 0 false .leaf)) .leaf) (some (.cells (.node (.node (.node .leaf (some (.int .u64 logins)) .leaf) (some (.int .u64 ttl)) .leaf) (some (.str secret)) (.node (.node .leaf (some (.slg 1 1 0 n 0)) .leaf) (some (.int .i64 slots)) .leaf)) 5 36 0 0 1 0 false .leaf)) .leaf), 2, G⟩
noncomputable def num8 (logins : Int) : List UInt8 := [UInt8.ofNat (IntKind.u8.wrap ((IntKind.u64.wrap (logins + (1 : Int))).fdiv ((2 : Int) ^ min (Int.ofNat (0)).toNat IntKind.u64.bits))).toNat, UInt8.ofNat (IntKind.u8.wrap ((IntKind.u64.wrap (logins + (1 : Int))).fdiv ((2 : Int) ^ min (Int.ofNat (8)).toNat IntKind.u64.bits))).toNat, UInt8.ofNat (IntKind.u8.wrap ((IntKind.u64.wrap (logins + (1 : Int))).fdiv ((2 : Int) ^ min (Int.ofNat (16)).toNat IntKind.u64.bits))).toNat, UInt8.ofNat (IntKind.u8.wrap ((IntKind.u64.wrap (logins + (1 : Int))).fdiv ((2 : Int) ^ min (Int.ofNat (24)).toNat IntKind.u64.bits))).toNat, UInt8.ofNat (IntKind.u8.wrap ((IntKind.u64.wrap (logins + (1 : Int))).fdiv ((2 : Int) ^ min (Int.ofNat (32)).toNat IntKind.u64.bits))).toNat, UInt8.ofNat (IntKind.u8.wrap ((IntKind.u64.wrap (logins + (1 : Int))).fdiv ((2 : Int) ^ min (Int.ofNat (40)).toNat IntKind.u64.bits))).toNat, UInt8.ofNat (IntKind.u8.wrap ((IntKind.u64.wrap (logins + (1 : Int))).fdiv ((2 : Int) ^ min (Int.ofNat (48)).toNat IntKind.u64.bits))).toNat, UInt8.ofNat (IntKind.u8.wrap ((IntKind.u64.wrap (logins + (1 : Int))).fdiv ((2 : Int) ^ min (Int.ofNat (56)).toNat IntKind.u64.bits))).toNat].reverse
noncomputable def ux (t : Nat → UInt8) : List UInt8 := [UInt8.ofNat (↑(t (63 : Nat)).toNat : Int).toNat, UInt8.ofNat (↑(t (62 : Nat)).toNat : Int).toNat, UInt8.ofNat (↑(t (61 : Nat)).toNat : Int).toNat, UInt8.ofNat (↑(t (60 : Nat)).toNat : Int).toNat, UInt8.ofNat (↑(t (59 : Nat)).toNat : Int).toNat, UInt8.ofNat (↑(t (58 : Nat)).toNat : Int).toNat, UInt8.ofNat (↑(t (57 : Nat)).toNat : Int).toNat, UInt8.ofNat (↑(t (56 : Nat)).toNat : Int).toNat, UInt8.ofNat (↑(t (55 : Nat)).toNat : Int).toNat, UInt8.ofNat (↑(t (54 : Nat)).toNat : Int).toNat, UInt8.ofNat (↑(t (53 : Nat)).toNat : Int).toNat, UInt8.ofNat (↑(t (52 : Nat)).toNat : Int).toNat, UInt8.ofNat (↑(t (51 : Nat)).toNat : Int).toNat, UInt8.ofNat (↑(t (50 : Nat)).toNat : Int).toNat, UInt8.ofNat (↑(t (49 : Nat)).toNat : Int).toNat, UInt8.ofNat (↑(t (48 : Nat)).toNat : Int).toNat, UInt8.ofNat (↑(t (47 : Nat)).toNat : Int).toNat, UInt8.ofNat (↑(t (46 : Nat)).toNat : Int).toNat, UInt8.ofNat (↑(t (45 : Nat)).toNat : Int).toNat, UInt8.ofNat (↑(t (44 : Nat)).toNat : Int).toNat, UInt8.ofNat (↑(t (43 : Nat)).toNat : Int).toNat, UInt8.ofNat (↑(t (42 : Nat)).toNat : Int).toNat, UInt8.ofNat (↑(t (41 : Nat)).toNat : Int).toNat, UInt8.ofNat (↑(t (40 : Nat)).toNat : Int).toNat, UInt8.ofNat (↑(t (39 : Nat)).toNat : Int).toNat, UInt8.ofNat (↑(t (38 : Nat)).toNat : Int).toNat, UInt8.ofNat (↑(t (37 : Nat)).toNat : Int).toNat, UInt8.ofNat (↑(t (36 : Nat)).toNat : Int).toNat, UInt8.ofNat (↑(t (35 : Nat)).toNat : Int).toNat, UInt8.ofNat (↑(t (34 : Nat)).toNat : Int).toNat, UInt8.ofNat (↑(t (33 : Nat)).toNat : Int).toNat, UInt8.ofNat (↑(t (32 : Nat)).toNat : Int).toNat, UInt8.ofNat (↑(t (31 : Nat)).toNat : Int).toNat, UInt8.ofNat (↑(t (30 : Nat)).toNat : Int).toNat, UInt8.ofNat (↑(t (29 : Nat)).toNat : Int).toNat, UInt8.ofNat (↑(t (28 : Nat)).toNat : Int).toNat, UInt8.ofNat (↑(t (27 : Nat)).toNat : Int).toNat, UInt8.ofNat (↑(t (26 : Nat)).toNat : Int).toNat, UInt8.ofNat (↑(t (25 : Nat)).toNat : Int).toNat, UInt8.ofNat (↑(t (24 : Nat)).toNat : Int).toNat, UInt8.ofNat (↑(t (23 : Nat)).toNat : Int).toNat, UInt8.ofNat (↑(t (22 : Nat)).toNat : Int).toNat, UInt8.ofNat (↑(t (21 : Nat)).toNat : Int).toNat, UInt8.ofNat (↑(t (20 : Nat)).toNat : Int).toNat, UInt8.ofNat (↑(t (19 : Nat)).toNat : Int).toNat, UInt8.ofNat (↑(t (18 : Nat)).toNat : Int).toNat, UInt8.ofNat (↑(t (17 : Nat)).toNat : Int).toNat, UInt8.ofNat (↑(t (16 : Nat)).toNat : Int).toNat, UInt8.ofNat (↑(t (15 : Nat)).toNat : Int).toNat, UInt8.ofNat (↑(t (14 : Nat)).toNat : Int).toNat, UInt8.ofNat (↑(t (13 : Nat)).toNat : Int).toNat, UInt8.ofNat (↑(t (12 : Nat)).toNat : Int).toNat, UInt8.ofNat (↑(t (11 : Nat)).toNat : Int).toNat, UInt8.ofNat (↑(t (10 : Nat)).toNat : Int).toNat, UInt8.ofNat (↑(t (9 : Nat)).toNat : Int).toNat, UInt8.ofNat (↑(t (8 : Nat)).toNat : Int).toNat, UInt8.ofNat (↑(t (7 : Nat)).toNat : Int).toNat, UInt8.ofNat (↑(t (6 : Nat)).toNat : Int).toNat, UInt8.ofNat (↑(t (5 : Nat)).toNat : Int).toNat, UInt8.ofNat (↑(t (4 : Nat)).toNat : Int).toNat, UInt8.ofNat (↑(t (3 : Nat)).toNat : Int).toNat, UInt8.ofNat (↑(t (2 : Nat)).toNat : Int).toNat, UInt8.ofNat (↑(t (1 : Nat)).toNat : Int).toNat, UInt8.ofNat (↑(t (0 : Nat)).toNat : Int).toNat].reverse
noncomputable def tl (t : Nat → UInt8) : List AV := [AV.int IntKind.u8 (↑(t (0 : Nat)).toNat : Int), AV.int IntKind.u8 (↑(t (1 : Nat)).toNat : Int), AV.int IntKind.u8 (↑(t (2 : Nat)).toNat : Int), AV.int IntKind.u8 (↑(t (3 : Nat)).toNat : Int), AV.int IntKind.u8 (↑(t (4 : Nat)).toNat : Int), AV.int IntKind.u8 (↑(t (5 : Nat)).toNat : Int), AV.int IntKind.u8 (↑(t (6 : Nat)).toNat : Int), AV.int IntKind.u8 (↑(t (7 : Nat)).toNat : Int), AV.int IntKind.u8 (↑(t (8 : Nat)).toNat : Int), AV.int IntKind.u8 (↑(t (9 : Nat)).toNat : Int), AV.int IntKind.u8 (↑(t (10 : Nat)).toNat : Int), AV.int IntKind.u8 (↑(t (11 : Nat)).toNat : Int), AV.int IntKind.u8 (↑(t (12 : Nat)).toNat : Int), AV.int IntKind.u8 (↑(t (13 : Nat)).toNat : Int), AV.int IntKind.u8 (↑(t (14 : Nat)).toNat : Int), AV.int IntKind.u8 (↑(t (15 : Nat)).toNat : Int), AV.int IntKind.u8 (↑(t (16 : Nat)).toNat : Int), AV.int IntKind.u8 (↑(t (17 : Nat)).toNat : Int), AV.int IntKind.u8 (↑(t (18 : Nat)).toNat : Int), AV.int IntKind.u8 (↑(t (19 : Nat)).toNat : Int), AV.int IntKind.u8 (↑(t (20 : Nat)).toNat : Int), AV.int IntKind.u8 (↑(t (21 : Nat)).toNat : Int), AV.int IntKind.u8 (↑(t (22 : Nat)).toNat : Int), AV.int IntKind.u8 (↑(t (23 : Nat)).toNat : Int), AV.int IntKind.u8 (↑(t (24 : Nat)).toNat : Int), AV.int IntKind.u8 (↑(t (25 : Nat)).toNat : Int), AV.int IntKind.u8 (↑(t (26 : Nat)).toNat : Int), AV.int IntKind.u8 (↑(t (27 : Nat)).toNat : Int), AV.int IntKind.u8 (↑(t (28 : Nat)).toNat : Int), AV.int IntKind.u8 (↑(t (29 : Nat)).toNat : Int), AV.int IntKind.u8 (↑(t (30 : Nat)).toNat : Int), AV.int IntKind.u8 (↑(t (31 : Nat)).toNat : Int), AV.int IntKind.u8 (↑(t (32 : Nat)).toNat : Int), AV.int IntKind.u8 (↑(t (33 : Nat)).toNat : Int), AV.int IntKind.u8 (↑(t (34 : Nat)).toNat : Int), AV.int IntKind.u8 (↑(t (35 : Nat)).toNat : Int), AV.int IntKind.u8 (↑(t (36 : Nat)).toNat : Int), AV.int IntKind.u8 (↑(t (37 : Nat)).toNat : Int), AV.int IntKind.u8 (↑(t (38 : Nat)).toNat : Int), AV.int IntKind.u8 (↑(t (39 : Nat)).toNat : Int), AV.int IntKind.u8 (↑(t (40 : Nat)).toNat : Int), AV.int IntKind.u8 (↑(t (41 : Nat)).toNat : Int), AV.int IntKind.u8 (↑(t (42 : Nat)).toNat : Int), AV.int IntKind.u8 (↑(t (43 : Nat)).toNat : Int), AV.int IntKind.u8 (↑(t (44 : Nat)).toNat : Int), AV.int IntKind.u8 (↑(t (45 : Nat)).toNat : Int), AV.int IntKind.u8 (↑(t (46 : Nat)).toNat : Int), AV.int IntKind.u8 (↑(t (47 : Nat)).toNat : Int), AV.int IntKind.u8 (↑(t (48 : Nat)).toNat : Int), AV.int IntKind.u8 (↑(t (49 : Nat)).toNat : Int), AV.int IntKind.u8 (↑(t (50 : Nat)).toNat : Int), AV.int IntKind.u8 (↑(t (51 : Nat)).toNat : Int), AV.int IntKind.u8 (↑(t (52 : Nat)).toNat : Int), AV.int IntKind.u8 (↑(t (53 : Nat)).toNat : Int), AV.int IntKind.u8 (↑(t (54 : Nat)).toNat : Int), AV.int IntKind.u8 (↑(t (55 : Nat)).toNat : Int), AV.int IntKind.u8 (↑(t (56 : Nat)).toNat : Int), AV.int IntKind.u8 (↑(t (57 : Nat)).toNat : Int), AV.int IntKind.u8 (↑(t (58 : Nat)).toNat : Int), AV.int IntKind.u8 (↑(t (59 : Nat)).toNat : Int), AV.int IntKind.u8 (↑(t (60 : Nat)).toNat : Int), AV.int IntKind.u8 (↑(t (61 : Nat)).toNat : Int), AV.int IntKind.u8 (↑(t (62 : Nat)).toNat : Int), AV.int IntKind.u8 (↑(t (63 : Nat)).toNat : Int)]
noncomputable def tkT (t : Nat → UInt8) (now : Int) : T AV := (((((((T.leaf.node (some (AV.int IntKind.u8 (↑(t (63 : Nat)).toNat : Int))) T.leaf).node (some (AV.int IntKind.u8 (↑(t (31 : Nat)).toNat : Int))) T.leaf).node (some (AV.int IntKind.u8 (↑(t (15 : Nat)).toNat : Int))) (T.leaf.node (some (AV.int IntKind.u8 (↑(t (47 : Nat)).toNat : Int))) T.leaf)).node (some (AV.int IntKind.u8 (↑(t (7 : Nat)).toNat : Int))) ((T.leaf.node (some (AV.int IntKind.u8 (↑(t (39 : Nat)).toNat : Int))) T.leaf).node (some (AV.int IntKind.u8 (↑(t (23 : Nat)).toNat : Int))) (T.leaf.node (some (AV.int IntKind.u8 (↑(t (55 : Nat)).toNat : Int))) T.leaf))).node (some (AV.int IntKind.u8 (↑(t (3 : Nat)).toNat : Int))) (((T.leaf.node (some (AV.int IntKind.u8 (↑(t (35 : Nat)).toNat : Int))) T.leaf).node (some (AV.int IntKind.u8 (↑(t (19 : Nat)).toNat : Int))) (T.leaf.node (some (AV.int IntKind.u8 (↑(t (51 : Nat)).toNat : Int))) T.leaf)).node (some (AV.int IntKind.u8 (↑(t (11 : Nat)).toNat : Int))) ((T.leaf.node (some (AV.int IntKind.u8 (↑(t (43 : Nat)).toNat : Int))) T.leaf).node (some (AV.int IntKind.u8 (↑(t (27 : Nat)).toNat : Int))) (T.leaf.node (some (AV.int IntKind.u8 (↑(t (59 : Nat)).toNat : Int))) T.leaf)))).node (some (AV.int IntKind.u8 (↑(t (1 : Nat)).toNat : Int))) ((((T.leaf.node (some (AV.int IntKind.u8 (↑(t (33 : Nat)).toNat : Int))) T.leaf).node (some (AV.int IntKind.u8 (↑(t (17 : Nat)).toNat : Int))) (T.leaf.node (some (AV.int IntKind.u8 (↑(t (49 : Nat)).toNat : Int))) T.leaf)).node (some (AV.int IntKind.u8 (↑(t (9 : Nat)).toNat : Int))) ((T.leaf.node (some (AV.int IntKind.u8 (↑(t (41 : Nat)).toNat : Int))) T.leaf).node (some (AV.int IntKind.u8 (↑(t (25 : Nat)).toNat : Int))) (T.leaf.node (some (AV.int IntKind.u8 (↑(t (57 : Nat)).toNat : Int))) T.leaf))).node (some (AV.int IntKind.u8 (↑(t (5 : Nat)).toNat : Int))) (((T.leaf.node (some (AV.int IntKind.u8 (↑(t (37 : Nat)).toNat : Int))) T.leaf).node (some (AV.int IntKind.u8 (↑(t (21 : Nat)).toNat : Int))) (T.leaf.node (some (AV.int IntKind.u8 (↑(t (53 : Nat)).toNat : Int))) T.leaf)).node (some (AV.int IntKind.u8 (↑(t (13 : Nat)).toNat : Int))) ((T.leaf.node (some (AV.int IntKind.u8 (↑(t (45 : Nat)).toNat : Int))) T.leaf).node (some (AV.int IntKind.u8 (↑(t (29 : Nat)).toNat : Int))) (T.leaf.node (some (AV.int IntKind.u8 (↑(t (61 : Nat)).toNat : Int))) T.leaf))))).node (some (AV.int IntKind.u8 (↑(t (0 : Nat)).toNat : Int))) ((((((T.leaf.node (some (AV.int IntKind.u64 now)) T.leaf).node (some (AV.int IntKind.u8 (↑(t (32 : Nat)).toNat : Int))) T.leaf).node (some (AV.int IntKind.u8 (↑(t (16 : Nat)).toNat : Int))) (T.leaf.node (some (AV.int IntKind.u8 (↑(t (48 : Nat)).toNat : Int))) T.leaf)).node (some (AV.int IntKind.u8 (↑(t (8 : Nat)).toNat : Int))) ((T.leaf.node (some (AV.int IntKind.u8 (↑(t (40 : Nat)).toNat : Int))) T.leaf).node (some (AV.int IntKind.u8 (↑(t (24 : Nat)).toNat : Int))) (T.leaf.node (some (AV.int IntKind.u8 (↑(t (56 : Nat)).toNat : Int))) T.leaf))).node (some (AV.int IntKind.u8 (↑(t (4 : Nat)).toNat : Int))) (((T.leaf.node (some (AV.int IntKind.u8 (↑(t (36 : Nat)).toNat : Int))) T.leaf).node (some (AV.int IntKind.u8 (↑(t (20 : Nat)).toNat : Int))) (T.leaf.node (some (AV.int IntKind.u8 (↑(t (52 : Nat)).toNat : Int))) T.leaf)).node (some (AV.int IntKind.u8 (↑(t (12 : Nat)).toNat : Int))) ((T.leaf.node (some (AV.int IntKind.u8 (↑(t (44 : Nat)).toNat : Int))) T.leaf).node (some (AV.int IntKind.u8 (↑(t (28 : Nat)).toNat : Int))) (T.leaf.node (some (AV.int IntKind.u8 (↑(t (60 : Nat)).toNat : Int))) T.leaf)))).node (some (AV.int IntKind.u8 (↑(t (2 : Nat)).toNat : Int))) ((((T.leaf.node (some (AV.int IntKind.u8 (↑(t (34 : Nat)).toNat : Int))) T.leaf).node (some (AV.int IntKind.u8 (↑(t (18 : Nat)).toNat : Int))) (T.leaf.node (some (AV.int IntKind.u8 (↑(t (50 : Nat)).toNat : Int))) T.leaf)).node (some (AV.int IntKind.u8 (↑(t (10 : Nat)).toNat : Int))) ((T.leaf.node (some (AV.int IntKind.u8 (↑(t (42 : Nat)).toNat : Int))) T.leaf).node (some (AV.int IntKind.u8 (↑(t (26 : Nat)).toNat : Int))) (T.leaf.node (some (AV.int IntKind.u8 (↑(t (58 : Nat)).toNat : Int))) T.leaf))).node (some (AV.int IntKind.u8 (↑(t (6 : Nat)).toNat : Int))) (((T.leaf.node (some (AV.int IntKind.u8 (↑(t (38 : Nat)).toNat : Int))) T.leaf).node (some (AV.int IntKind.u8 (↑(t (22 : Nat)).toNat : Int))) (T.leaf.node (some (AV.int IntKind.u8 (↑(t (54 : Nat)).toNat : Int))) T.leaf)).node (some (AV.int IntKind.u8 (↑(t (14 : Nat)).toNat : Int))) ((T.leaf.node (some (AV.int IntKind.u8 (↑(t (46 : Nat)).toNat : Int))) T.leaf).node (some (AV.int IntKind.u8 (↑(t (30 : Nat)).toNat : Int))) (T.leaf.node (some (AV.int IntKind.u8 (↑(t (62 : Nat)).toNat : Int))) T.leaf))))))

noncomputable def LVg (secret : List UInt8) (ttl slots logins now i u : Int) (cell : Nat → AV) (n z : Nat) (G : T (T AV)) : AM := ⟨⟨6, 31, (.node (.node (.node .leaf none (.node (.node .leaf (some (.int .i64 u)) .leaf) none .leaf)) none (.node (.node (.node .leaf (some (.slg 1 1 0 n 0)) .leaf) none .leaf) (some (.fn (Fn.func (18 : Nat)) [] [.ptr 2 0 0, .ptr 3 0 0])) .leaf)) none (.node .leaf none (.node (.node (.node .leaf (some (.int .i64 (↑n : Int))) .leaf) none .leaf) (some (.int .i64 i)) .leaf))),
   [.code (cd P (6 : Nat) [(1 : Nat), (1 : Nat), (1 : Nat), (0 : Nat), (1 : Nat), (0 : Nat), (0 : Nat)]), .inLoop (cd P (6 : Nat) [(1 : Nat), (1 : Nat), (1 : Nat), (0 : Nat), (1 : Nat), (0 : Nat), (0 : Nat)]), .inBlock 0, .code (cd P (6 : Nat) [(1 : Nat), (1 : Nat), (1 : Nat), (1 : Nat)])], [], .run, CallKind.normal, none⟩,
  [],
  ⟨(.node (.node (.node .leaf (some (.cells (.node .leaf (some (.ptr 0 0 0)) .leaf) 1 24 0 0 1 0 false .leaf)) .leaf) (some (.cells (.fn fun c => some (cell c)) z 42 1 1 2 0 false .leaf)) .leaf) (some (.cells (.node (.node (.node .leaf (some (.int .u64 logins)) .leaf) (some (.int .u64 ttl)) .leaf) (some (.str secret)) (.node (.node .leaf (some (.slg 1 1 0 n 0)) .leaf) (some (.int .i64 slots)) .leaf)) 5 36 0 0 1 0 false .leaf)) (.node .leaf (some (.cells (.node .leaf (some (.int .u64 now)) .leaf) 1 26 0 0 1 0 false .leaf)) .leaf)), 4, G⟩⟩

theorem lwg (R : AV → AHeap → Prop) (secret : List UInt8) (ttl slots logins now i u : Int) (cell : Nat → AV) (c : Nat → Int) (s : Int) (n z : Nat) (G : T (T AV)) (K : AM → Prop) : Obl P 6 (fun v h => R v h) 2 K [.run 45, .can 2 [0, 1, 3, 2] [5, 6, 17, 18, 19] []] ((startH P 6 [.ptr 0 0 0, .int .u64 now] ⟨(.node (.node .leaf (some (.cells (.fn fun c => some (cell c)) z 42 1 1 2 0 false .leaf)) .leaf) (some (.cells (.node (.node (.node .leaf (some (.int .u64 logins)) .leaf) (some (.int .u64 ttl)) .leaf) (some (.str secret)) (.node (.node .leaf (some (.slg 1 1 0 n 0)) .leaf) (some (.int .i64 slots)) .leaf)) 5 36 0 0 1 0 false .leaf)) .leaf), 2, G⟩)) = ((PlainFn fun c => some (cell c)) ∧ K (LVg secret ttl slots logins now (Int.ofNat (0)) (Int.ofNat (0)) cell n z G)) := by kernel_rfl

theorem lvyyyg (R : AV → AHeap → Prop) (secret : List UInt8) (ttl slots logins now i u : Int) (cell : Nat → AV) (c : Nat → Int) (s : Int) (n z : Nat) (G : T (T AV)) (K : AM → Prop) : Obl P 6 (fun v h => R v h) 2 K [.run 5, .know 20 true, .run 6, .op, .op, .slot 22 (.agg (sc c s)), .run 20, .know 9 true, .run 16, .know 26 true, .run 12, .can 2 [0, 1, 2, 3] [5, 6, 17, 18, 19] []] ((LVg secret ttl slots logins now i u cell n z G)) = ((decide (u < (↑n : Int)) = true) ∧ ((0 : Int) ≤ u ∧ u < (↑n : Int)) ∧ (0 + u.toNat * 65 + 65 ≤ z) ∧ (AV.agg (rc cell (0 + u.toNat * 65)) = AV.agg (sc c s)) ∧ (decide (now ≥ s) = true) ∧ ((!decide (IntKind.u64.wrap (now - s) ≥ ttl)) = true) ∧ (PlainFn fun c => some (cell c)) ∧ K (LVg secret ttl slots logins now (IntKind.i64.wrap (i + (1 : Int))) (IntKind.i64.wrap (u + (1 : Int))) cell n z G)) := by kernel_rfl

theorem lvyyng (R : AV → AHeap → Prop) (secret : List UInt8) (ttl slots logins now i u : Int) (cell : Nat → AV) (c : Nat → Int) (s : Int) (n z : Nat) (G : T (T AV)) (K : AM → Prop) : Obl P 6 (fun v h => R v h) 2 K [.run 5, .know 20 true, .run 6, .op, .op, .slot 22 (.agg (sc c s)), .run 20, .know 9 true, .run 16, .know 26 false, .run 8, .can 2 [0, 1, 2, 3] [5, 6, 17, 18, 19] []] ((LVg secret ttl slots logins now i u cell n z G)) = ((decide (u < (↑n : Int)) = true) ∧ ((0 : Int) ≤ u ∧ u < (↑n : Int)) ∧ (0 + u.toNat * 65 + 65 ≤ z) ∧ (AV.agg (rc cell (0 + u.toNat * 65)) = AV.agg (sc c s)) ∧ (decide (now ≥ s) = true) ∧ ((!decide (IntKind.u64.wrap (now - s) ≥ ttl)) = false) ∧ (PlainFn fun c => some (cell c)) ∧ K (LVg secret ttl slots logins now i (IntKind.i64.wrap (u + (1 : Int))) cell n z G)) := by kernel_rfl

theorem lvng (R : AV → AHeap → Prop) (secret : List UInt8) (ttl slots logins now i u : Int) (cell : Nat → AV) (c : Nat → Int) (s : Int) (n z : Nat) (G : T (T AV)) (_K : AM → Prop) : Obl P 6 (fun v h => R v h) 2 _K [.run 5, .know 20 false, .run 8, .can 2 [0, 1] [4] [], .done] ((LVg secret ttl slots logins now i u cell n z G)) = ((decide (u < (↑n : Int)) = false) ∧ (PlainFn fun c => some (cell c)) ∧ (R (.int .i64 i) (⟨(.node (.node .leaf (some (.cells (.fn fun c => some (cell c)) z 42 1 1 2 0 false .leaf)) .leaf) (some (.cells (.node (.node (.node .leaf (some (.int .u64 logins)) .leaf) (some (.int .u64 ttl)) .leaf) (some (.str secret)) (.node (.node .leaf (some (.slg 1 1 0 n 0)) .leaf) (some (.int .i64 slots)) .leaf)) 5 36 0 0 1 0 false .leaf)) .leaf), 2, G⟩))) := by kernel_rfl

theorem live_loopg {secret : List UInt8} {ttl slots logins now : Int} {b : Nat → Nat → Int} {s : Nat → Int} {n z : Nat} {G : T (T AV)} (hs : ∀ k, k < n → s k ≤ now) (hz : n * 65 ≤ z) (hn : n < 1000000) :
    ∀ r u, u + r = n → Goal P 2 6 (fun v h => v = .int .i64 ((((sl s 0 n).filter (al now ttl)).length : Nat) : Int) ∧ h = H2g secret ttl slots logins (el b s) n z G) (LVg secret ttl slots logins now (((((sl s 0 u).filter (al now ttl)).length : Nat)) : Int) (u : Int) (el b s) n z G)
  | 0, u, hu => by
    obtain rfl : u = n := by omega
    exact Obl.goal (K := Goal P 2 6 _) mix (fun _ h => h) (cast (lvng (fun v h => v = .int .i64 ((((sl s 0 u).filter (al now ttl)).length : Nat) : Int) ∧ h = H2g secret ttl slots logins (el b s) u z G) _ _ _ _ _ _ _ _ (fun _ => 0) 0 _ _ _ _).symm ⟨decide_eq_false (by omega), el_plain _ _, rfl, rfl⟩)
  | r + 1, u, hu => by
    have hlen : ((sl s 0 u).filter (al now ttl)).length ≤ u := by
      have : ∀ r j, (sl s j r).length = r := fun r => by
        induction r with
        | zero => intro j; rfl
        | succ r ih => intro j; show (sl s (j + 1) r).length + 1 = r + 1; rw [ih]
      exact Nat.le_trans (List.length_filter_le _ _) (Nat.le_of_eq (this _ _))
    have hw : IntKind.i64.wrap ((u : Int) + 1) = ((u + 1 : Nat) : Int) := by rw [IntWalk.i64_in _ (by omega)]; omega
    have ih := live_loopg (secret := secret) (slots := slots) (logins := logins) (ttl := ttl) (b := b) (G := G) hs hz hn r (u + 1) (by omega)
    rw [sl_snoc, Nat.zero_add, List.filter_append] at ih
    by_cases ha : al now ttl (s u) = true
    · rw [List.filter_cons_of_pos ha, List.filter_nil, List.length_append] at ih
      refine Obl.goal (K := Goal P 2 6 _) mix (fun _ h => h) (cast (lvyyyg (fun v h => v = .int .i64 ((((sl s 0 n).filter (al now ttl)).length : Nat) : Int) ∧ h = H2g secret ttl slots logins (el b s) n z G) _ _ _ _ _ _ _ _ (b u) (s u) _ _ _ _).symm ⟨decide_eq_true (by omega), ⟨by omega, by omega⟩, by rw [Int.toNat_natCast]; omega, agg_el b s u, decide_eq_true (hs u (by omega)), ha, el_plain _ _, ?_⟩)
      rw [hw, IntWalk.i64_in _ (by omega)]
      exact ih
    · rw [List.filter_cons_of_neg ha, List.filter_nil, List.append_nil] at ih
      refine Obl.goal (K := Goal P 2 6 _) mix (fun _ h => h) (cast (lvyyng (fun v h => v = .int .i64 ((((sl s 0 n).filter (al now ttl)).length : Nat) : Int) ∧ h = H2g secret ttl slots logins (el b s) n z G) _ _ _ _ _ _ _ _ (b u) (s u) _ _ _ _).symm ⟨decide_eq_true (by omega), ⟨by omega, by omega⟩, by rw [Int.toNat_natCast]; omega, agg_el b s u, decide_eq_true (hs u (by omega)), Bool.not_eq_true _ ▸ ha, el_plain _ _, ?_⟩)
      rw [hw]
      exact ih

theorem live_okg {secret : List UInt8} {ttl slots logins now : Int} {b : Nat → Nat → Int} {s : Nat → Int} {n z : Nat} {G : T (T AV)} (hs : ∀ k, k < n → s k ≤ now) (hz : n * 65 ≤ z) (hn : n < 1000000) :
    Goal P 2 6 (fun v h => v = .int .i64 ((((sl s 0 n).filter (al now ttl)).length : Nat) : Int) ∧ h = H2g secret ttl slots logins (el b s) n z G) (startH P 6 [.ptr 0 0 0, .int .u64 now] (H2g secret ttl slots logins (el b s) n z G)) :=
  Obl.goal (K := Goal P 2 6 _) mix (fun _ h => h) (cast (lwg (fun v h => v = .int .i64 ((((sl s 0 n).filter (al now ttl)).length : Nat) : Int) ∧ h = H2g secret ttl slots logins (el b s) n z G) _ _ _ _ _ 0 0 _ (fun _ => 0) 0 _ _ _ _).symm ⟨el_plain _ _, live_loopg (b := b) hs hz hn n 0 (by omega)⟩)


theorem lgy (R : AV → AHeap → Prop) (secret nonce : List UInt8) (ttl slots logins now : Int) (cell cell' cell'' : Nat → AV) (b : Nat → Int) (t : Nat → UInt8) (n m z z'' : Nat) (G : T (T AV)) (_K : AM → Prop) : Obl P 7 (fun v h => R v h) 2 _K [.run 22, .callv [0, 1] (.bool true), .run 26, .step, .run 1, .callh [(0, 1, [1, 0]), (1, 0, []), (2, 1, [1]), (3, 1, [0])] [0, 1] (.slg 1 0 0 m 0) ⟨(.node (.node (.node .leaf (some (.cells (.node .leaf (some (.int .u64 now)) .leaf) 1 26 0 0 1 0 false .leaf)) .leaf) (some (.cells (.fn fun c => some (cell' c)) z 42 0 0 1 0 false .leaf)) .leaf) (some (.cells (.node (.node (.node .leaf (some (.int .u64 logins)) .leaf) (some (.int .u64 ttl)) .leaf) (some (.str secret)) (.node (.node .leaf (some (.slg 1 0 0 n 0)) .leaf) (some (.int .i64 slots)) .leaf)) 5 36 0 0 1 0 false .leaf)) (.node .leaf (some (.cells (.node .leaf (some (.ptr 0 0 0)) .leaf) 1 24 0 0 1 0 false .leaf)) .leaf)), 4, G⟩, .run 18, .know 40 true, .run 7, .can 2 [0, 1] [8, 9] [], .done] ((startH P 7 [.ptr 0 0 0, .str secret, .str nonce, .int .u64 now] ⟨(.node (.node .leaf (some (.cells (.fn fun c => some (cell c)) z 42 0 0 1 0 false .leaf)) .leaf) (some (.cells (.node (.node (.node .leaf (some (.int .u64 logins)) .leaf) (some (.int .u64 ttl)) .leaf) (some (.str secret)) (.node (.node .leaf (some (.slg 1 0 0 n 0)) .leaf) (some (.int .i64 slots)) .leaf)) 5 36 0 0 1 0 false .leaf)) .leaf), 2, G⟩)) = ((Goal P (0) 11 (fun x x_1 => x = AV.bool true) (startM P 11 [.str secret, .str secret] G)) ∧ (some (AV.slg (1) (0) (0) n (0)) = some (AV.slg (1) (0) (0) n (0))) ∧ (PlainFn fun c => some (cell c)) ∧ (PlainFn fun c => some (cell' c)) ∧ (Goal P (4) 12 (fun x k => x = AV.slg (1 : Nat) (0 : Nat) (0 : Nat) m (0 : Nat) ∧ k = { objs := ((T.leaf.node (some (AObj.cells (T.leaf.node (some (AV.int IntKind.u64 now)) T.leaf) (1 : Nat) (26 : TypeId) (0 : Nat) (0 : Nat) (1 : Nat) (0 : Nat) false T.leaf)) T.leaf).node (some (AObj.cells (T.fn fun c => some (cell' c)) z (42 : TypeId) (0 : Nat) (0 : Nat) (1 : Nat) (0 : Nat) false T.leaf)) T.leaf).node (some (AObj.cells (((T.leaf.node (some (AV.int IntKind.u64 logins)) T.leaf).node (some (AV.int IntKind.u64 ttl)) T.leaf).node (some (AV.str secret)) ((T.leaf.node (some (AV.slg (1 : Nat) (0 : Nat) (0 : Nat) n (0 : Nat))) T.leaf).node (some (AV.int IntKind.i64 slots)) T.leaf)) (5 : Nat) (36 : TypeId) (0 : Nat) (0 : Nat) (1 : Nat) (0 : Nat) false T.leaf)) (T.leaf.node (some (AObj.cells (T.leaf.node (some (AV.ptr (0 : Nat) (0 : Nat) (0 : Nat))) T.leaf) (1 : Nat) (24 : TypeId) (0 : Nat) (0 : Nat) (1 : Nat) (0 : Nat) false T.leaf)) T.leaf), next := (4 : Nat), glob := G }) (startH P 12 [.slg 1 0 0 n 0, .fn (Fn.func (18 : Nat)) [] [.ptr 3 0 0, .ptr 2 0 0]] ⟨(.node (.node (.node .leaf (some (.cells (.node .leaf (some (.int .u64 now)) .leaf) 1 26 0 0 1 0 false .leaf)) .leaf) (some (.cells (.fn fun c => some (cell c)) z 42 0 0 1 0 false .leaf)) .leaf) (some (.cells (.node (.node (.node .leaf (some (.int .u64 logins)) .leaf) (some (.int .u64 ttl)) .leaf) (some (.str secret)) (.node (.node .leaf (some (.slg 1 0 0 n 0)) .leaf) (some (.int .i64 slots)) .leaf)) 5 36 0 0 1 0 false .leaf)) (.node .leaf (some (.cells (.node .leaf (some (.ptr 0 0 0)) .leaf) 1 24 0 0 1 0 false .leaf)) .leaf)), 4, G⟩)) ∧ (decide ((↑m : Int) ≥ slots) = true) ∧ (PlainFn fun c => some (cell' c)) ∧ (R (.tup [.str [], .int .i64 12]) (⟨(.node (.node .leaf (some (.cells (.fn fun c => some (cell' c)) z 42 0 0 1 0 false .leaf)) .leaf) (some (.cells (.node (.node (.node .leaf (some (.int .u64 logins)) .leaf) (some (.int .u64 ttl)) .leaf) (some (.str secret)) (.node (.node .leaf (some (.slg 1 0 0 m 0)) .leaf) (some (.int .i64 slots)) .leaf)) 5 36 0 0 1 0 false .leaf)) .leaf), 2, G⟩))) := by kernel_rfl

theorem lgF (R : AV → AHeap → Prop) (secret nonce : List UInt8) (ttl slots logins now : Int) (cell cell' cell'' : Nat → AV) (b : Nat → Int) (t : Nat → UInt8) (n m z z'' : Nat) (G : T (T AV)) (_K : AM → Prop) : Obl P 7 (fun v h => R v h) 2 _K [.run 22, .callv [0, 1] (.bool true), .run 26, .step, .run 1, .callh [(0, 1, [1, 0]), (1, 0, []), (2, 1, [1]), (3, 1, [0])] [0, 1] (.slg 1 0 0 m 0) ⟨(.node (.node (.node .leaf (some (.cells (.node .leaf (some (.int .u64 now)) .leaf) 1 26 0 0 1 0 false .leaf)) .leaf) (some (.cells (.fn fun c => some (cell' c)) z 42 0 0 1 0 false .leaf)) .leaf) (some (.cells (.node (.node (.node .leaf (some (.int .u64 logins)) .leaf) (some (.int .u64 ttl)) .leaf) (some (.str secret)) (.node (.node .leaf (some (.slg 1 0 0 n 0)) .leaf) (some (.int .i64 slots)) .leaf)) 5 36 0 0 1 0 false .leaf)) (.node .leaf (some (.cells (.node .leaf (some (.ptr 0 0 0)) .leaf) 1 24 0 0 1 0 false .leaf)) .leaf)), 4, G⟩, .run 18, .know 40 false, .run 335, .op, .run 1, .callv [0, 1] (sm b), .run 1, .callv [0] (.str (tx t)), .run 22, .step, .opw false, .run 12, .told 1 (.fn fun c => some (cell'' c)) z'', .can 2 [0, 1] [8, 9] [], .done] ((startH P 7 [.ptr 0 0 0, .str secret, .str nonce, .int .u64 now] ⟨(.node (.node .leaf (some (.cells (.fn fun c => some (cell c)) z 42 0 0 1 0 false .leaf)) .leaf) (some (.cells (.node (.node (.node .leaf (some (.int .u64 logins)) .leaf) (some (.int .u64 ttl)) .leaf) (some (.str secret)) (.node (.node .leaf (some (.slg 1 0 0 n 0)) .leaf) (some (.int .i64 slots)) .leaf)) 5 36 0 0 1 0 false .leaf)) .leaf), 2, G⟩)) = ((Goal P (0) 11 (fun x x_1 => x = AV.bool true) (startM P 11 [.str secret, .str secret] G)) ∧ (some (AV.slg (1) (0) (0) n (0)) = some (AV.slg (1) (0) (0) n (0))) ∧ (PlainFn fun c => some (cell c)) ∧ (PlainFn fun c => some (cell' c)) ∧ (Goal P (4) 12 (fun x k => x = AV.slg (1 : Nat) (0 : Nat) (0 : Nat) m (0 : Nat) ∧ k = { objs := ((T.leaf.node (some (AObj.cells (T.leaf.node (some (AV.int IntKind.u64 now)) T.leaf) (1 : Nat) (26 : TypeId) (0 : Nat) (0 : Nat) (1 : Nat) (0 : Nat) false T.leaf)) T.leaf).node (some (AObj.cells (T.fn fun c => some (cell' c)) z (42 : TypeId) (0 : Nat) (0 : Nat) (1 : Nat) (0 : Nat) false T.leaf)) T.leaf).node (some (AObj.cells (((T.leaf.node (some (AV.int IntKind.u64 logins)) T.leaf).node (some (AV.int IntKind.u64 ttl)) T.leaf).node (some (AV.str secret)) ((T.leaf.node (some (AV.slg (1 : Nat) (0 : Nat) (0 : Nat) n (0 : Nat))) T.leaf).node (some (AV.int IntKind.i64 slots)) T.leaf)) (5 : Nat) (36 : TypeId) (0 : Nat) (0 : Nat) (1 : Nat) (0 : Nat) false T.leaf)) (T.leaf.node (some (AObj.cells (T.leaf.node (some (AV.ptr (0 : Nat) (0 : Nat) (0 : Nat))) T.leaf) (1 : Nat) (24 : TypeId) (0 : Nat) (0 : Nat) (1 : Nat) (0 : Nat) false T.leaf)) T.leaf), next := (4 : Nat), glob := G }) (startH P 12 [.slg 1 0 0 n 0, .fn (Fn.func (18 : Nat)) [] [.ptr 3 0 0, .ptr 2 0 0]] ⟨(.node (.node (.node .leaf (some (.cells (.node .leaf (some (.int .u64 now)) .leaf) 1 26 0 0 1 0 false .leaf)) .leaf) (some (.cells (.fn fun c => some (cell c)) z 42 0 0 1 0 false .leaf)) .leaf) (some (.cells (.node (.node (.node .leaf (some (.int .u64 logins)) .leaf) (some (.int .u64 ttl)) .leaf) (some (.str secret)) (.node (.node .leaf (some (.slg 1 0 0 n 0)) .leaf) (some (.int .i64 slots)) .leaf)) 5 36 0 0 1 0 false .leaf)) (.node .leaf (some (.cells (.node .leaf (some (.ptr 0 0 0)) .leaf) 1 24 0 0 1 0 false .leaf)) .leaf)), 4, G⟩)) ∧ (decide ((↑m : Int) ≥ slots) = false) ∧ (nonce.length + (num8 logins).length < 1099511627776) ∧ (Goal P (0) 20 (fun x x_1 => x = sm b) (startM P 20 [.str secret, .str (nonce ++ (num8 logins))] G)) ∧ (some (AV.slc (6) (0) (0) (64) (64)) = some (AV.slc (6) (0) (0) (64) (64))) ∧ (Goal P (0) 19 (fun x x_1 => x = AV.str (tx t)) (startM P 19 [sm b] G)) ∧ (some (AV.slc (6) (0) (0) (64) (64)) = some (AV.slc (6) (0) (0) (64) (64))) ∧ (some (AV.agg (tl t)) = some (AV.agg (tl t))) ∧ (some (AV.slg (1) (0) (0) m (0)) = some (AV.slg (1) (0) (0) m (0))) ∧ ((0 + 1 * 65 ≤ 65 ∧ ∀ (k : Nat), k < 1 * 65 → ∃ v, (tkT t now).get (0 + k) = some v ∧ v.one = true) ∧ (0 : Nat) < 1 ∧ 0 + m * 65 ≤ z ∧ 0 ≤ 0 + m * 65 ∧ 0 = 0 * 65 ∧ roomA (m + 1) (72) = true ∧ z < 0 + (m + 1) * 65) ∧ (Tells (z'') ((.fn fun c => some (cell'' c))) ((.fn fun k => bif (0 + m * 65).ble k && k.blt (0 + m * 65 + 1 * 65) then (fun k => (tkT t now).get (0 + k)) (k - (0 + m * 65)) else (T.fn fun c => some (cell' c)).get k))) ∧ (z'' = 0 + m * 65 + 65) ∧ (PlainFn fun c => some (cell'' c)) ∧ (R (.tup [.str (ux t), .int .i64 0]) (⟨(.node (.node .leaf (some (.cells (.fn fun c => some (cell'' c)) z'' 42 1 1 2 0 false .leaf)) .leaf) (some (.cells (.node (.node (.node .leaf (some (.int .u64 (IntKind.u64.wrap (logins + (1 : Int))))) .leaf) (some (.int .u64 ttl)) .leaf) (some (.str secret)) (.node (.node .leaf (some (.slg 1 1 0 (m + 1) 0)) .leaf) (some (.int .i64 slots)) .leaf)) 5 36 0 0 1 0 false .leaf)) .leaf), 2, G⟩))) := by kernel_rfl

theorem lgT (R : AV → AHeap → Prop) (secret nonce : List UInt8) (ttl slots logins now : Int) (cell cell' cell'' : Nat → AV) (b : Nat → Int) (t : Nat → UInt8) (n m z z'' : Nat) (G : T (T AV)) (_K : AM → Prop) : Obl P 7 (fun v h => R v h) 2 _K [.run 22, .callv [0, 1] (.bool true), .run 26, .step, .run 1, .callh [(0, 1, [1, 0]), (1, 0, []), (2, 1, [1]), (3, 1, [0])] [0, 1] (.slg 1 0 0 m 0) ⟨(.node (.node (.node .leaf (some (.cells (.node .leaf (some (.int .u64 now)) .leaf) 1 26 0 0 1 0 false .leaf)) .leaf) (some (.cells (.fn fun c => some (cell' c)) z 42 0 0 1 0 false .leaf)) .leaf) (some (.cells (.node (.node (.node .leaf (some (.int .u64 logins)) .leaf) (some (.int .u64 ttl)) .leaf) (some (.str secret)) (.node (.node .leaf (some (.slg 1 0 0 n 0)) .leaf) (some (.int .i64 slots)) .leaf)) 5 36 0 0 1 0 false .leaf)) (.node .leaf (some (.cells (.node .leaf (some (.ptr 0 0 0)) .leaf) 1 24 0 0 1 0 false .leaf)) .leaf)), 4, G⟩, .run 18, .know 40 false, .run 335, .op, .run 1, .callv [0, 1] (sm b), .run 1, .callv [0] (.str (tx t)), .run 22, .step, .opw true, .run 12, .told 1 (.fn fun c => some (cell'' c)) z'', .can 2 [0, 1] [8, 9] [], .done] ((startH P 7 [.ptr 0 0 0, .str secret, .str nonce, .int .u64 now] ⟨(.node (.node .leaf (some (.cells (.fn fun c => some (cell c)) z 42 0 0 1 0 false .leaf)) .leaf) (some (.cells (.node (.node (.node .leaf (some (.int .u64 logins)) .leaf) (some (.int .u64 ttl)) .leaf) (some (.str secret)) (.node (.node .leaf (some (.slg 1 0 0 n 0)) .leaf) (some (.int .i64 slots)) .leaf)) 5 36 0 0 1 0 false .leaf)) .leaf), 2, G⟩)) = ((Goal P (0) 11 (fun x x_1 => x = AV.bool true) (startM P 11 [.str secret, .str secret] G)) ∧ (some (AV.slg (1) (0) (0) n (0)) = some (AV.slg (1) (0) (0) n (0))) ∧ (PlainFn fun c => some (cell c)) ∧ (PlainFn fun c => some (cell' c)) ∧ (Goal P (4) 12 (fun x k => x = AV.slg (1 : Nat) (0 : Nat) (0 : Nat) m (0 : Nat) ∧ k = { objs := ((T.leaf.node (some (AObj.cells (T.leaf.node (some (AV.int IntKind.u64 now)) T.leaf) (1 : Nat) (26 : TypeId) (0 : Nat) (0 : Nat) (1 : Nat) (0 : Nat) false T.leaf)) T.leaf).node (some (AObj.cells (T.fn fun c => some (cell' c)) z (42 : TypeId) (0 : Nat) (0 : Nat) (1 : Nat) (0 : Nat) false T.leaf)) T.leaf).node (some (AObj.cells (((T.leaf.node (some (AV.int IntKind.u64 logins)) T.leaf).node (some (AV.int IntKind.u64 ttl)) T.leaf).node (some (AV.str secret)) ((T.leaf.node (some (AV.slg (1 : Nat) (0 : Nat) (0 : Nat) n (0 : Nat))) T.leaf).node (some (AV.int IntKind.i64 slots)) T.leaf)) (5 : Nat) (36 : TypeId) (0 : Nat) (0 : Nat) (1 : Nat) (0 : Nat) false T.leaf)) (T.leaf.node (some (AObj.cells (T.leaf.node (some (AV.ptr (0 : Nat) (0 : Nat) (0 : Nat))) T.leaf) (1 : Nat) (24 : TypeId) (0 : Nat) (0 : Nat) (1 : Nat) (0 : Nat) false T.leaf)) T.leaf), next := (4 : Nat), glob := G }) (startH P 12 [.slg 1 0 0 n 0, .fn (Fn.func (18 : Nat)) [] [.ptr 3 0 0, .ptr 2 0 0]] ⟨(.node (.node (.node .leaf (some (.cells (.node .leaf (some (.int .u64 now)) .leaf) 1 26 0 0 1 0 false .leaf)) .leaf) (some (.cells (.fn fun c => some (cell c)) z 42 0 0 1 0 false .leaf)) .leaf) (some (.cells (.node (.node (.node .leaf (some (.int .u64 logins)) .leaf) (some (.int .u64 ttl)) .leaf) (some (.str secret)) (.node (.node .leaf (some (.slg 1 0 0 n 0)) .leaf) (some (.int .i64 slots)) .leaf)) 5 36 0 0 1 0 false .leaf)) (.node .leaf (some (.cells (.node .leaf (some (.ptr 0 0 0)) .leaf) 1 24 0 0 1 0 false .leaf)) .leaf)), 4, G⟩)) ∧ (decide ((↑m : Int) ≥ slots) = false) ∧ (nonce.length + (num8 logins).length < 1099511627776) ∧ (Goal P (0) 20 (fun x x_1 => x = sm b) (startM P 20 [.str secret, .str (nonce ++ (num8 logins))] G)) ∧ (some (AV.slc (6) (0) (0) (64) (64)) = some (AV.slc (6) (0) (0) (64) (64))) ∧ (Goal P (0) 19 (fun x x_1 => x = AV.str (tx t)) (startM P 19 [sm b] G)) ∧ (some (AV.slc (6) (0) (0) (64) (64)) = some (AV.slc (6) (0) (0) (64) (64))) ∧ (some (AV.agg (tl t)) = some (AV.agg (tl t))) ∧ (some (AV.slg (1) (0) (0) m (0)) = some (AV.slg (1) (0) (0) m (0))) ∧ ((0 + 1 * 65 ≤ 65 ∧ ∀ (k : Nat), k < 1 * 65 → ∃ v, (tkT t now).get (0 + k) = some v ∧ v.one = true) ∧ (0 : Nat) < 1 ∧ 0 + (m + 1) * 65 ≤ z ∧ 0 + m * 65 + 65 ≤ z ∧ 0 ≤ 0 + m * 65 ∧ 0 = 0 * 65) ∧ (Tells (z'') ((.fn fun c => some (cell'' c))) ((.fn fun k => bif (0 + m * 65).ble k && k.blt (0 + m * 65 + 1 * 65) then (fun k => (tkT t now).get (0 + k)) (k - (0 + m * 65)) else (T.fn fun c => some (cell' c)).get k))) ∧ (z'' = z) ∧ (PlainFn fun c => some (cell'' c)) ∧ (R (.tup [.str (ux t), .int .i64 0]) (⟨(.node (.node .leaf (some (.cells (.fn fun c => some (cell'' c)) z'' 42 0 0 1 0 false .leaf)) .leaf) (some (.cells (.node (.node (.node .leaf (some (.int .u64 (IntKind.u64.wrap (logins + (1 : Int))))) .leaf) (some (.int .u64 ttl)) .leaf) (some (.str secret)) (.node (.node .leaf (some (.slg 1 0 0 (m + 1) 0)) .leaf) (some (.int .i64 slots)) .leaf)) 5 36 0 0 1 0 false .leaf)) .leaf), 2, G⟩))) := by kernel_rfl

theorem lny (R : AV → AHeap → Prop) (secret nonce : List UInt8) (ttl slots logins now : Int) (cell cell' cell'' : Nat → AV) (b : Nat → Int) (t : Nat → UInt8) (n m z z'' : Nat) (G : T (T AV)) (_K : AM → Prop) : Obl P 7 (fun v h => R v h) 1 _K [.run 22, .callv [0, 1] (.bool true), .run 97, .know 40 true, .run 7, .can 1 [0] [8, 9] [], .done] ((startH P 7 [.ptr 0 0 0, .str secret, .str nonce, .int .u64 now] ⟨(.node .leaf (some (.cells (.node (.node (.node .leaf (some (.int .u64 logins)) .leaf) (some (.int .u64 ttl)) .leaf) (some (.str secret)) (.node (.node .leaf (some (.nils 0 0)) .leaf) (some (.int .i64 slots)) .leaf)) 5 36 0 0 1 0 false .leaf)) .leaf), 1, G⟩)) = ((Goal P (0) 11 (fun x x_1 => x = AV.bool true) (startM P 11 [.str secret, .str secret] G)) ∧ (decide (Int.ofNat (0) ≥ slots) = true) ∧ (R (.tup [.str [], .int .i64 12]) (⟨(.node .leaf (some (.cells (.node (.node (.node .leaf (some (.int .u64 logins)) .leaf) (some (.int .u64 ttl)) .leaf) (some (.str secret)) (.node (.node .leaf (some (.nils 0 0)) .leaf) (some (.int .i64 slots)) .leaf)) 5 36 0 0 1 0 false .leaf)) .leaf), 1, G⟩))) := by kernel_rfl

theorem lnn (R : AV → AHeap → Prop) (secret nonce : List UInt8) (ttl slots logins now : Int) (cell cell' cell'' : Nat → AV) (b : Nat → Int) (t : Nat → UInt8) (n m z z'' : Nat) (G : T (T AV)) (_K : AM → Prop) : Obl P 7 (fun v h => R v h) 1 _K [.run 22, .callv [0, 1] (.bool true), .run 97, .know 40 false, .run 335, .op, .run 1, .callv [0, 1] (sm b), .run 1, .callv [0] (.str (tx t)), .run 22, .step, .run 13, .told 8 (.fn fun c => some (cell'' c)) z'', .can 1 [0, 8] [8, 9] [], .done] ((startH P 7 [.ptr 0 0 0, .str secret, .str nonce, .int .u64 now] ⟨(.node .leaf (some (.cells (.node (.node (.node .leaf (some (.int .u64 logins)) .leaf) (some (.int .u64 ttl)) .leaf) (some (.str secret)) (.node (.node .leaf (some (.nils 0 0)) .leaf) (some (.int .i64 slots)) .leaf)) 5 36 0 0 1 0 false .leaf)) .leaf), 1, G⟩)) = ((Goal P (0) 11 (fun x x_1 => x = AV.bool true) (startM P 11 [.str secret, .str secret] G)) ∧ (decide (Int.ofNat (0) ≥ slots) = false) ∧ (nonce.length + (num8 logins).length < 1099511627776) ∧ (Goal P (0) 20 (fun x x_1 => x = sm b) (startM P 20 [.str secret, .str (nonce ++ (num8 logins))] G)) ∧ (some (AV.slc (5) (0) (0) (64) (64)) = some (AV.slc (5) (0) (0) (64) (64))) ∧ (Goal P (0) 19 (fun x x_1 => x = AV.str (tx t)) (startM P 19 [sm b] G)) ∧ (some (AV.slc (5) (0) (0) (64) (64)) = some (AV.slc (5) (0) (0) (64) (64))) ∧ (some (AV.agg (tl t)) = some (AV.agg (tl t))) ∧ (some (AV.nils (0) (0)) = some (AV.nils (0) (0))) ∧ (Tells (z'') ((.fn fun c => some (cell'' c))) ((tkT t now))) ∧ (z'' = 65) ∧ (PlainFn fun c => some (cell'' c)) ∧ (R (.tup [.str (ux t), .int .i64 0]) (⟨(.node (.node .leaf (some (.cells (.fn fun c => some (cell'' c)) z'' 42 0 0 1 0 false .leaf)) .leaf) (some (.cells (.node (.node (.node .leaf (some (.int .u64 (IntKind.u64.wrap (logins + (1 : Int))))) .leaf) (some (.int .u64 ttl)) .leaf) (some (.str secret)) (.node (.node .leaf (some (.slg 1 0 0 1 0)) .leaf) (some (.int .i64 slots)) .leaf)) 5 36 0 0 1 0 false .leaf)) .leaf), 2, G⟩))) := by kernel_rfl

theorem tkT_all (t : Nat → UInt8) (now : Int) : ((List.range 65).map fun r => (tkT t now).get r) = (List.range 65).map fun r => some (bif Nat.blt r 64 then AV.int .u8 ((t r).toNat : Int) else .int .u64 now) := by kernel_rfl

theorem tkT_get (t : Nat → UInt8) (now : Int) {r : Nat} (h : r < 65) : (tkT t now).get r = some (bif Nat.blt r 64 then AV.int .u8 ((t r).toNat : Int) else .int .u64 now) := by
  have := congrArg (fun l => l[r]?) (tkT_all t now)
  simp only [List.getElem?_map, List.getElem?_range h, Option.map_some] at this
  exact Option.some.inj this

def ct (t : Nat → UInt8) (j : Nat) : Int := ((t j).toNat : Int)

theorem one_new (t : Nat → UInt8) (now : Int) : 0 + 1 * 65 ≤ 65 ∧ ∀ (k : Nat), k < 1 * 65 → ∃ v, (tkT t now).get (0 + k) = some v ∧ v.one = true :=
  ⟨by decide, fun k hk => ⟨_, by rw [Nat.zero_add]; exact tkT_get t now (by omega), by cases Nat.blt k 64 <;> rfl⟩⟩

theorem tells_new (b : Nat → Nat → Int) (s : Nat → Int) (m : Nat) (t : Nat → UInt8) (now : Int) (z : Nat) :
    Tells z (.fn fun k => some (el (upd b m (ct t)) (upd s m now) k)) (.fn fun k => bif (0 + m * 65).ble k && k.blt (0 + m * 65 + 1 * 65) then (fun k => (tkT t now).get (0 + k)) (k - (0 + m * 65)) else (T.fn fun c => some (el b s c)).get k) := by
  intro k v hk h
  have h : some (el (upd b m (ct t)) (upd s m now) k) = some v := h
  rw [← h]
  show (bif (0 + m * 65).ble k && k.blt (0 + m * 65 + 1 * 65) then (tkT t now).get (0 + (k - (0 + m * 65))) else some (el b s k)) = _
  by_cases hin : m * 65 ≤ k ∧ k < m * 65 + 65
  · have e : ((0 + m * 65).ble k && k.blt (0 + m * 65 + 1 * 65)) = true := by
      rw [Bool.and_eq_true, Nat.ble_eq, Nat.blt_eq]; omega
    rw [e, cond_true, Nat.zero_add (k - (0 + m * 65)), tkT_get t now (by omega)]
    have h1 : k / 65 = m := by omega
    have h2 : k % 65 = k - (0 + m * 65) := by omega
    unfold el
    rw [h1, h2]
    unfold upd
    rw [if_pos rfl, if_pos rfl]
    rfl
  · have e : ((0 + m * 65).ble k && k.blt (0 + m * 65 + 1 * 65)) = false := by
      rw [← Bool.not_eq_true, Bool.and_eq_true, Nat.ble_eq, Nat.blt_eq]; omega
    rw [e, cond_false]
    have h1 : ¬ k / 65 = m := by omega
    unfold el upd
    rw [if_neg h1, if_neg h1]

theorem tells_nil (b : Nat → Nat → Int) (s : Nat → Int) (t : Nat → UInt8) (now : Int) : Tells 65 (.fn fun k => some (el (upd b 0 (ct t)) (upd s 0 now) k)) (tkT t now) := by
  intro k v hk h
  have h : some (el (upd b 0 (ct t)) (upd s 0 now) k) = some v := h
  rw [← h, tkT_get t now hk]
  have h1 : k / 65 = 0 := by omega
  have h2 : k % 65 = k := by omega
  unfold el
  rw [h1, h2]
  unfold upd
  rw [if_pos rfl, if_pos rfl]
  rfl

theorem sl_new (s : Nat → Int) (m : Nat) (now : Int) : sl (upd s m now) 0 (m + 1) = sl s 0 m ++ [now] := by
  rw [sl_snoc, Nat.zero_add]
  have e1 : upd s m now m = now := by unfold upd; rw [if_pos rfl]
  rw [e1, sl_congr (s := upd s m now) (s' := s) m 0 fun t h1 h2 => by unfold upd; rw [if_neg (by omega)]]

theorem room72 {n : Nat} (h : n < 1000001) : roomA n 72 = true := by
  unfold roomA
  rw [Bool.and_eq_true, Nat.ble_eq, Nat.blt_eq]
  omega

def cOf (b : Nat → Int) (k : Nat) : UInt8 := (hx b 32).getD k 0

theorem hx_tx (b : Nat → Int) : hx b 32 = tx (cOf b) := by kernel_rfl

theorem hex_tx {b : Nat → Int} (hb : ∀ i, 0 ≤ b i ∧ b i < 256) : Goal P 0 19 (fun v _ => v = .str (tx (cOf b))) (startM P 19 [sm b] GK) := by
  have h := hex_ok (G := GK) hb
  rw [hx_tx] at h
  exact h

theorem same_self {G : T (T AV)} {a : List UInt8} (hl : a.length ≤ maxLen) : Goal P 0 11 (fun v _ => v = .bool true) (startM P 11 [.str a, .str a] G) := by
  have h := same_ok (G := G) (a := a) (b := a) hl
  rw [BEq.rfl] at h
  exact h

theorem num8_len (logins : Int) : (num8 logins).length = 8 := rfl

/-- The mark of a login: what it is, and that it is digits. -/
theorem marks (secret nonce : List UInt8) (logins : Int) (h1 : secret.length < 1000) (h2 : nonce.length < 1000) :
    ∃ b : Nat → Int, Goal P 0 20 (fun x _ => x = sm b) (startM P 20 [.str secret, .str (nonce ++ num8 logins)] GK) ∧ Goal P 0 19 (fun v _ => v = .str (tx (cOf b))) (startM P 19 [sm b] GK) := by
  refine ⟨sb (out secret (nonce ++ num8 logins)), mac_ok secret (nonce ++ num8 logins) (by omega) ?_, hex_tx fun i => ⟨(sb_range _ i).1, Int.lt_add_one_of_le (sb_range _ i).2⟩⟩
  rw [List.length_append, num8_len]
  omega

theorem login_full {secret nonce : List UInt8} {ttl slots logins now : Int} {b : Nat → Nat → Int} {s : Nat → Int} {n z : Nat} (h1 : secret.length < 1000) (hs : ∀ k, k < n → s k ≤ now) (hz : n * 65 ≤ z) (hn : n < 1000000)
    (hf : slots ≤ ((((sl s 0 n).filter (al now ttl)).length : Nat) : Int)) :
    ∃ b' s' m, m * 65 ≤ z ∧ sl s' 0 m = (sl s 0 n).filter (al now ttl) ∧ Goal P 2 7 (fun v h => v = .tup [.str [], .int .i64 12] ∧ h = H2 secret ttl slots logins (el b' s') m z GK) (startH P 7 [.ptr 0 0 0, .str secret, .str nonce, .int .u64 now] (H2 secret ttl slots logins (el b s) n z GK)) := by
  have hm : 1000 ≤ maxLen := by decide
  obtain ⟨b', s', m, g0, g1, g2⟩ := del_ok (secret := secret) (slots := slots) (logins := logins) (ttl := ttl) (b := b) (G := GK) hs hz hn
  have hl : (sl s' 0 m).length = m := sl_len s' m 0
  exact ⟨b', s', m, by omega, g1, Obl.goal (K := Goal P 2 7 _) mix (fun _ h => h) (cast (lgy (fun v h => v = .tup [.str [], .int .i64 12] ∧ h = H2 secret ttl slots logins (el b' s') m z GK) secret nonce ttl slots logins now (el b s) (el b' s') (el b s) (fun _ => 0) (fun _ => 0) n m z 0 GK _).symm
    ⟨same_self (by omega), rfl, el_plain _ _, el_plain _ _, g2, decide_eq_true (by rw [← g1, hl] at hf; exact hf), el_plain _ _, rfl, rfl⟩)⟩

theorem login_ok {secret nonce : List UInt8} {ttl slots logins now : Int} {b : Nat → Nat → Int} {s : Nat → Int} {n z : Nat} (h1 : secret.length < 1000) (h2 : nonce.length < 1000) (hs : ∀ k, k < n → s k ≤ now) (hz : n * 65 ≤ z) (hn : n < 999999)
    (hf : ((((sl s 0 n).filter (al now ttl)).length : Nat) : Int) < slots) :
    ∃ b' s' m z' tok, m * 65 ≤ z' ∧ m ≤ n + 1 ∧ sl s' 0 m = (sl s 0 n).filter (al now ttl) ++ [now] ∧ (Goal P 2 7 (fun v h => v = .tup [.str tok, .int .i64 0] ∧ h = H2 secret ttl slots (IntKind.u64.wrap (logins + 1)) (el b' s') m z' GK) (startH P 7 [.ptr 0 0 0, .str secret, .str nonce, .int .u64 now] (H2 secret ttl slots logins (el b s) n z GK)) ∨
      Goal P 2 7 (fun v h => v = .tup [.str tok, .int .i64 0] ∧ h = H2g secret ttl slots (IntKind.u64.wrap (logins + 1)) (el b' s') m z' GK) (startH P 7 [.ptr 0 0 0, .str secret, .str nonce, .int .u64 now] (H2 secret ttl slots logins (el b s) n z GK))) := by
  have hm : 1000 ≤ maxLen := by decide
  obtain ⟨b', s', m, g0, g1, g2⟩ := del_ok (secret := secret) (slots := slots) (logins := logins) (ttl := ttl) (b := b) (G := GK) hs hz (by omega)
  have hl : (sl s' 0 m).length = m := sl_len s' m 0
  obtain ⟨q, k1, k2⟩ := marks secret nonce logins h1 h2
  have hlen : nonce.length + (num8 logins).length < 1099511627776 := by rw [num8_len]; omega
  have hsl : decide ((m : Int) ≥ slots) = false := decide_eq_false (by rw [← g1, hl] at hf; omega)
  by_cases hr : (m + 1) * 65 ≤ z
  · exact ⟨upd b' m (ct (cOf q)), upd s' m now, m + 1, z, ux (cOf q), hr, by omega, by rw [sl_new, g1], .inl <| Obl.goal (K := Goal P 2 7 _) mix (fun _ h => h) (cast (lgT (fun v h => v = .tup [.str (ux (cOf q)), .int .i64 0] ∧ h = H2 secret ttl slots (IntKind.u64.wrap (logins + 1)) (el (upd b' m (ct (cOf q))) (upd s' m now)) (m + 1) z GK) secret nonce ttl slots logins now (el b s) (el b' s') (el (upd b' m (ct (cOf q))) (upd s' m now)) q (cOf q) n m z z GK _).symm
      ⟨same_self (by omega), rfl, el_plain _ _, el_plain _ _, g2, hsl, hlen, k1, rfl, k2, rfl, rfl, rfl, ⟨one_new _ _, by decide, by omega, by omega, by omega, by decide⟩, tells_new _ _ _ _ _ _, rfl, el_plain _ _, rfl, rfl⟩)⟩
  · exact ⟨upd b' m (ct (cOf q)), upd s' m now, m + 1, 0 + m * 65 + 65, ux (cOf q), by omega, by omega, by rw [sl_new, g1], .inr <| Obl.goal (K := Goal P 2 7 _) mix (fun _ h => h) (cast (lgF (fun v h => v = .tup [.str (ux (cOf q)), .int .i64 0] ∧ h = H2g secret ttl slots (IntKind.u64.wrap (logins + 1)) (el (upd b' m (ct (cOf q))) (upd s' m now)) (m + 1) (0 + m * 65 + 65) GK) secret nonce ttl slots logins now (el b s) (el b' s') (el (upd b' m (ct (cOf q))) (upd s' m now)) q (cOf q) n m z (0 + m * 65 + 65) GK _).symm
      ⟨same_self (by omega), rfl, el_plain _ _, el_plain _ _, g2, hsl, hlen, k1, rfl, k2, rfl, rfl, rfl, ⟨one_new _ _, by decide, by omega, by omega, by decide, room72 (by omega), by omega⟩, tells_new _ _ _ _ _ _, rfl, el_plain _ _, rfl, rfl⟩)⟩

theorem login_nil_full {secret nonce : List UInt8} {ttl slots logins now : Int} (h1 : secret.length < 1000) (hf : slots ≤ 0) :
    Goal P 1 7 (fun v h => v = .tup [.str [], .int .i64 12] ∧ h = H1 secret ttl slots logins GK) (startH P 7 [.ptr 0 0 0, .str secret, .str nonce, .int .u64 now] (H1 secret ttl slots logins GK)) := by
  have hm : 1000 ≤ maxLen := by decide
  exact Obl.goal (K := Goal P 1 7 _) mix (fun _ h => h) (cast (lny (fun v h => v = .tup [.str [], .int .i64 12] ∧ h = H1 secret ttl slots logins GK) secret nonce ttl slots logins now (fun _ => .nilp) (fun _ => .nilp) (fun _ => .nilp) (fun _ => 0) (fun _ => 0) 0 0 0 0 GK _).symm
    ⟨same_self (by omega), decide_eq_true hf, rfl, rfl⟩)

theorem login_nil_ok {secret nonce : List UInt8} {ttl slots logins now : Int} (h1 : secret.length < 1000) (h2 : nonce.length < 1000) (hf : 0 < slots) :
    ∃ b' s' tok, sl s' 0 1 = [now] ∧ Goal P 1 7 (fun v h => v = .tup [.str tok, .int .i64 0] ∧ h = H2 secret ttl slots (IntKind.u64.wrap (logins + 1)) (el b' s') 1 65 GK) (startH P 7 [.ptr 0 0 0, .str secret, .str nonce, .int .u64 now] (H1 secret ttl slots logins GK)) := by
  have hm : 1000 ≤ maxLen := by decide
  obtain ⟨q, k1, k2⟩ := marks secret nonce logins h1 h2
  have hlen : nonce.length + (num8 logins).length < 1099511627776 := by rw [num8_len]; omega
  exact ⟨upd (fun _ _ => 0) 0 (ct (cOf q)), upd (fun _ => 0) 0 now, ux (cOf q), rfl, Obl.goal (K := Goal P 1 7 _) mix (fun _ h => h) (cast (lnn (fun v h => v = .tup [.str (ux (cOf q)), .int .i64 0] ∧ h = H2 secret ttl slots (IntKind.u64.wrap (logins + 1)) (el (upd (fun _ _ => 0) 0 (ct (cOf q))) (upd (fun _ => 0) 0 now)) 1 65 GK) secret nonce ttl slots logins now (fun _ => .nilp) (fun _ => .nilp) (el (upd (fun _ _ => 0) 0 (ct (cOf q))) (upd (fun _ => 0) 0 now)) q (cOf q) 0 0 0 65 GK _).symm
    ⟨same_self (by omega), decide_eq_false (by show ¬ ((0 : Int) ≥ slots); omega), hlen, k1, rfl, k2, rfl, rfl, rfl, tells_nil _ _ _ _, rfl, el_plain _ _, rfl, rfl⟩)⟩

end Go.Proofs.YtcdgbadnnodbeaaDoor.shaW
