/- All the bodies of a stream, as the document has it; rows of texts that grow. -/
import Derived.Test.YtfgaadhnplccpaaFrA
set_option maxRecDepth 100000
namespace Go.Proofs.Ytfgaadhnplccpaa.frm
open Go Ev

noncomputable abbrev P : Program := Try.prog
theorem mix : P.follows .mixedOrders = true := Checked.mixed Try.checked

/-! ## Numbers -/

theorem wi (x : Int) : IntKind.i64.wrap x = (x + 9223372036854775808) % 18446744073709551616 - 9223372036854775808 := IntKind.wrap_i64 x
theorem num_eq (x y : Int) (hx : 0 ≤ x ∧ x < 256) (hy : 0 ≤ y ∧ y < 256) : IntKind.i64.wrap (IntKind.i64.wrap (IntKind.i64.wrap x * 256) + IntKind.i64.wrap y) = 256 * x + y := by
  rw [IntWalk.i64_in x (by omega), IntWalk.i64_in (x * 256) (by omega), IntWalk.i64_in y (by omega), IntWalk.i64_in _ (by omega)]
  omega

/-! ## Rows of texts -/

/-- A list of texts, as a row. -/
def rowF (l : List (List UInt8)) (j : Nat) : List UInt8 := l.getD j []

/-- A row that is told by a function. -/
noncomputable def SO (f : Nat → List UInt8) (k : Nat) : AObj := .cells (.fn fun j => some (.str (f j))) k 9 0 0 1 0 false .leaf

theorem plain_str (f : Nat → List UInt8) : PlainFn fun j => some (AV.str (f j)) := fun k v e => by
  cases e; rfl

theorem one_cell (X : AV) (h : AV.one X = true) : 0 + 1 * 1 ≤ 1 ∧ ∀ (k : Nat), k < 1 * 1 → ∃ v, (T.leaf.node (some X) T.leaf).get (0 + k) = some v ∧ v.one = true := by
  refine ⟨by decide, fun k hk => ?_⟩
  obtain rfl : k = 0 := by omega
  exact ⟨_, rfl, h⟩

theorem room_ok {n : Nat} (h : n < 2 ^ 40) : roomA n 16 = true := by
  unfold roomA
  rw [Bool.and_eq_true]
  exact ⟨Nat.ble_eq_true_of_le (by omega), Nat.ble_eq_true_of_le (by omega)⟩

theorem grow_ok (X : AV) (hX : AV.one X = true) {k : Nat} (h : k < 2 ^ 40 - 1) : ((0 + 1 * 1 ≤ 1 ∧ ∀ (k : Nat), k < 1 * 1 → ∃ v, (T.leaf.node (some X) T.leaf).get (0 + k) = some v ∧ v.one = true) ∧ (0 : Nat) < 1 ∧ 0 + k * 1 ≤ k ∧ 0 ≤ 0 + k * 1 ∧ 0 = 0 * 1 ∧ roomA (k + 1) 16 = true ∧ k < 0 + (k + 1) * 1) :=
  ⟨one_cell X hX, by decide, by omega, by omega, rfl, room_ok (by omega), by omega⟩

theorem tells_one (g : Nat → List UInt8) {X : List UInt8} (h : g 0 = X) : Tells 1 (.fn fun j => some (.str (g j))) (.node .leaf (some (.str X)) .leaf) := fun k v hk e => by
  obtain rfl : k = 0 := by omega
  rw [← h]; exact e

theorem tells_grow (f g : Nat → List UInt8) {X : List UInt8} {k : Nat} (h : g k = X) (hf : ∀ j, j < k → g j = f j) : Tells (k + 1) (.fn fun j => some (.str (g j)))
    (.fn fun i => bif (0 + k * 1).ble i && i.blt (0 + k * 1 + 1 * 1) then (fun k => (T.leaf.node (some (AV.str X)) T.leaf).get (0 + k)) (i - (0 + k * 1)) else (T.fn fun j => some (AV.str (f j))).get i) := fun j v hj e => by
  show (bif _ then _ else _) = _
  by_cases hjk : j = k
  · subst hjk
    have e1 : Nat.ble (0 + j * 1) j = true := Nat.ble_eq_true_of_le (by omega)
    have e2 : Nat.blt j (0 + j * 1 + 1 * 1) = true := Nat.ble_eq_true_of_le (by omega)
    rw [e1, e2, show j - (0 + j * 1) = 0 by omega, ← h]
    exact e
  · cases hb : ((0 + k * 1).ble j && j.blt (0 + k * 1 + 1 * 1)) with
    | true =>
      rw [Bool.and_eq_true] at hb
      have := Nat.le_of_ble_eq_true hb.1
      omega
    | false =>
      have := hf j (by omega)
      show some (AV.str (f j)) = _
      rw [← this]; exact e

theorem rowF_last (l : List (List UInt8)) (x : List UInt8) : rowF (l ++ [x]) l.length = x := by
  unfold rowF; simp
theorem rowF_old (l : List (List UInt8)) (x : List UInt8) (j : Nat) (h : j < l.length) : rowF (l ++ [x]) j = rowF l j := by
  unfold rowF
  rw [List.getD_eq_getElem?_getD, List.getD_eq_getElem?_getD, List.getElem?_append_left h]

/-! ## All -/

noncomputable def lpA : List AItem := [.code (cd P (16 : Nat) [(1 : Nat), (1 : Nat), (1 : Nat), (0 : Nat), (0 : Nat), (0 : Nat)]), .inLoop (cd P (16 : Nat) [(1 : Nat), (1 : Nat), (1 : Nat), (0 : Nat), (0 : Nat), (0 : Nat)]), .inBlock 0, .code (cd P (16 : Nat) [(1 : Nat), (1 : Nat), (1 : Nat), (1 : Nat)])]
noncomputable def MA0 (G : T (T AV)) (s : List UInt8) (a : Int) : AM := ⟨⟨16, 54, (.node (.node .leaf none (.node .leaf (some (.int .i64 a)) .leaf)) (some (.str s)) (.node (.node .leaf (some (.nils 0 0)) .leaf) none .leaf)), lpA, [], .run, CallKind.normal, none⟩, [], ⟨.leaf, 0, G⟩⟩
noncomputable def MA1 (G : T (T AV)) (s : List UInt8) (a : Int) (k : Nat) (f : Nat → List UInt8) : AM := ⟨⟨16, 54, (.node (.node .leaf none (.node .leaf (some (.int .i64 a)) .leaf)) (some (.str s)) (.node (.node .leaf (some (.slg 0 0 0 k 0)) .leaf) none .leaf)), lpA, [], .run, CallKind.normal, none⟩, [], ⟨.node .leaf (some (.cells (.fn fun j => some (.str (f j))) k 9 0 0 1 0 false .leaf)) .leaf, 1, G⟩⟩

theorem all0 (G : T (T AV)) (s : List UInt8) (R : AV → AHeap → Prop) (K : AM → Prop) : Obl P 16 (fun v h => R v h) 0 K [.run 16, .can 0 [] [0, 4, 5] []] (startM P 16 [.str s] G) = K (MA0 G s 0) := by kernel_rfl

theorem allAyy (G : T (T AV)) (s : List UInt8) (a b n : Int) (_g : Nat → List UInt8) (R : AV → AHeap → Prop) (_K : AM → Prop) : Obl P 16 (fun v h => R v h) 0 _K [.run 5, .slot 8 (.int .i64 b), .run 4, .know 11 true, .run 7, .op, .run 5, .op, .run 3, .slot 6 (.int .i64 n), .run 7, .know 25 true, .run 12, .done] ((MA0 G s a)) = ((AV.int IntKind.i64 (IntKind.i64.wrap (a + (2 : Int))) = AV.int IntKind.i64 b) ∧ (decide (b ≤ (↑s.length : Int)) = true) ∧ ((0 : Int) ≤ a ∧ a < (↑s.length : Int)) ∧ ((0 : Int) ≤ IntKind.i64.wrap (a + (1 : Int)) ∧ IntKind.i64.wrap (a + (1 : Int)) < (↑s.length : Int)) ∧ (AV.int IntKind.i64 (IntKind.i64.wrap (IntKind.i64.wrap (IntKind.i64.wrap (↑(s.getD a.toNat (0 : UInt8)).toNat : Int) * (256 : Int)) + IntKind.i64.wrap (↑(s.getD (IntKind.i64.wrap (a + (1 : Int))).toNat (0 : UInt8)).toNat : Int))) = AV.int IntKind.i64 n) ∧ (decide (n < (1 : Int)) = true) ∧ (R (.tup [.nils 0 0, .bool true]) (⟨.leaf, 0, G⟩))) := by kernel_rfl

theorem allAyny (G : T (T AV)) (s : List UInt8) (a b n : Int) (_g : Nat → List UInt8) (R : AV → AHeap → Prop) (_K : AM → Prop) : Obl P 16 (fun v h => R v h) 0 _K [.run 5, .slot 8 (.int .i64 b), .run 4, .know 11 true, .run 7, .op, .run 5, .op, .run 3, .slot 6 (.int .i64 n), .run 7, .know 25 false, .run 4, .know 28 true, .run 8, .done] ((MA0 G s a)) = ((AV.int IntKind.i64 (IntKind.i64.wrap (a + (2 : Int))) = AV.int IntKind.i64 b) ∧ (decide (b ≤ (↑s.length : Int)) = true) ∧ ((0 : Int) ≤ a ∧ a < (↑s.length : Int)) ∧ ((0 : Int) ≤ IntKind.i64.wrap (a + (1 : Int)) ∧ IntKind.i64.wrap (a + (1 : Int)) < (↑s.length : Int)) ∧ (AV.int IntKind.i64 (IntKind.i64.wrap (IntKind.i64.wrap (IntKind.i64.wrap (↑(s.getD a.toNat (0 : UInt8)).toNat : Int) * (256 : Int)) + IntKind.i64.wrap (↑(s.getD (IntKind.i64.wrap (a + (1 : Int))).toNat (0 : UInt8)).toNat : Int))) = AV.int IntKind.i64 n) ∧ (decide (n < (1 : Int)) = false) ∧ (decide (n > (8192 : Int)) = true) ∧ (R (.tup [.nils 0 0, .bool true]) (⟨.leaf, 0, G⟩))) := by kernel_rfl

theorem allAynny (G : T (T AV)) (s : List UInt8) (a b n : Int) (_g : Nat → List UInt8) (R : AV → AHeap → Prop) (_K : AM → Prop) : Obl P 16 (fun v h => R v h) 0 _K [.run 5, .slot 8 (.int .i64 b), .run 4, .know 11 true, .run 7, .op, .run 5, .op, .run 3, .slot 6 (.int .i64 n), .run 7, .know 25 false, .run 4, .know 28 false, .run 13, .know 36 true, .run 8, .done] ((MA0 G s a)) = ((AV.int IntKind.i64 (IntKind.i64.wrap (a + (2 : Int))) = AV.int IntKind.i64 b) ∧ (decide (b ≤ (↑s.length : Int)) = true) ∧ ((0 : Int) ≤ a ∧ a < (↑s.length : Int)) ∧ ((0 : Int) ≤ IntKind.i64.wrap (a + (1 : Int)) ∧ IntKind.i64.wrap (a + (1 : Int)) < (↑s.length : Int)) ∧ (AV.int IntKind.i64 (IntKind.i64.wrap (IntKind.i64.wrap (IntKind.i64.wrap (↑(s.getD a.toNat (0 : UInt8)).toNat : Int) * (256 : Int)) + IntKind.i64.wrap (↑(s.getD (IntKind.i64.wrap (a + (1 : Int))).toNat (0 : UInt8)).toNat : Int))) = AV.int IntKind.i64 n) ∧ (decide (n < (1 : Int)) = false) ∧ (decide (n > (8192 : Int)) = false) ∧ (decide (IntKind.i64.wrap (IntKind.i64.wrap (a + (2 : Int)) + n) > (↑s.length : Int)) = true) ∧ (R (.tup [.nils 0 0, .bool false]) (⟨.leaf, 0, G⟩))) := by kernel_rfl

theorem allAynnn (G : T (T AV)) (s : List UInt8) (a b n : Int) (g : Nat → List UInt8) (R : AV → AHeap → Prop) (K : AM → Prop) : Obl P 16 (fun v h => R v h) 0 K [.run 5, .slot 8 (.int .i64 b), .run 4, .know 11 true, .run 7, .op, .run 5, .op, .run 3, .slot 6 (.int .i64 n), .run 7, .know 25 false, .run 4, .know 28 false, .run 13, .know 36 false, .run 12, .op, .run 13, .told 1 (.fn fun j => some (.str (g j))) 1, .can 0 [1] [0, 4, 5] []] ((MA0 G s a)) = ((AV.int IntKind.i64 (IntKind.i64.wrap (a + (2 : Int))) = AV.int IntKind.i64 b) ∧ (decide (b ≤ (↑s.length : Int)) = true) ∧ ((0 : Int) ≤ a ∧ a < (↑s.length : Int)) ∧ ((0 : Int) ≤ IntKind.i64.wrap (a + (1 : Int)) ∧ IntKind.i64.wrap (a + (1 : Int)) < (↑s.length : Int)) ∧ (AV.int IntKind.i64 (IntKind.i64.wrap (IntKind.i64.wrap (IntKind.i64.wrap (↑(s.getD a.toNat (0 : UInt8)).toNat : Int) * (256 : Int)) + IntKind.i64.wrap (↑(s.getD (IntKind.i64.wrap (a + (1 : Int))).toNat (0 : UInt8)).toNat : Int))) = AV.int IntKind.i64 n) ∧ (decide (n < (1 : Int)) = false) ∧ (decide (n > (8192 : Int)) = false) ∧ (decide (IntKind.i64.wrap (IntKind.i64.wrap (a + (2 : Int)) + n) > (↑s.length : Int)) = false) ∧ (((0 : Int) ≤ IntKind.i64.wrap (IntKind.i64.wrap (a + (2 : Int)) + n) ∧ IntKind.i64.wrap (IntKind.i64.wrap (a + (2 : Int)) + n) ≤ (↑s.length : Int)) ∧ (0 : Int) ≤ IntKind.i64.wrap (a + (2 : Int)) ∧ IntKind.i64.wrap (a + (2 : Int)) ≤ (↑(IntKind.i64.wrap (IntKind.i64.wrap (a + (2 : Int)) + n)).toNat : Int)) ∧ (Tells ((1 : Nat)) ((.fn fun j => some (AV.str (g j)))) ((.node .leaf (some (.str (List.take ((IntKind.i64.wrap (IntKind.i64.wrap (a + (2 : Int)) + n)).toNat - (IntKind.i64.wrap (a + (2 : Int))).toNat) (List.drop (IntKind.i64.wrap (a + (2 : Int))).toNat s)))) .leaf))) ∧ ((1 : Nat) = 1) ∧ (PlainFn fun j => some (AV.str (g j))) ∧ K (MA1 G s (IntKind.i64.wrap (IntKind.i64.wrap (a + (2 : Int)) + n)) (1) g)) := by kernel_rfl

theorem allAn (G : T (T AV)) (s : List UInt8) (a b _n : Int) (_g : Nat → List UInt8) (R : AV → AHeap → Prop) (_K : AM → Prop) : Obl P 16 (fun v h => R v h) 0 _K [.run 5, .slot 8 (.int .i64 b), .run 4, .know 11 false, .run 9, .done] ((MA0 G s a)) = ((AV.int IntKind.i64 (IntKind.i64.wrap (a + (2 : Int))) = AV.int IntKind.i64 b) ∧ (decide (b ≤ (↑s.length : Int)) = false) ∧ (R (.tup [.nils 0 0, .bool false]) (⟨.leaf, 0, G⟩))) := by kernel_rfl

theorem allByy (G : T (T AV)) (s : List UInt8) (a b n : Int) (k : Nat) (f _g : Nat → List UInt8) (R : AV → AHeap → Prop) (_K : AM → Prop) : Obl P 16 (fun v h => R v h) 0 _K [.run 5, .slot 8 (.int .i64 b), .run 4, .know 11 true, .run 7, .op, .run 5, .op, .run 3, .slot 6 (.int .i64 n), .run 7, .know 25 true, .run 12, .done] ((MA1 G s a k f)) = ((AV.int IntKind.i64 (IntKind.i64.wrap (a + (2 : Int))) = AV.int IntKind.i64 b) ∧ (decide (b ≤ (↑s.length : Int)) = true) ∧ ((0 : Int) ≤ a ∧ a < (↑s.length : Int)) ∧ ((0 : Int) ≤ IntKind.i64.wrap (a + (1 : Int)) ∧ IntKind.i64.wrap (a + (1 : Int)) < (↑s.length : Int)) ∧ (AV.int IntKind.i64 (IntKind.i64.wrap (IntKind.i64.wrap (IntKind.i64.wrap (↑(s.getD a.toNat (0 : UInt8)).toNat : Int) * (256 : Int)) + IntKind.i64.wrap (↑(s.getD (IntKind.i64.wrap (a + (1 : Int))).toNat (0 : UInt8)).toNat : Int))) = AV.int IntKind.i64 n) ∧ (decide (n < (1 : Int)) = true) ∧ (R (.tup [.slg 0 0 0 k 0, .bool true]) (⟨(.node .leaf (some (.cells (.fn fun j => some (AV.str (f j))) k 9 0 0 1 0 false .leaf)) .leaf), 1, G⟩))) := by kernel_rfl

theorem allByny (G : T (T AV)) (s : List UInt8) (a b n : Int) (k : Nat) (f _g : Nat → List UInt8) (R : AV → AHeap → Prop) (_K : AM → Prop) : Obl P 16 (fun v h => R v h) 0 _K [.run 5, .slot 8 (.int .i64 b), .run 4, .know 11 true, .run 7, .op, .run 5, .op, .run 3, .slot 6 (.int .i64 n), .run 7, .know 25 false, .run 4, .know 28 true, .run 8, .done] ((MA1 G s a k f)) = ((AV.int IntKind.i64 (IntKind.i64.wrap (a + (2 : Int))) = AV.int IntKind.i64 b) ∧ (decide (b ≤ (↑s.length : Int)) = true) ∧ ((0 : Int) ≤ a ∧ a < (↑s.length : Int)) ∧ ((0 : Int) ≤ IntKind.i64.wrap (a + (1 : Int)) ∧ IntKind.i64.wrap (a + (1 : Int)) < (↑s.length : Int)) ∧ (AV.int IntKind.i64 (IntKind.i64.wrap (IntKind.i64.wrap (IntKind.i64.wrap (↑(s.getD a.toNat (0 : UInt8)).toNat : Int) * (256 : Int)) + IntKind.i64.wrap (↑(s.getD (IntKind.i64.wrap (a + (1 : Int))).toNat (0 : UInt8)).toNat : Int))) = AV.int IntKind.i64 n) ∧ (decide (n < (1 : Int)) = false) ∧ (decide (n > (8192 : Int)) = true) ∧ (R (.tup [.slg 0 0 0 k 0, .bool true]) (⟨(.node .leaf (some (.cells (.fn fun j => some (AV.str (f j))) k 9 0 0 1 0 false .leaf)) .leaf), 1, G⟩))) := by kernel_rfl

theorem allBynny (G : T (T AV)) (s : List UInt8) (a b n : Int) (k : Nat) (f _g : Nat → List UInt8) (R : AV → AHeap → Prop) (_K : AM → Prop) : Obl P 16 (fun v h => R v h) 0 _K [.run 5, .slot 8 (.int .i64 b), .run 4, .know 11 true, .run 7, .op, .run 5, .op, .run 3, .slot 6 (.int .i64 n), .run 7, .know 25 false, .run 4, .know 28 false, .run 13, .know 36 true, .run 8, .done] ((MA1 G s a k f)) = ((AV.int IntKind.i64 (IntKind.i64.wrap (a + (2 : Int))) = AV.int IntKind.i64 b) ∧ (decide (b ≤ (↑s.length : Int)) = true) ∧ ((0 : Int) ≤ a ∧ a < (↑s.length : Int)) ∧ ((0 : Int) ≤ IntKind.i64.wrap (a + (1 : Int)) ∧ IntKind.i64.wrap (a + (1 : Int)) < (↑s.length : Int)) ∧ (AV.int IntKind.i64 (IntKind.i64.wrap (IntKind.i64.wrap (IntKind.i64.wrap (↑(s.getD a.toNat (0 : UInt8)).toNat : Int) * (256 : Int)) + IntKind.i64.wrap (↑(s.getD (IntKind.i64.wrap (a + (1 : Int))).toNat (0 : UInt8)).toNat : Int))) = AV.int IntKind.i64 n) ∧ (decide (n < (1 : Int)) = false) ∧ (decide (n > (8192 : Int)) = false) ∧ (decide (IntKind.i64.wrap (IntKind.i64.wrap (a + (2 : Int)) + n) > (↑s.length : Int)) = true) ∧ (R (.tup [.slg 0 0 0 k 0, .bool false]) (⟨(.node .leaf (some (.cells (.fn fun j => some (AV.str (f j))) k 9 0 0 1 0 false .leaf)) .leaf), 1, G⟩))) := by kernel_rfl

theorem allBynnn (G : T (T AV)) (s : List UInt8) (a b n : Int) (k : Nat) (f g : Nat → List UInt8) (R : AV → AHeap → Prop) (K : AM → Prop) : Obl P 16 (fun v h => R v h) 0 K [.run 5, .slot 8 (.int .i64 b), .run 4, .know 11 true, .run 7, .op, .run 5, .op, .run 3, .slot 6 (.int .i64 n), .run 7, .know 25 false, .run 4, .know 28 false, .run 13, .know 36 false, .run 12, .op, .run 1, .opw false, .told 0 (.fn fun j => some (.str (g j))) (k + 1), .run 11, .can 0 [0] [0, 4, 5] []] ((MA1 G s a k f)) = ((AV.int IntKind.i64 (IntKind.i64.wrap (a + (2 : Int))) = AV.int IntKind.i64 b) ∧ (decide (b ≤ (↑s.length : Int)) = true) ∧ ((0 : Int) ≤ a ∧ a < (↑s.length : Int)) ∧ ((0 : Int) ≤ IntKind.i64.wrap (a + (1 : Int)) ∧ IntKind.i64.wrap (a + (1 : Int)) < (↑s.length : Int)) ∧ (AV.int IntKind.i64 (IntKind.i64.wrap (IntKind.i64.wrap (IntKind.i64.wrap (↑(s.getD a.toNat (0 : UInt8)).toNat : Int) * (256 : Int)) + IntKind.i64.wrap (↑(s.getD (IntKind.i64.wrap (a + (1 : Int))).toNat (0 : UInt8)).toNat : Int))) = AV.int IntKind.i64 n) ∧ (decide (n < (1 : Int)) = false) ∧ (decide (n > (8192 : Int)) = false) ∧ (decide (IntKind.i64.wrap (IntKind.i64.wrap (a + (2 : Int)) + n) > (↑s.length : Int)) = false) ∧ (((0 : Int) ≤ IntKind.i64.wrap (IntKind.i64.wrap (a + (2 : Int)) + n) ∧ IntKind.i64.wrap (IntKind.i64.wrap (a + (2 : Int)) + n) ≤ (↑s.length : Int)) ∧ (0 : Int) ≤ IntKind.i64.wrap (a + (2 : Int)) ∧ IntKind.i64.wrap (a + (2 : Int)) ≤ (↑(IntKind.i64.wrap (IntKind.i64.wrap (a + (2 : Int)) + n)).toNat : Int)) ∧ ((0 + 1 * 1 ≤ 1 ∧ ∀ (k : Nat), k < 1 * 1 → ∃ v, (T.leaf.node (some (AV.str (List.take ((IntKind.i64.wrap (IntKind.i64.wrap (a + (2 : Int)) + n)).toNat - (IntKind.i64.wrap (a + (2 : Int))).toNat) (List.drop (IntKind.i64.wrap (a + (2 : Int))).toNat s)))) T.leaf).get (0 + k) = some v ∧ v.one = true) ∧ (0 : Nat) < 1 ∧ 0 + k * 1 ≤ k ∧ 0 ≤ 0 + k * 1 ∧ 0 = 0 * 1 ∧ roomA (k + 1) (16) = true ∧ k < 0 + (k + 1) * 1) ∧ (Tells (k + (1 : Nat)) ((.fn fun j => some (AV.str (g j)))) ((.fn fun i => bif (0 + k * 1).ble i && i.blt (0 + k * 1 + 1 * 1) then (fun k => (T.leaf.node (some (AV.str (List.take ((IntKind.i64.wrap (IntKind.i64.wrap (a + (2 : Int)) + n)).toNat - (IntKind.i64.wrap (a + (2 : Int))).toNat) (List.drop (IntKind.i64.wrap (a + (2 : Int))).toNat s)))) T.leaf).get (0 + k)) (i - (0 + k * 1)) else (T.fn fun j => some (AV.str (f j))).get i))) ∧ (k + (1 : Nat) = 0 + k * 1 + 1) ∧ (PlainFn fun j => some (AV.str (g j))) ∧ K (MA1 G s (IntKind.i64.wrap (IntKind.i64.wrap (a + (2 : Int)) + n)) (k + 1) g)) := by kernel_rfl

theorem allBn (G : T (T AV)) (s : List UInt8) (a b _n : Int) (k : Nat) (f _g : Nat → List UInt8) (R : AV → AHeap → Prop) (_K : AM → Prop) : Obl P 16 (fun v h => R v h) 0 _K [.run 5, .slot 8 (.int .i64 b), .run 4, .know 11 false, .run 9, .done] ((MA1 G s a k f)) = ((AV.int IntKind.i64 (IntKind.i64.wrap (a + (2 : Int))) = AV.int IntKind.i64 b) ∧ (decide (b ≤ (↑s.length : Int)) = false) ∧ (R (.tup [.slg 0 0 0 k 0, .bool false]) (⟨(.node .leaf (some (.cells (.fn fun j => some (AV.str (f j))) k 9 0 0 1 0 false .leaf)) .leaf), 1, G⟩))) := by kernel_rfl

/-- A list as a slice; its memory. -/
def lv (i : Nat) : List (List UInt8) → AV
  | [] => .nils 0 0
  | x :: r => .slg i 0 0 (x :: r).length 0
noncomputable def lh (G : T (T AV)) : List (List UInt8) → AHeap
  | [] => ⟨.leaf, 0, G⟩
  | x :: r => ⟨.node .leaf (some (SO (rowF (x :: r)) (x :: r).length)) .leaf, 1, G⟩
noncomputable def MA (G : T (T AV)) (s : List UInt8) (a : Int) : List (List UInt8) → AM
  | [] => MA0 G s a
  | x :: r => MA1 G s a (x :: r).length (rowF (x :: r))

def AllR (G : T (T AV)) (l : List (List UInt8)) (b : Bool) (v : AV) (h : AHeap) : Prop := v = .tup [lv 0 l, .bool b] ∧ h = lh G l

theorem getD_drop (s : List UInt8) (i j : Nat) : (s.drop i).getD j 0 = s.getD (i + j) 0 := by
  rw [List.getD_eq_getElem?_getD, List.getD_eq_getElem?_getD, List.getElem?_drop]

theorem u8_lt (x : UInt8) : x.toNat < 256 := x.toNat_lt

theorem all_go (G : T (T AV)) (s : List UInt8) (hs : s.length < 2 ^ 39) (d : Nat) : ∀ (i : Nat) (pre : List (List UInt8)), s.length - i < d → i ≤ s.length → pre.length ≤ i →
    Goal P 0 16 (fun v h => AllR G (pre ++ (cut (s.drop i)).fs) (cut (s.drop i)).bad v h) (MA G s i pre) := by
  induction d with
  | zero => exact fun i pre h => absurd h (Nat.not_lt_zero _)
  | succ d ih =>
    intro i pre hd hi hp
    have hlen : (s.drop i).length = s.length - i := List.length_drop
    have hh : hdn (s.drop i) = 256 * (s.getD i 0).toNat + (s.getD (i + 1) 0).toNat := by
      unfold hdn
      rw [getD_drop, getD_drop, Nat.add_zero]
    have b0 := u8_lt (s.getD i 0)
    have b1 := u8_lt (s.getD (i + 1) 0)
    have eb : AV.int IntKind.i64 (IntKind.i64.wrap ((i : Int) + 2)) = AV.int IntKind.i64 ((i + 2 : Nat) : Int) := congrArg (AV.int IntKind.i64) (by rw [wi]; omega)
    have e1 : IntKind.i64.wrap ((i : Int) + 1) = ((i + 1 : Nat) : Int) := by rw [wi]; omega
    have t0 : ((i : Nat) : Int).toNat = i := Int.toNat_natCast _
    have t1 : ((i + 1 : Nat) : Int).toNat = i + 1 := Int.toNat_natCast _
    by_cases h2 : (s.drop i).length < 2
    · rw [cut_short h2, List.append_nil]
      have hc : decide (((i + 2 : Nat) : Int) ≤ (s.length : Int)) = false := decide_eq_false (by omega)
      cases pre with
      | nil => exact Obl.goal (K := fun _ => False) mix (fun _ h => h.elim) (cast (allAn G s i (i + 2 : Nat) 0 (rowF []) _ _).symm ⟨eb, hc, rfl, rfl⟩)
      | cons x r => exact Obl.goal (K := fun _ => False) mix (fun _ h => h.elim) (cast (allBn G s i (i + 2 : Nat) 0 _ _ (rowF []) _ _).symm ⟨eb, hc, rfl, rfl⟩)
    have hc : decide (((i + 2 : Nat) : Int) ≤ (s.length : Int)) = true := decide_eq_true (by omega)
    have a1 : (0 : Int) ≤ (i : Int) ∧ (i : Int) < (s.length : Int) := by omega
    have a2 : (0 : Int) ≤ IntKind.i64.wrap ((i : Int) + 1) ∧ IntKind.i64.wrap ((i : Int) + 1) < (s.length : Int) := by rw [e1]; omega
    have en : AV.int IntKind.i64 (IntKind.i64.wrap (IntKind.i64.wrap (IntKind.i64.wrap ((s.getD ((i : Int)).toNat 0).toNat : Int) * 256) + IntKind.i64.wrap ((s.getD (IntKind.i64.wrap ((i : Int) + 1)).toNat 0).toNat : Int))) = AV.int IntKind.i64 (hdn (s.drop i) : Int) := by
      rw [e1, t0, t1, hh]
      refine congrArg (AV.int IntKind.i64) ?_
      rw [num_eq _ _ (by omega) (by omega)]
      push_cast
      rfl
    by_cases hb : hdn (s.drop i) < 1 ∨ 8192 < hdn (s.drop i)
    · rw [cut_bad h2 hb, List.append_nil]
      by_cases hb1 : hdn (s.drop i) < 1
      · have c1 : decide ((hdn (s.drop i) : Int) < 1) = true := decide_eq_true (by omega)
        cases pre with
        | nil => exact Obl.goal (K := fun _ => False) mix (fun _ h => h.elim) (cast (allAyy G s i (i + 2 : Nat) (hdn (s.drop i)) (rowF []) _ _).symm ⟨eb, hc, a1, a2, en, c1, rfl, rfl⟩)
        | cons x r => exact Obl.goal (K := fun _ => False) mix (fun _ h => h.elim) (cast (allByy G s i (i + 2 : Nat) (hdn (s.drop i)) _ _ (rowF []) _ _).symm ⟨eb, hc, a1, a2, en, c1, rfl, rfl⟩)
      · have c1 : decide ((hdn (s.drop i) : Int) < 1) = false := decide_eq_false (by omega)
        have c2 : decide ((hdn (s.drop i) : Int) > 8192) = true := decide_eq_true (by omega)
        cases pre with
        | nil => exact Obl.goal (K := fun _ => False) mix (fun _ h => h.elim) (cast (allAyny G s i (i + 2 : Nat) (hdn (s.drop i)) (rowF []) _ _).symm ⟨eb, hc, a1, a2, en, c1, c2, rfl, rfl⟩)
        | cons x r => exact Obl.goal (K := fun _ => False) mix (fun _ h => h.elim) (cast (allByny G s i (i + 2 : Nat) (hdn (s.drop i)) _ _ (rowF []) _ _).symm ⟨eb, hc, a1, a2, en, c1, c2, rfl, rfl⟩)
    have c1 : decide ((hdn (s.drop i) : Int) < 1) = false := decide_eq_false (by omega)
    have c2 : decide ((hdn (s.drop i) : Int) > 8192) = false := decide_eq_false (by omega)
    have e2 : IntKind.i64.wrap ((i : Int) + 2) = ((i + 2 : Nat) : Int) := by rw [wi]; omega
    have e3 : IntKind.i64.wrap (((i + 2 : Nat) : Int) + (hdn (s.drop i) : Int)) = ((i + (2 + hdn (s.drop i)) : Nat) : Int) := by rw [wi]; omega
    by_cases hl : (s.drop i).length < 2 + hdn (s.drop i)
    · rw [cut_part h2 hb hl, List.append_nil]
      have c3 : decide (IntKind.i64.wrap (IntKind.i64.wrap ((i : Int) + 2) + (hdn (s.drop i) : Int)) > (s.length : Int)) = true := by rw [e2, e3]; exact decide_eq_true (by omega)
      cases pre with
      | nil => exact Obl.goal (K := fun _ => False) mix (fun _ h => h.elim) (cast (allAynny G s i (i + 2 : Nat) (hdn (s.drop i)) (rowF []) _ _).symm ⟨eb, hc, a1, a2, en, c1, c2, c3, rfl, rfl⟩)
      | cons x r => exact Obl.goal (K := fun _ => False) mix (fun _ h => h.elim) (cast (allBynny G s i (i + 2 : Nat) (hdn (s.drop i)) _ _ (rowF []) _ _).symm ⟨eb, hc, a1, a2, en, c1, c2, c3, rfl, rfl⟩)
    have c3 : decide (IntKind.i64.wrap (IntKind.i64.wrap ((i : Int) + 2) + (hdn (s.drop i) : Int)) > (s.length : Int)) = false := by rw [e2, e3]; exact decide_eq_false (by omega)
    have c4 : ((0 : Int) ≤ IntKind.i64.wrap (IntKind.i64.wrap ((i : Int) + 2) + (hdn (s.drop i) : Int)) ∧ IntKind.i64.wrap (IntKind.i64.wrap ((i : Int) + 2) + (hdn (s.drop i) : Int)) ≤ (s.length : Int)) ∧ (0 : Int) ≤ IntKind.i64.wrap ((i : Int) + 2) ∧ IntKind.i64.wrap ((i : Int) + 2) ≤ ((IntKind.i64.wrap (IntKind.i64.wrap ((i : Int) + 2) + (hdn (s.drop i) : Int))).toNat : Int) := by
      rw [e2, e3]; omega
    have eX : List.take ((IntKind.i64.wrap (IntKind.i64.wrap ((i : Int) + 2) + (hdn (s.drop i) : Int))).toNat - (IntKind.i64.wrap ((i : Int) + 2)).toNat) (List.drop (IntKind.i64.wrap ((i : Int) + 2)).toNat s) = ((s.drop i).drop 2).take (hdn (s.drop i)) := by
      rw [e2, e3, Int.toNat_natCast, Int.toNat_natCast, List.drop_drop]
      congr 1; omega
    have hnext := ih (i + (2 + hdn (s.drop i))) (pre ++ [((s.drop i).drop 2).take (hdn (s.drop i))]) (by omega) (by omega) (by rw [List.length_append]; simp only [List.length_cons, List.length_nil]; omega)
    rw [cut_more h2 hb hl]
    simp only
    have hdd : (s.drop i).drop (2 + hdn (s.drop i)) = s.drop (i + (2 + hdn (s.drop i))) := List.drop_drop
    rw [hdd]
    generalize ((s.drop i).drop 2).take (hdn (s.drop i)) = X at eX hnext ⊢
    rw [show pre ++ X :: (cut (s.drop (i + (2 + hdn (s.drop i))))).fs = (pre ++ [X]) ++ (cut (s.drop (i + (2 + hdn (s.drop i))))).fs by simp]
    cases pre with
    | nil =>
      refine Obl.goal (K := Goal P 0 16 _) mix (fun _ h => h) (cast (allAynnn G s i (i + 2 : Nat) (hdn (s.drop i)) (rowF [X]) _ _).symm ⟨eb, hc, a1, a2, en, c1, c2, c3, c4, ?_, rfl, plain_str _, ?_⟩)
      · rw [eX]; exact tells_one _ rfl
      · rw [e2, e3]; exact hnext
    | cons x r =>
      refine Obl.goal (K := Goal P 0 16 _) mix (fun _ h => h) (cast (allBynnn G s i (i + 2 : Nat) (hdn (s.drop i)) _ _ (rowF ((x :: r) ++ [X])) _ _).symm ⟨eb, hc, a1, a2, en, c1, c2, c3, c4, ?_, ?_, ?_, plain_str _, ?_⟩)
      · exact grow_ok _ rfl (by omega)
      · rw [eX]; exact tells_grow _ _ (rowF_last _ _) (rowF_old _ _)
      · omega
      · rw [e2, e3]
        have hm : MA G s ((i + (2 + hdn (s.drop i)) : Nat) : Int) (x :: r ++ [X]) = MA1 G s ((i + (2 + hdn (s.drop i)) : Nat) : Int) ((x :: r).length + 1) (rowF (x :: r ++ [X])) := by
          show MA1 _ _ _ (x :: r ++ [X]).length _ = _
          rw [List.length_append]; rfl
        rw [← hm]; exact hnext

/-- All the bodies of a stream. -/
theorem all_ok (G : T (T AV)) (s : List UInt8) (hs : s.length < 2 ^ 39) : Goal P 0 16 (fun v h => AllR G (cut s).fs (cut s).bad v h) (startM P 16 [.str s] G) := by
  have := all_go G s hs (s.length + 1) 0 [] (by omega) (Nat.zero_le _) (Nat.le_refl _)
  rw [List.drop_zero, List.nil_append] at this
  exact Obl.goal (K := Goal P 0 16 _) mix (fun _ h => h) (cast (all0 G s _ _).symm this)

end Go.Proofs.Ytfgaadhnplccpaa.frm
