/- What a store of what was used lately is, and what Put does. -/
import Derived.Test.YtcdpmiebmhjmpaaLb
import Derived.Test.YtcdpmiebmhjmpaaChecked
set_option maxRecDepth 100000
set_option linter.unusedVariables false
namespace Go.Proofs.Ytcdpmiebmhjmpaa.lr
open Go Ev

theorem mix : P.follows .mixedOrders = true := Checked.mixed Try.checked

noncomputable def enF (f : FuncId) (args : List AV) : AFrame := match enterA P f args .normal with
  | some a => a
  | none => ⟨0, 0, .leaf, [], [], .run, .normal, none⟩
noncomputable def RF (f n : Nat) (t : T AV) (td : List AItem) : AFrame := ⟨f, n, t, td, [], .returning, CallKind.normal, none⟩

theorem q_cbf (R : AV → Prop) (k : Int) (G : T (T AV)) (_K : AM → Prop) : Obl P 25 (fun v _ => R v) 0 _K [.run 32, .done] ((startM P 25 [.int .i64 k] G)) = ((R (.bool (k == k)))) := by kernel_rfl

theorem q_pz (R : AV → AHeap → Prop) (keep : Nat) (f0 : FuncId) (rest : List AFrame) (k : Int) (v : Int) (cap : Int) (O : T AObj) (N : Nat) (l : Nat) (G : T (T AV)) (K : AM → Prop) : Obl P f0 (fun v h => R v h) keep K [.run 9, .hop (.int .i64 cap) O, .run 3, .know 15 true, .run 2, .keep []] ((AM.mk (enF 10 [.ptr l 0 0, .int .i64 k, .int .i64 v]) rest ⟨O, N, G⟩)) = ((loadCellsA (⟨O, N, G⟩) (l) (0) (0) (1) = (some [.int .i64 cap])) ∧ ((cap == (0 : Int)) = true) ∧ K ({ top := RF 10 53 T.leaf [AItem.code (cd P 10 [0, 1, 0]), AItem.code (cd P 10 [1])], rest := rest, heap := { objs := O, next := N, glob := G } })) := by kernel_rfl

theorem q_ph (R : AV → AHeap → Prop) (keep : Nat) (f0 : FuncId) (rest : List AFrame) (k : Int) (v : Int) (cap : Int) (O : T AObj) (O1 : T AObj) (O2 : T AObj) (O3 : T AObj) (O4 : T AObj) (O5 : T AObj) (O6 : T AObj) (O7 : T AObj) (N : Nat) (l : Nat) (p : Nat) (a : Nat) (ao : Nat) (e : Nat) (eo : Nat) (h : Nat) (ho : Nat) (mi : Nat) (G : T (T AV)) (K : AM → Prop) : Obl P f0 (fun v h => R v h) keep K [.run 9, .hop (.int .i64 cap) O, .run 3, .know 15 false, .run 7, .run 9, .callv [0] (.bool true), .run 9, .hop (.mp mi) O, .run 1, .hop (.ptr p 0 0) O, .run 19, .hop .nilp O1, .run 5, .run 5, .hop (.ptr e 0 eo) O1, .run 4, .hop (.ptr h 0 ho) O1, .run 4, .hop (.ptr h 0 ho) O1, .run 4, .hop (.ptr e 0 eo) O1, .run 3, .hop .nilp O2, .run 3, .hop .nilp O3, .run 9, .run 12, .hop (.ptr a 0 ao) O3, .run 3, .hop .nilp O4, .run 3, .hop .nilp O5, .run 6, .hop (.ptr a 0 ao) O5, .run 6, .hop .nilp O6, .run 4, .hop .nilp O7, .run 5, .keep []] ((AM.mk (enF 10 [.ptr l 0 0, .int .i64 k, .int .i64 v]) rest ⟨O, N, G⟩)) = ((loadCellsA (⟨O, N, G⟩) (l) (0) (0) (1) = (some [.int .i64 cap])) ∧ ((cap == (0 : Int)) = false) ∧ (Goal P (0) 25 (fun x x_1 => x = AV.bool true) (startM P 25 [.int .i64 k] G)) ∧ (loadCellsA (⟨O, N, G⟩) (l) (0) (2) (1) = (some [.mp mi])) ∧ (lookupA P (⟨O, N, G⟩) (44) (.mp mi) (.int .i64 k) (false) = (some (.ptr p 0 0))) ∧ (storeCellsA (⟨O, N, G⟩) (p) (0) (3) ([.int .i64 v]) = (some ⟨O1, N, G⟩)) ∧ (loadCellsA (⟨O1, N, G⟩) (p) (0) (1) (1) = (some [.ptr e 0 eo])) ∧ (loadCellsA (⟨O1, N, G⟩) (p) (0) (0) (1) = (some [.ptr h 0 ho])) ∧ (loadCellsA (⟨O1, N, G⟩) (p) (0) (0) (1) = (some [.ptr h 0 ho])) ∧ (loadCellsA (⟨O1, N, G⟩) (p) (0) (1) (1) = (some [.ptr e 0 eo])) ∧ (storeCellsA (⟨O1, N, G⟩) (e) (0) (eo) ([.ptr h 0 ho]) = (some ⟨O2, N, G⟩)) ∧ (storeCellsA (⟨O2, N, G⟩) (h) (0) (ho + 1) ([.ptr e 0 eo]) = (some ⟨O3, N, G⟩)) ∧ (loadCellsA (⟨O3, N, G⟩) (l) (0) (4) (1) = (some [.ptr a 0 ao])) ∧ (storeCellsA (⟨O3, N, G⟩) (p) (0) (0) ([.ptr l 0 3]) = (some ⟨O4, N, G⟩)) ∧ (storeCellsA (⟨O4, N, G⟩) (p) (0) (1) ([.ptr a 0 ao]) = (some ⟨O5, N, G⟩)) ∧ (loadCellsA (⟨O5, N, G⟩) (p) (0) (1) (1) = (some [.ptr a 0 ao])) ∧ (storeCellsA (⟨O5, N, G⟩) (a) (0) (ao) ([.ptr p 0 0]) = (some ⟨O6, N, G⟩)) ∧ (storeCellsA (⟨O6, N, G⟩) (l) (0) (4) ([.ptr p 0 0]) = (some ⟨O7, N, G⟩)) ∧ K ({ top := RF 10 53 T.leaf [AItem.code (cd P 10 [0, 1, 0]), AItem.code (cd P 10 [1, 1, 1])], rest := rest, heap := { objs := O7, next := N, glob := G } })) := by kernel_rfl

theorem q_pr (R : AV → AHeap → Prop) (keep : Nat) (f0 : FuncId) (rest : List AFrame) (k : Int) (v : Int) (cap : Int) (kept : Int) (O : T AObj) (O1 : T AObj) (O2 : T AObj) (O3 : T AObj) (O4 : T AObj) (O5 : T AObj) (O6 : T AObj) (O7 : T AObj) (N : Nat) (l : Nat) (a : Nat) (ao : Nat) (mi : Nat) (G : T (T AV)) (K : AM → Prop) : Obl P f0 (fun v h => R v h) keep K [.run 9, .hop (.int .i64 cap) O, .run 3, .know 15 false, .run 7, .run 9, .callv [0] (.bool true), .run 9, .hop (.mp mi) O, .run 1, .hop (.nilp) O, .run 20, .hop (.int .i64 kept) O, .run 3, .hop (.int .i64 cap) O, .run 2, .know 38 false, .run 7, .hop .nilp O1, .run 1, .run 6, .hop (.int .i64 k) O1, .run 1, .callv [0] (.bool true), .run 6, .hop (.mp mi) O1, .run 3, .hop (.int .i64 k) O1, .run 1, .hop .nilp O2, .run 6, .hop (.int .i64 (kept)) O2, .run 3, .hop .nilp O3, .run 5, .run 12, .hop (.ptr a 0 ao) O3, .run 3, .hop .nilp O4, .run 3, .hop .nilp O5, .run 6, .hop (.ptr a 0 ao) O5, .run 6, .hop .nilp O6, .run 4, .hop .nilp O7, .run 8, .keep []] ((AM.mk (enF 10 [.ptr l 0 0, .int .i64 k, .int .i64 v]) rest ⟨O, N, G⟩)) = ((loadCellsA (⟨O, N, G⟩) (l) (0) (0) (1) = (some [.int .i64 cap])) ∧ ((cap == (0 : Int)) = false) ∧ (Goal P (0) 25 (fun x x_1 => x = AV.bool true) (startM P 25 [.int .i64 k] G)) ∧ (loadCellsA (⟨O, N, G⟩) (l) (0) (2) (1) = (some [.mp mi])) ∧ (lookupA P (⟨O, N, G⟩) (44) (.mp mi) (.int .i64 k) (false) = (some .nilp)) ∧ (loadCellsA (⟨O, N, G⟩) (l) (0) (1) (1) = (some [.int .i64 kept])) ∧ (loadCellsA (⟨O, N, G⟩) (l) (0) (0) (1) = (some [.int .i64 cap])) ∧ (decide (kept ≥ cap) = false) ∧ (T.set ((some (.cells (.node (.node (.node .leaf (some (.int .i64 v)) .leaf) (some .nilp) .leaf) (some .nilp) (.node .leaf (some (.int .i64 k)) .leaf)) 4 49 0 0 1 0 false .leaf))) (O) (N) = O1) ∧ (loadCellsA (⟨O1, N + 1, G⟩) (N) (0) (2) (1) = (some [.int .i64 k])) ∧ (Goal P (0) 25 (fun x x_1 => x = AV.bool true) (startM P 25 [.int .i64 k] G)) ∧ (loadCellsA (⟨O1, N + 1, G⟩) (l) (0) (2) (1) = (some [.mp mi])) ∧ (loadCellsA (⟨O1, N + 1, G⟩) (N) (0) (2) (1) = (some [.int .i64 k])) ∧ (mapPutA P (⟨O1, N + 1, G⟩) (44) (.mp mi) (.int .i64 k) (.ptr N 0 0) = (some ⟨O2, N + 1, G⟩)) ∧ (loadCellsA (⟨O2, N + 1, G⟩) (l) (0) (1) (1) = (some [.int .i64 kept])) ∧ (storeCellsA (⟨O2, N + 1, G⟩) (l) (0) (1) ([.int .i64 (IntKind.i64.wrap (kept + (1 : Int)))]) = (some ⟨O3, N + 1, G⟩)) ∧ (loadCellsA (⟨O3, N + 1, G⟩) (l) (0) (4) (1) = (some [.ptr a 0 ao])) ∧ (storeCellsA (⟨O3, N + 1, G⟩) (N) (0) (0) ([.ptr l 0 3]) = (some ⟨O4, N + 1, G⟩)) ∧ (storeCellsA (⟨O4, N + 1, G⟩) (N) (0) (1) ([.ptr a 0 ao]) = (some ⟨O5, N + 1, G⟩)) ∧ (loadCellsA (⟨O5, N + 1, G⟩) (N) (0) (1) (1) = (some [.ptr a 0 ao])) ∧ (storeCellsA (⟨O5, N + 1, G⟩) (a) (0) (ao) ([.ptr N 0 0]) = (some ⟨O6, N + 1, G⟩)) ∧ (storeCellsA (⟨O6, N + 1, G⟩) (l) (0) (4) ([.ptr N 0 0]) = (some ⟨O7, N + 1, G⟩)) ∧ K ({ top := RF 10 53 T.leaf [], rest := rest, heap := { objs := O7, next := N + 1, glob := G } })) := by kernel_rfl

theorem q_pe (R : AV → AHeap → Prop) (keep : Nat) (f0 : FuncId) (rest : List AFrame) (k : Int) (v : Int) (cap : Int) (kept : Int) (k2 : Int) (O : T AObj) (O1 : T AObj) (O2 : T AObj) (O3 : T AObj) (O4 : T AObj) (O5 : T AObj) (O6 : T AObj) (O7 : T AObj) (O8 : T AObj) (O9 : T AObj) (O10 : T AObj) (O11 : T AObj) (N : Nat) (l : Nat) (a : Nat) (ao : Nat) (e : Nat) (eo : Nat) (h : Nat) (ho : Nat) (mi : Nat) (y : Nat) (G : T (T AV)) (K : AM → Prop) : Obl P f0 (fun v h => R v h) keep K [.run 9, .hop (.int .i64 cap) O, .run 3, .know 15 false, .run 7, .run 9, .callv [0] (.bool true), .run 9, .hop (.mp mi) O, .run 1, .hop (.nilp) O, .run 20, .hop (.int .i64 kept) O, .run 3, .hop (.int .i64 cap) O, .run 2, .know 38 true, .run 8, .hop (.ptr y 0 0) O, .run 1, .run 6, .hop (.int .i64 k2) O, .run 1, .callv [0] (.bool true), .run 6, .hop (.mp mi) O, .run 3, .hop (.int .i64 k2) O, .hop (.tup []) O1, .run 6, .hop (.int .i64 kept) O1, .run 3, .hop .nilp O2, .run 4, .run 5, .hop (.ptr e 0 eo) O2, .run 4, .hop (.ptr h 0 ho) O2, .run 4, .hop (.ptr h 0 ho) O2, .run 4, .hop (.ptr e 0 eo) O2, .run 3, .hop .nilp O3, .run 3, .hop .nilp O4, .run 12, .hop .nilp O5, .run 1, .run 6, .hop (.int .i64 k) O5, .run 1, .callv [0] (.bool true), .run 6, .hop (.mp mi) O5, .run 3, .hop (.int .i64 k) O5, .run 1, .hop .nilp O6, .run 6, .hop (.int .i64 (IntKind.i64.wrap (kept - 1))) O6, .run 3, .hop .nilp O7, .run 5, .run 12, .hop (.ptr a 0 ao) O7, .run 3, .hop .nilp O8, .run 3, .hop .nilp O9, .run 6, .hop (.ptr a 0 ao) O9, .run 6, .hop .nilp O10, .run 4, .hop .nilp O11, .run 8, .keep []] ((AM.mk (enF 10 [.ptr l 0 0, .int .i64 k, .int .i64 v]) rest ⟨O, N, G⟩)) = ((loadCellsA (⟨O, N, G⟩) (l) (0) (0) (1) = (some [.int .i64 cap])) ∧ ((cap == (0 : Int)) = false) ∧ (Goal P (0) 25 (fun x x_1 => x = AV.bool true) (startM P 25 [.int .i64 k] G)) ∧ (loadCellsA (⟨O, N, G⟩) (l) (0) (2) (1) = (some [.mp mi])) ∧ (lookupA P (⟨O, N, G⟩) (44) (.mp mi) (.int .i64 k) (false) = (some .nilp)) ∧ (loadCellsA (⟨O, N, G⟩) (l) (0) (1) (1) = (some [.int .i64 kept])) ∧ (loadCellsA (⟨O, N, G⟩) (l) (0) (0) (1) = (some [.int .i64 cap])) ∧ (decide (kept ≥ cap) = true) ∧ (loadCellsA (⟨O, N, G⟩) (l) (0) (3) (1) = (some [.ptr y 0 0])) ∧ (loadCellsA (⟨O, N, G⟩) (y) (0) (2) (1) = (some [.int .i64 k2])) ∧ (Goal P (0) 25 (fun x x_1 => x = AV.bool true) (startM P 25 [.int .i64 k2] G)) ∧ (loadCellsA (⟨O, N, G⟩) (l) (0) (2) (1) = (some [.mp mi])) ∧ (loadCellsA (⟨O, N, G⟩) (y) (0) (2) (1) = (some [.int .i64 k2])) ∧ (builtinE P (⟨O, N, G⟩) (Builtin.delete) ((some 44)) ((some 3)) ([.mp mi, .int .i64 k2]) = (some (.val (.tup []) ⟨O1, N, G⟩))) ∧ (loadCellsA (⟨O1, N, G⟩) (l) (0) (1) (1) = (some [.int .i64 kept])) ∧ (storeCellsA (⟨O1, N, G⟩) (l) (0) (1) ([.int .i64 (IntKind.i64.wrap (kept - (1 : Int)))]) = (some ⟨O2, N, G⟩)) ∧ (loadCellsA (⟨O2, N, G⟩) (y) (0) (1) (1) = (some [.ptr e 0 eo])) ∧ (loadCellsA (⟨O2, N, G⟩) (y) (0) (0) (1) = (some [.ptr h 0 ho])) ∧ (loadCellsA (⟨O2, N, G⟩) (y) (0) (0) (1) = (some [.ptr h 0 ho])) ∧ (loadCellsA (⟨O2, N, G⟩) (y) (0) (1) (1) = (some [.ptr e 0 eo])) ∧ (storeCellsA (⟨O2, N, G⟩) (e) (0) (eo) ([.ptr h 0 ho]) = (some ⟨O3, N, G⟩)) ∧ (storeCellsA (⟨O3, N, G⟩) (h) (0) (ho + 1) ([.ptr e 0 eo]) = (some ⟨O4, N, G⟩)) ∧ (T.set ((some (.cells (.node (.node (.node .leaf (some (.int .i64 v)) .leaf) (some .nilp) .leaf) (some .nilp) (.node .leaf (some (.int .i64 k)) .leaf)) 4 49 0 0 1 0 false .leaf))) (O4) (N) = O5) ∧ (loadCellsA (⟨O5, N + 1, G⟩) (N) (0) (2) (1) = (some [.int .i64 k])) ∧ (Goal P (0) 25 (fun x x_1 => x = AV.bool true) (startM P 25 [.int .i64 k] G)) ∧ (loadCellsA (⟨O5, N + 1, G⟩) (l) (0) (2) (1) = (some [.mp mi])) ∧ (loadCellsA (⟨O5, N + 1, G⟩) (N) (0) (2) (1) = (some [.int .i64 k])) ∧ (mapPutA P (⟨O5, N + 1, G⟩) (44) (.mp mi) (.int .i64 k) (.ptr N 0 0) = (some ⟨O6, N + 1, G⟩)) ∧ (loadCellsA (⟨O6, N + 1, G⟩) (l) (0) (1) (1) = (some [.int .i64 (IntKind.i64.wrap (kept - (1 : Int)))])) ∧ (storeCellsA (⟨O6, N + 1, G⟩) (l) (0) (1) ([.int .i64 (IntKind.i64.wrap (IntKind.i64.wrap (kept - (1 : Int)) + (1 : Int)))]) = (some ⟨O7, N + 1, G⟩)) ∧ (loadCellsA (⟨O7, N + 1, G⟩) (l) (0) (4) (1) = (some [.ptr a 0 ao])) ∧ (storeCellsA (⟨O7, N + 1, G⟩) (N) (0) (0) ([.ptr l 0 3]) = (some ⟨O8, N + 1, G⟩)) ∧ (storeCellsA (⟨O8, N + 1, G⟩) (N) (0) (1) ([.ptr a 0 ao]) = (some ⟨O9, N + 1, G⟩)) ∧ (loadCellsA (⟨O9, N + 1, G⟩) (N) (0) (1) (1) = (some [.ptr a 0 ao])) ∧ (storeCellsA (⟨O9, N + 1, G⟩) (a) (0) (ao) ([.ptr N 0 0]) = (some ⟨O10, N + 1, G⟩)) ∧ (storeCellsA (⟨O10, N + 1, G⟩) (l) (0) (4) ([.ptr N 0 0]) = (some ⟨O11, N + 1, G⟩)) ∧ K ({ top := RF 10 53 T.leaf [], rest := rest, heap := { objs := O11, next := N + 1, glob := G } })) := by kernel_rfl

theorem cbf_ok {k : Int} {G : T (T AV)} : Goal P 0 25 (fun x _ => x = AV.bool true) (startM P 25 [.int .i64 k] G) :=
  Obl.goal (K := fun _ => False) mix (fun _ h => h.elim) (cast (q_cbf (fun v => v = .bool true) k G _).symm (by rw [beq_self_eq_true]))

/-- A store of what was used lately: the newest first. -/
def LR (O : T AObj) (l mi cap : Nat) (L : List Ent) : Prop :=
  mi ≠ l ∧ Cell O l 0 (.int .i64 (cap : Int)) ∧ Cell O l 1 (.int .i64 ((L.length : Nat) : Int)) ∧ Cell O l 2 (.mp mi) ∧ Ring O l (L.map (·.1)) ∧
  (∀ x ∈ L, x.1 ≠ l ∧ x.1 ≠ mi ∧ Cell O x.1 2 (.int .i64 x.2.1) ∧ Cell O x.1 3 (.int .i64 x.2.2)) ∧ (L.map (·.1)).Nodup ∧ (L.map (·.2.1)).Nodup ∧ MapOk O mi L ∧ L.length ≤ cap

/-- A node of this ring. -/
abbrev gd (l : Nat) (x : Ev.Node) : Prop := x = (l, 3) ∨ ∃ i, i ≠ l ∧ x = nd i
/-- A cell that is no link. -/
def dat (l i j : Nat) : Prop := (i = l ∧ j ≤ 2) ∨ (i ≠ l ∧ 2 ≤ j)

variable {O O' O1 O2 : T AObj} {N l mi cap : Nat} {G : T (T AV)} {L u w : List Ent} {k v : Int} {x : Ev.Node}

theorem dat_nw (b : But O O' x.1 x.2) (gx : gd l x) {i j : Nat} {c : AV} (h : dat l i j) (hc : Cell O i j c) : Cell O' i j c := by
  refine b.1 _ _ _ ?_ hc
  rcases gx with rfl | ⟨y, hy, rfl⟩ <;> rcases h with ⟨rfl, h⟩ | ⟨h1, h⟩
  · right; show j ≠ 3; omega
  · left; exact h1
  · left; exact Ne.symm hy
  · right; show j ≠ 0; omega

theorem dat_el (b : But O O' x.1 (x.2 + 1)) (gx : gd l x) {i j : Nat} {c : AV} (h : dat l i j) (hc : Cell O i j c) : Cell O' i j c := by
  refine b.1 _ _ _ ?_ hc
  rcases gx with rfl | ⟨y, hy, rfl⟩ <;> rcases h with ⟨rfl, h⟩ | ⟨h1, h⟩
  · right; show j ≠ 4; omega
  · left; exact h1
  · left; exact Ne.symm hy
  · right; show j ≠ 1; omega

theorem gd_of {us : List Nat} (hx : x = (l, 3) ∨ ∃ i, i ∈ us ∧ x = nd i) (hl : ∀ i ∈ us, i ≠ l) : gd l x := hx.imp id fun ⟨i, hi, h⟩ => ⟨i, hl i hi, h⟩

theorem gd_id {us : List Nat} (hx : x = (l, 3) ∨ ∃ i, i ∈ us ∧ x = nd i) {j : Nat} (hl : j ≠ l) (hu : ∀ i ∈ us, i ≠ j) : j ≠ x.1 := by
  rcases hx with rfl | ⟨i, hi, rfl⟩
  · exact hl
  · exact Ne.symm (hu i hi)

theorem MapOk.re {L' : List Ent} (h : MapOk O mi L) (h1 : ∀ x ∈ L, ∃ y ∈ L', y.1 = x.1 ∧ y.2.1 = x.2.1) (h2 : ∀ y ∈ L', ∃ x ∈ L, y.2.1 = x.2.1) : MapOk O mi L' := by
  obtain ⟨es, clock, e1, e2, e3, e4⟩ := h
  refine ⟨es, clock, e1, fun e he => ?_, fun y hy => ?_, e4⟩
  · obtain ⟨x, hx, q1, q2⟩ := e2 e he
    obtain ⟨y, hy, p1, p2⟩ := h1 x hx
    exact ⟨y, hy, by rw [q1, p2], by rw [q2, p1]⟩
  · obtain ⟨x, hx, q⟩ := h2 y hy
    obtain ⟨e, he, hek⟩ := e3 x hx
    exact ⟨e, he, by rw [hek, q]⟩

theorem inj_of {α β : Type} {f : α → β} : ∀ {L : List α}, (L.map f).Nodup → ∀ x ∈ L, ∀ y ∈ L, f y = f x → y = x
  | [], _, x, hx, _, _, _ => absurd hx List.not_mem_nil
  | a :: r, h, x, hx, y, hy, e => by
    rw [List.map_cons, List.nodup_cons] at h
    rcases List.mem_cons.1 hx with hxa | hx'
    · rcases List.mem_cons.1 hy with hya | hy'
      · rw [hxa, hya]
      · exact absurd (by rw [← hxa, ← e]; exact List.mem_map_of_mem hy') h.1
    · rcases List.mem_cons.1 hy with hya | hy'
      · exact absurd (by rw [← hya, e]; exact List.mem_map_of_mem hx') h.1
      · exact inj_of h.2 x hx' y hy' e

theorem nodup_mid {α : Type} {a : α} {us ws : List α} (h : (us ++ a :: ws).Nodup) : (us ++ ws).Nodup ∧ a ∉ us ++ ws := by
  rw [List.nodup_append, List.nodup_cons] at h
  obtain ⟨h1, ⟨h2, h3⟩, h4⟩ := h
  refine ⟨List.nodup_append.2 ⟨h1, h3, fun x hx y hy => h4 x hx y (List.mem_cons_of_mem _ hy)⟩, fun hm => ?_⟩
  rcases List.mem_append.1 hm with b | b
  · exact h4 a b a (by simp) rfl
  · exact h2 b

/-- One that is there becomes the newest. -/
theorem move {p : Ent} (h : LR O l mi cap (u ++ p :: w)) (O1 : T AObj) (b0 : But O O1 p.1 3) (c0 : Cell O1 p.1 3 (.int .i64 v)) (N : Nat) (G : T (T AV)) :
    ∃ (e n a : Ev.Node) (O2 O3 O4 O5 O6 O7 : T AObj), Cell O1 p.1 1 (pt e) ∧ Cell O1 p.1 0 (pt n) ∧
      storeCellsA ⟨O1, N, G⟩ e.1 0 e.2 [pt n] = some ⟨O2, N, G⟩ ∧ storeCellsA ⟨O2, N, G⟩ n.1 0 (n.2 + 1) [pt e] = some ⟨O3, N, G⟩ ∧ Cell O3 l 4 (pt a) ∧
      storeCellsA ⟨O3, N, G⟩ p.1 0 0 [pt (l, 3)] = some ⟨O4, N, G⟩ ∧ storeCellsA ⟨O4, N, G⟩ p.1 0 1 [pt a] = some ⟨O5, N, G⟩ ∧ Cell O5 p.1 1 (pt a) ∧
      storeCellsA ⟨O5, N, G⟩ a.1 0 a.2 [pt (nd p.1)] = some ⟨O6, N, G⟩ ∧ storeCellsA ⟨O6, N, G⟩ l 0 4 [pt (nd p.1)] = some ⟨O7, N, G⟩ ∧
      LR O7 l mi cap ((p.1, p.2.1, v) :: (u ++ w)) ∧ ∀ j, j ≠ l → (∀ y ∈ u ++ p :: w, y.1 ≠ j) → O7.get j = O.get j := by
  obtain ⟨h0, h1, h2, h3, h4, h5, h6, h7, h8, h9⟩ := h
  rw [List.map_append, List.map_cons] at h4 h6 h7
  have hne : ∀ i ∈ u.map (·.1) ++ p.1 :: w.map (·.1), i ≠ l ∧ i ≠ mi := by
    intro i hi
    rw [← List.map_cons, ← List.map_append] at hi
    obtain ⟨y, hy, rfl⟩ := List.mem_map.1 hi
    exact ⟨(h5 y hy).1, (h5 y hy).2.1⟩
  obtain ⟨hpl, hpm⟩ := hne p.1 (by simp)
  -- the links stand behind the value's change
  have hR1 : Ring O1 l (u.map (·.1) ++ p.1 :: w.map (·.1)) := by
    refine Lk.mono (fun y hy c hc => b0.1 _ _ _ ?_ hc) (fun y hy c hc => b0.1 _ _ _ ?_ hc) h4
    · have : y ∈ ((l, 3) : Ev.Node) :: (u.map (·.1) ++ p.1 :: w.map (·.1)).map nd := by
        rw [← List.cons_append, List.dropLast_concat] at hy
        exact hy
      rcases List.mem_cons.1 this with rfl | hm
      · left; exact Ne.symm hpl
      · obtain ⟨i, _, rfl⟩ := List.mem_map.1 hm
        right; show (0 + 1 : Nat) ≠ 3; omega
    · rw [List.tail_cons] at hy
      rcases List.mem_append.1 hy with hm | hm
      · obtain ⟨i, _, rfl⟩ := List.mem_map.1 hm
        right; show (0 : Nat) ≠ 3; omega
      · obtain rfl := List.mem_singleton.1 hm
        left; exact Ne.symm hpl
  obtain ⟨e, n, O2, O3, he, hn, c1, c2, s1, s2, hR3, b1, b2⟩ := hR1.leave h6 (fun i hi => (hne i hi).1) N G
  obtain ⟨nd1, nd2⟩ := nodup_mid h6
  have hne' : ∀ i ∈ u.map (·.1) ++ w.map (·.1), i ≠ l ∧ i ≠ mi := fun i hi => hne i (by
    rcases List.mem_append.1 hi with a | a
    · exact List.mem_append_left _ a
    · exact List.mem_append_right _ (List.mem_cons_of_mem _ a))
  have hul : ∀ i ∈ u.map (·.1), i ≠ l := fun i hi => (hne i (List.mem_append_left _ hi)).1
  have hwl : ∀ i ∈ w.map (·.1), i ≠ l := fun i hi => (hne i (List.mem_append_right _ (List.mem_cons_of_mem _ hi))).1
  have ge := gd_of he hwl
  have gn := gd_of hn hul
  have hpu : ∀ i ∈ u.map (·.1), i ≠ p.1 := fun i hi h => nd2 (h ▸ List.mem_append_left _ hi)
  have hpw : ∀ i ∈ w.map (·.1), i ≠ p.1 := fun i hi h => nd2 (h ▸ List.mem_append_right _ hi)
  have pe := gd_id he hpl hpw
  have pn := gd_id hn hpl hpu
  have c1' : Cell O3 p.1 1 (pt e) := b2.1 _ _ _ (.inl pn) (b1.1 _ _ _ (.inl pe) c1)
  have c2' : Cell O3 p.1 0 (pt n) := b2.1 _ _ _ (.inl pn) (b1.1 _ _ _ (.inl pe) c2)
  obtain ⟨a, O4, O5, O6, O7, ha, c3, s3, s4, c4, s5, s6, hR7, b3, b4, b5, b6⟩ := hR3.enter (fun i hi => (hne' i hi).1) nd2 hpl c2' c1' nd1 N G
  have ga := gd_of ha fun i hi => (hne' i hi).1
  have gp : gd l (nd p.1) := .inr ⟨p.1, hpl, rfl⟩
  -- what is no link
  have stay : ∀ i j c, dat l i j → Cell O1 i j c → Cell O7 i j c := fun i j c hd hc =>
    dat_el (x := (l, 3)) b6 (.inl rfl) hd (dat_nw b5 ga hd (dat_el (x := nd p.1) b4 gp hd (dat_nw (x := nd p.1) b3 gp hd (dat_el b2 gn hd (dat_nw b1 ge hd hc)))))
  have stay0 : ∀ i j c, dat l i j → (i ≠ p.1 ∨ j ≠ 3) → Cell O i j c → Cell O7 i j c := fun i j c hd hne hc => stay i j c hd (b0.1 _ _ _ hne hc)
  have get : ∀ j, j ≠ l → (∀ y ∈ u ++ p :: w, y.1 ≠ j) → O7.get j = O.get j := fun j hj hy => by
    have hju : ∀ i ∈ u.map (·.1), i ≠ j := fun i hi => by obtain ⟨y, hm, rfl⟩ := List.mem_map.1 hi; exact hy y (by simp [hm])
    have hjw : ∀ i ∈ w.map (·.1), i ≠ j := fun i hi => by obtain ⟨y, hm, rfl⟩ := List.mem_map.1 hi; exact hy y (by simp [hm])
    have hjp : j ≠ p.1 := Ne.symm (hy p (by simp))
    have hja : j ≠ a.1 := gd_id ha hj fun i hi => by rcases List.mem_append.1 hi with b | b; exact hju i b; exact hjw i b
    exact (b6.2 j hj).trans ((b5.2 j hja).trans ((b4.2 j hjp).trans ((b3.2 j hjp).trans ((b2.2 j (gd_id hn hj hju)).trans ((b1.2 j (gd_id he hj hjw)).trans (b0.2 j hjp))))))
  have hlen : ((p.1, p.2.1, v) :: (u ++ w)).length = (u ++ p :: w).length := by simp only [List.length_cons, List.length_append]; omega
  refine ⟨e, n, a, O2, O3, O4, O5, O6, O7, c1, c2, s1, s2, c3, s3, s4, c4, s5, s6, ⟨h0, stay0 _ _ _ (.inl ⟨rfl, by omega⟩) (.inl (Ne.symm hpl)) h1, ?_, stay0 _ _ _ (.inl ⟨rfl, by omega⟩) (.inl (Ne.symm hpl)) h3, ?_, fun y hy => ?_, ?_, ?_, ?_, by rw [hlen]; exact h9⟩, get⟩
  · rw [hlen]
    exact stay0 _ _ _ (.inl ⟨rfl, by omega⟩) (.inl (Ne.symm hpl)) h2
  · rw [List.map_cons, List.map_append]
    exact hR7
  · rcases List.mem_cons.1 hy with rfl | hy
    · exact ⟨hpl, hpm, stay0 _ _ _ (.inr ⟨hpl, by omega⟩) (.inr (by omega)) (h5 p (by simp)).2.2.1, stay _ _ _ (.inr ⟨hpl, by omega⟩) c0⟩
    · have hy' : y ∈ u ++ p :: w := by
        rcases List.mem_append.1 hy with b | b
        · exact List.mem_append_left _ b
        · exact List.mem_append_right _ (List.mem_cons_of_mem _ b)
      obtain ⟨q1, q2, q3, q4⟩ := h5 y hy'
      have hyp : y.1 ≠ p.1 := by
        rcases List.mem_append.1 hy with b | b
        · exact hpu _ (List.mem_map_of_mem b)
        · exact hpw _ (List.mem_map_of_mem b)
      exact ⟨q1, q2, stay0 _ _ _ (.inr ⟨q1, by omega⟩) (.inl hyp) q3, stay0 _ _ _ (.inr ⟨q1, by omega⟩) (.inl hyp) q4⟩
  · rw [List.map_cons, List.map_append, List.nodup_cons]
    exact ⟨nd2, nd1⟩
  · obtain ⟨m1, m2⟩ := nodup_mid h7
    rw [List.map_cons, List.map_append, List.nodup_cons]
    exact ⟨m2, m1⟩
  · refine (h8.same (get mi h0 fun y hy => (h5 y hy).2.1)).re (fun y hy => ?_) (fun y hy => ?_)
    · rcases List.mem_append.1 hy with b | b
      · exact ⟨y, by simp [b], rfl, rfl⟩
      · rcases List.mem_cons.1 b with rfl | b
        · exact ⟨(y.1, y.2.1, v), by simp, rfl, rfl⟩
        · exact ⟨y, by simp [b], rfl, rfl⟩
    · rcases List.mem_cons.1 hy with rfl | hy
      · exact ⟨p, by simp, rfl⟩
      · rcases List.mem_append.1 hy with b | b
        · exact ⟨y, by simp [b], rfl⟩
        · exact ⟨y, by simp [b], rfl⟩

end Go.Proofs.Ytcdpmiebmhjmpaa.lr
