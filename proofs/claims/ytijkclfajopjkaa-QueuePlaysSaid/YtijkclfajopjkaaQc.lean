/- A queue, told by what waits in it: Put and Take. -/
import Derived.Test.YtijkclfajopjkaaQb
set_option maxRecDepth 100000
set_option linter.unusedVariables false
namespace Go.Proofs.Ytijkclfajopjkaa.qo
open Go Ev

/-- PA: what has to be shown. -/
def PA (O : T AObj) (N qi : Nat) (G : T (T AV)) (fr n : Int) (v0 v1 v2 v3 v4 : AV) (O1 O2 O3 O4 O5 O6 O7 : T AObj) : Prop := (T.set ((some (.cells (.node (.node (.node .leaf (some v3) .leaf) (some v1) .leaf) (some v0) (.node (.node .leaf (some v4) .leaf) (some v2) .leaf)) 5 32 0 0 1 0 false .leaf))) (O) (N) = O1) ∧ (loadCellsA (⟨O1, N + 1, G⟩) (qi) (0) (2) (1) = (some [.int .i64 fr])) ∧ (loadCellsA (⟨O1, N + 1, G⟩) (qi) (0) (3) (1) = (some [.int .i64 n])) ∧ (loadCellsA (⟨O1, N + 1, G⟩) (qi) (0) (3) (1) = (some [.int .i64 n])) ∧ ((n == (0 : Int)) = true) ∧ (T.set ((some (.cells zt81 81 52 0 0 1 0 false .leaf))) (O1) (N + 1) = O2) ∧ (storeCellsA (⟨O2, N + 2, G⟩) (qi) (0) (0) ([.ptr (N + 1) 0 0]) = (some ⟨O3, N + 2, G⟩)) ∧ (loadCellsA (⟨O3, N + 2, G⟩) (qi) (0) (0) (1) = (some [.ptr (N + 1) 0 0])) ∧ (storeCellsA (⟨O3, N + 2, G⟩) (qi) (0) (1) ([.ptr (N + 1) 0 0]) = (some ⟨O4, N + 2, G⟩)) ∧ (storeCellsA (⟨O4, N + 2, G⟩) (qi) (0) (2) ([.int .i64 0]) = (some ⟨O5, N + 2, G⟩)) ∧ (loadCellsA (⟨O5, N + 2, G⟩) (qi) (0) (1) (1) = (some [.ptr (N + 1) 0 0])) ∧ (loadCellsA (⟨O5, N + 2, G⟩) (N) (0) (0) (5) = (some [v0, v1, v2, v3, v4])) ∧ (storeCellsA (⟨O5, N + 2, G⟩) (N + 1) (0) (0) ([v0, v1, v2, v3, v4]) = (some ⟨O6, N + 2, G⟩)) ∧ (loadCellsA (⟨O6, N + 2, G⟩) (qi) (0) (3) (1) = (some [.int .i64 n])) ∧ (storeCellsA (⟨O6, N + 2, G⟩) (qi) (0) (3) ([.int .i64 (IntKind.i64.wrap (n + (1 : Int)))]) = (some ⟨O7, N + 2, G⟩))
/-- PB: what has to be shown. -/
def PB (O : T AObj) (N qi : Nat) (G : T (T AV)) (fr n : Int) (b : Nat) (v0 v1 v2 v3 v4 : AV) (O1 O2 O3 O4 O5 O6 : T AObj) : Prop := (T.set ((some (.cells (.node (.node (.node .leaf (some v3) .leaf) (some v1) .leaf) (some v0) (.node (.node .leaf (some v4) .leaf) (some v2) .leaf)) 5 32 0 0 1 0 false .leaf))) (O) (N) = O1) ∧ (loadCellsA (⟨O1, N + 1, G⟩) (qi) (0) (2) (1) = (some [.int .i64 fr])) ∧ (loadCellsA (⟨O1, N + 1, G⟩) (qi) (0) (3) (1) = (some [.int .i64 n])) ∧ (loadCellsA (⟨O1, N + 1, G⟩) (qi) (0) (3) (1) = (some [.int .i64 n])) ∧ ((n == (0 : Int)) = false) ∧ (((IntKind.i64.wrap (fr + n)).tmod (16 : Int) == (0 : Int)) = true) ∧ (loadCellsA (⟨O1, N + 1, G⟩) (qi) (0) (1) (1) = (some [.ptr b 0 0])) ∧ (T.set ((some (.cells zt81 81 52 0 0 1 0 false .leaf))) (O1) (N + 1) = O2) ∧ (storeCellsA (⟨O2, N + 2, G⟩) (b) (0) (80) ([.ptr (N + 1) 0 0]) = (some ⟨O3, N + 2, G⟩)) ∧ (loadCellsA (⟨O3, N + 2, G⟩) (qi) (0) (1) (1) = (some [.ptr b 0 0])) ∧ (loadCellsA (⟨O3, N + 2, G⟩) (b) (0) (80) (1) = (some [.ptr (N + 1) 0 0])) ∧ (storeCellsA (⟨O3, N + 2, G⟩) (qi) (0) (1) ([.ptr (N + 1) 0 0]) = (some ⟨O4, N + 2, G⟩)) ∧ (loadCellsA (⟨O4, N + 2, G⟩) (qi) (0) (1) (1) = (some [.ptr (N + 1) 0 0])) ∧ (loadCellsA (⟨O4, N + 2, G⟩) (N) (0) (0) (5) = (some [v0, v1, v2, v3, v4])) ∧ ((0 : Int) ≤ (IntKind.i64.wrap (fr + n)).tmod (16 : Int) ∧ (IntKind.i64.wrap (fr + n)).tmod (16 : Int) < (↑16 : Int)) ∧ (storeCellsA (⟨O4, N + 2, G⟩) (N + 1) (0) (0 + ((IntKind.i64.wrap (fr + n)).tmod (16 : Int)).toNat * 5) ([v0, v1, v2, v3, v4]) = (some ⟨O5, N + 2, G⟩)) ∧ (loadCellsA (⟨O5, N + 2, G⟩) (qi) (0) (3) (1) = (some [.int .i64 n])) ∧ (storeCellsA (⟨O5, N + 2, G⟩) (qi) (0) (3) ([.int .i64 (IntKind.i64.wrap (n + (1 : Int)))]) = (some ⟨O6, N + 2, G⟩))
/-- PC: what has to be shown. -/
def PC (O : T AObj) (N qi : Nat) (G : T (T AV)) (fr n : Int) (b : Nat) (v0 v1 v2 v3 v4 : AV) (O1 O2 O3 : T AObj) : Prop := (T.set ((some (.cells (.node (.node (.node .leaf (some v3) .leaf) (some v1) .leaf) (some v0) (.node (.node .leaf (some v4) .leaf) (some v2) .leaf)) 5 32 0 0 1 0 false .leaf))) (O) (N) = O1) ∧ (loadCellsA (⟨O1, N + 1, G⟩) (qi) (0) (2) (1) = (some [.int .i64 fr])) ∧ (loadCellsA (⟨O1, N + 1, G⟩) (qi) (0) (3) (1) = (some [.int .i64 n])) ∧ (loadCellsA (⟨O1, N + 1, G⟩) (qi) (0) (3) (1) = (some [.int .i64 n])) ∧ ((n == (0 : Int)) = false) ∧ (((IntKind.i64.wrap (fr + n)).tmod (16 : Int) == (0 : Int)) = false) ∧ (loadCellsA (⟨O1, N + 1, G⟩) (qi) (0) (1) (1) = (some [.ptr b 0 0])) ∧ (loadCellsA (⟨O1, N + 1, G⟩) (N) (0) (0) (5) = (some [v0, v1, v2, v3, v4])) ∧ ((0 : Int) ≤ (IntKind.i64.wrap (fr + n)).tmod (16 : Int) ∧ (IntKind.i64.wrap (fr + n)).tmod (16 : Int) < (↑16 : Int)) ∧ (storeCellsA (⟨O1, N + 1, G⟩) (b) (0) (0 + ((IntKind.i64.wrap (fr + n)).tmod (16 : Int)).toNat * 5) ([v0, v1, v2, v3, v4]) = (some ⟨O2, N + 1, G⟩)) ∧ (loadCellsA (⟨O2, N + 1, G⟩) (qi) (0) (3) (1) = (some [.int .i64 n])) ∧ (storeCellsA (⟨O2, N + 1, G⟩) (qi) (0) (3) ([.int .i64 (IntKind.i64.wrap (n + (1 : Int)))]) = (some ⟨O3, N + 1, G⟩))
/-- TE: what has to be shown. -/
def TE (O : T AObj) (N qi : Nat) (G : T (T AV)) (n : Int) (O1 O2 : T AObj) : Prop := (T.set ((some (.cells (.node (.node (.node .leaf (some (.str [])) .leaf) (some (.str [])) .leaf) (some (.int .i64 0)) (.node (.node .leaf (some (.bool false)) .leaf) (some (.int .u64 0)) .leaf)) 5 32 0 0 1 0 false .leaf))) (O) (N) = O1) ∧ (loadCellsA (⟨O1, N + 1, G⟩) (qi) (0) (3) (1) = (some [.int .i64 n])) ∧ ((n == (0 : Int)) = true) ∧ (storeCellsA (⟨O1, N + 1, G⟩) (N) (0) (0) ([.int .i64 0, .str [], .int .u64 0, .str [], .bool false]) = (some ⟨O2, N + 1, G⟩)) ∧ (loadCellsA { objs := O2, next := N + 1, glob := G } N (0) (0) (5) = some [.int .i64 0, .str [], .int .u64 0, .str [], .bool false] ∧ True)
/-- TA: what has to be shown. -/
def TA (O : T AObj) (N qi : Nat) (G : T (T AV)) (fr n : Int) (b : Nat) (v0 v1 v2 v3 v4 : AV) (O1 O2 O3 O4 O5 O6 O7 O8 O9 O10 O11 O12 O13 : T AObj) : Prop := (T.set ((some (.cells (.node (.node (.node .leaf (some (.str [])) .leaf) (some (.str [])) .leaf) (some (.int .i64 0)) (.node (.node .leaf (some (.bool false)) .leaf) (some (.int .u64 0)) .leaf)) 5 32 0 0 1 0 false .leaf))) (O) (N) = O1) ∧ (loadCellsA (⟨O1, N + 1, G⟩) (qi) (0) (3) (1) = (some [.int .i64 n])) ∧ ((n == (0 : Int)) = false) ∧ (loadCellsA (⟨O1, N + 1, G⟩) (qi) (0) (0) (1) = (some [.ptr b 0 0])) ∧ (loadCellsA (⟨O1, N + 1, G⟩) (qi) (0) (2) (1) = (some [.int .i64 fr])) ∧ (T.set ((some (.cells (.node (.node (.node .leaf (some (.str [])) .leaf) (some (.str [])) .leaf) (some (.int .i64 0)) (.node (.node .leaf (some (.bool false)) .leaf) (some (.int .u64 0)) .leaf)) 5 32 0 0 1 0 false .leaf))) (O1) (N + 1) = O2) ∧ (loadCellsA (⟨O2, N + 2, G⟩) (qi) (0) (2) (1) = (some [.int .i64 fr])) ∧ (loadCellsA (⟨O2, N + 2, G⟩) (qi) (0) (0) (1) = (some [.ptr b 0 0])) ∧ (T.set ((some (.cells (.node (.node (.node .leaf (some (.str [])) .leaf) (some (.str [])) .leaf) (some (.int .i64 0)) (.node (.node .leaf (some (.bool false)) .leaf) (some (.int .u64 0)) .leaf)) 5 32 0 0 1 0 false .leaf))) (O2) (N + 2) = O3) ∧ ((0 : Int) ≤ fr ∧ fr < (↑16 : Int)) ∧ (loadCellsA (⟨O3, N + 3, G⟩) (b) (0) (0 + fr.toNat * 5) (5) = (some [v0, v1, v2, v3, v4])) ∧ (T.set ((some (.cells (.node (.node (.node .leaf (some (.str [])) .leaf) (some (.str [])) .leaf) (some (.int .i64 0)) (.node (.node .leaf (some (.bool false)) .leaf) (some (.int .u64 0)) .leaf)) 5 32 0 0 1 0 false .leaf))) (O3) (N + 3) = O4) ∧ (storeCellsA (⟨O4, N + 4, G⟩) (N + 3) (0) (0) ([v0, v1, v2, v3, v4]) = (some ⟨O5, N + 4, G⟩)) ∧ (sliceH P (⟨O5, N + 4, G⟩) (50) (.ptr b 0 0) ((some fr)) ((some (IntKind.i64.wrap (fr + (1 : Int))))) (none) = (some (.slc b 0 (0 + fr.toNat * 5) 1 (16 - fr.toNat)))) ∧ (builtinE P (⟨O5, N + 4, G⟩) (Builtin.clear) ((some 55)) (none) ([.slc b 0 (0 + fr.toNat * 5) 1 (16 - fr.toNat)]) = (some (.val (.tup []) ⟨O6, N + 4, G⟩))) ∧ (loadCellsA (⟨O6, N + 4, G⟩) (N + 3) (0) (0) (5) = (some [v0, v1, v2, v3, v4])) ∧ (storeCellsA (⟨O6, N + 4, G⟩) (N + 2) (0) (0) ([v0, v1, v2, v3, v4]) = (some ⟨O7, N + 4, G⟩)) ∧ (loadCellsA { objs := O7, next := N + 4, glob := G } (N + 2) (0) (0) (5) = some [v0, v1, v2, v3, v4] ∧ True) ∧ (storeCellsA (⟨O7, N + 4, G⟩) (N + 1) (0) (0) ([v0, v1, v2, v3, v4]) = (some ⟨O8, N + 4, G⟩)) ∧ (loadCellsA (⟨O8, N + 4, G⟩) (qi) (0) (2) (1) = (some [.int .i64 fr])) ∧ (storeCellsA (⟨O8, N + 4, G⟩) (qi) (0) (2) ([.int .i64 (IntKind.i64.wrap (fr + (1 : Int)))]) = (some ⟨O9, N + 4, G⟩)) ∧ (loadCellsA (⟨O9, N + 4, G⟩) (qi) (0) (3) (1) = (some [.int .i64 n])) ∧ (storeCellsA (⟨O9, N + 4, G⟩) (qi) (0) (3) ([.int .i64 (IntKind.i64.wrap (n - (1 : Int)))]) = (some ⟨O10, N + 4, G⟩)) ∧ (loadCellsA (⟨O10, N + 4, G⟩) (qi) (0) (3) (1) = (some [.int .i64 (IntKind.i64.wrap (n - (1 : Int)))])) ∧ ((IntKind.i64.wrap (n - (1 : Int)) == (0 : Int)) = true) ∧ (storeCellsA (⟨O10, N + 4, G⟩) (qi) (0) (0) ([.nilp]) = (some ⟨O11, N + 4, G⟩)) ∧ (storeCellsA (⟨O11, N + 4, G⟩) (qi) (0) (1) ([.nilp]) = (some ⟨O12, N + 4, G⟩)) ∧ (loadCellsA (⟨O12, N + 4, G⟩) (N + 1) (0) (0) (5) = (some [v0, v1, v2, v3, v4])) ∧ (storeCellsA (⟨O12, N + 4, G⟩) (N) (0) (0) ([v0, v1, v2, v3, v4]) = (some ⟨O13, N + 4, G⟩)) ∧ (loadCellsA { objs := O13, next := N + 4, glob := G } N (0) (0) (5) = some [v0, v1, v2, v3, v4] ∧ True)
/-- TB: what has to be shown. -/
def TB (O : T AObj) (N qi : Nat) (G : T (T AV)) (fr n : Int) (b c : Nat) (v0 v1 v2 v3 v4 : AV) (O1 O2 O3 O4 O5 O6 O7 O8 O9 O10 O11 O12 O13 : T AObj) : Prop := (T.set ((some (.cells (.node (.node (.node .leaf (some (.str [])) .leaf) (some (.str [])) .leaf) (some (.int .i64 0)) (.node (.node .leaf (some (.bool false)) .leaf) (some (.int .u64 0)) .leaf)) 5 32 0 0 1 0 false .leaf))) (O) (N) = O1) ∧ (loadCellsA (⟨O1, N + 1, G⟩) (qi) (0) (3) (1) = (some [.int .i64 n])) ∧ ((n == (0 : Int)) = false) ∧ (loadCellsA (⟨O1, N + 1, G⟩) (qi) (0) (0) (1) = (some [.ptr b 0 0])) ∧ (loadCellsA (⟨O1, N + 1, G⟩) (qi) (0) (2) (1) = (some [.int .i64 fr])) ∧ (T.set ((some (.cells (.node (.node (.node .leaf (some (.str [])) .leaf) (some (.str [])) .leaf) (some (.int .i64 0)) (.node (.node .leaf (some (.bool false)) .leaf) (some (.int .u64 0)) .leaf)) 5 32 0 0 1 0 false .leaf))) (O1) (N + 1) = O2) ∧ (loadCellsA (⟨O2, N + 2, G⟩) (qi) (0) (2) (1) = (some [.int .i64 fr])) ∧ (loadCellsA (⟨O2, N + 2, G⟩) (qi) (0) (0) (1) = (some [.ptr b 0 0])) ∧ (T.set ((some (.cells (.node (.node (.node .leaf (some (.str [])) .leaf) (some (.str [])) .leaf) (some (.int .i64 0)) (.node (.node .leaf (some (.bool false)) .leaf) (some (.int .u64 0)) .leaf)) 5 32 0 0 1 0 false .leaf))) (O2) (N + 2) = O3) ∧ ((0 : Int) ≤ fr ∧ fr < (↑16 : Int)) ∧ (loadCellsA (⟨O3, N + 3, G⟩) (b) (0) (0 + fr.toNat * 5) (5) = (some [v0, v1, v2, v3, v4])) ∧ (T.set ((some (.cells (.node (.node (.node .leaf (some (.str [])) .leaf) (some (.str [])) .leaf) (some (.int .i64 0)) (.node (.node .leaf (some (.bool false)) .leaf) (some (.int .u64 0)) .leaf)) 5 32 0 0 1 0 false .leaf))) (O3) (N + 3) = O4) ∧ (storeCellsA (⟨O4, N + 4, G⟩) (N + 3) (0) (0) ([v0, v1, v2, v3, v4]) = (some ⟨O5, N + 4, G⟩)) ∧ (sliceH P (⟨O5, N + 4, G⟩) (50) (.ptr b 0 0) ((some fr)) ((some (IntKind.i64.wrap (fr + (1 : Int))))) (none) = (some (.slc b 0 (0 + fr.toNat * 5) 1 (16 - fr.toNat)))) ∧ (builtinE P (⟨O5, N + 4, G⟩) (Builtin.clear) ((some 55)) (none) ([.slc b 0 (0 + fr.toNat * 5) 1 (16 - fr.toNat)]) = (some (.val (.tup []) ⟨O6, N + 4, G⟩))) ∧ (loadCellsA (⟨O6, N + 4, G⟩) (N + 3) (0) (0) (5) = (some [v0, v1, v2, v3, v4])) ∧ (storeCellsA (⟨O6, N + 4, G⟩) (N + 2) (0) (0) ([v0, v1, v2, v3, v4]) = (some ⟨O7, N + 4, G⟩)) ∧ (loadCellsA { objs := O7, next := N + 4, glob := G } (N + 2) (0) (0) (5) = some [v0, v1, v2, v3, v4] ∧ True) ∧ (storeCellsA (⟨O7, N + 4, G⟩) (N + 1) (0) (0) ([v0, v1, v2, v3, v4]) = (some ⟨O8, N + 4, G⟩)) ∧ (loadCellsA (⟨O8, N + 4, G⟩) (qi) (0) (2) (1) = (some [.int .i64 fr])) ∧ (storeCellsA (⟨O8, N + 4, G⟩) (qi) (0) (2) ([.int .i64 (IntKind.i64.wrap (fr + (1 : Int)))]) = (some ⟨O9, N + 4, G⟩)) ∧ (loadCellsA (⟨O9, N + 4, G⟩) (qi) (0) (3) (1) = (some [.int .i64 n])) ∧ (storeCellsA (⟨O9, N + 4, G⟩) (qi) (0) (3) ([.int .i64 (IntKind.i64.wrap (n - (1 : Int)))]) = (some ⟨O10, N + 4, G⟩)) ∧ (loadCellsA (⟨O10, N + 4, G⟩) (qi) (0) (3) (1) = (some [.int .i64 (IntKind.i64.wrap (n - (1 : Int)))])) ∧ ((IntKind.i64.wrap (n - (1 : Int)) == (0 : Int)) = false) ∧ (loadCellsA (⟨O10, N + 4, G⟩) (qi) (0) (2) (1) = (some [.int .i64 (IntKind.i64.wrap (fr + (1 : Int)))])) ∧ ((IntKind.i64.wrap (fr + (1 : Int)) == (16 : Int)) = true) ∧ (loadCellsA (⟨O10, N + 4, G⟩) (qi) (0) (0) (1) = (some [.ptr b 0 0])) ∧ (loadCellsA (⟨O10, N + 4, G⟩) (b) (0) (80) (1) = (some [.ptr c 0 0])) ∧ (storeCellsA (⟨O10, N + 4, G⟩) (qi) (0) (0) ([.ptr c 0 0]) = (some ⟨O11, N + 4, G⟩)) ∧ (storeCellsA (⟨O11, N + 4, G⟩) (qi) (0) (2) ([.int .i64 0]) = (some ⟨O12, N + 4, G⟩)) ∧ (loadCellsA (⟨O12, N + 4, G⟩) (N + 1) (0) (0) (5) = (some [v0, v1, v2, v3, v4])) ∧ (storeCellsA (⟨O12, N + 4, G⟩) (N) (0) (0) ([v0, v1, v2, v3, v4]) = (some ⟨O13, N + 4, G⟩)) ∧ (loadCellsA { objs := O13, next := N + 4, glob := G } N (0) (0) (5) = some [v0, v1, v2, v3, v4] ∧ True)
/-- TC: what has to be shown. -/
def TC (O : T AObj) (N qi : Nat) (G : T (T AV)) (fr n : Int) (b : Nat) (v0 v1 v2 v3 v4 : AV) (O1 O2 O3 O4 O5 O6 O7 O8 O9 O10 O11 : T AObj) : Prop := (T.set ((some (.cells (.node (.node (.node .leaf (some (.str [])) .leaf) (some (.str [])) .leaf) (some (.int .i64 0)) (.node (.node .leaf (some (.bool false)) .leaf) (some (.int .u64 0)) .leaf)) 5 32 0 0 1 0 false .leaf))) (O) (N) = O1) ∧ (loadCellsA (⟨O1, N + 1, G⟩) (qi) (0) (3) (1) = (some [.int .i64 n])) ∧ ((n == (0 : Int)) = false) ∧ (loadCellsA (⟨O1, N + 1, G⟩) (qi) (0) (0) (1) = (some [.ptr b 0 0])) ∧ (loadCellsA (⟨O1, N + 1, G⟩) (qi) (0) (2) (1) = (some [.int .i64 fr])) ∧ (T.set ((some (.cells (.node (.node (.node .leaf (some (.str [])) .leaf) (some (.str [])) .leaf) (some (.int .i64 0)) (.node (.node .leaf (some (.bool false)) .leaf) (some (.int .u64 0)) .leaf)) 5 32 0 0 1 0 false .leaf))) (O1) (N + 1) = O2) ∧ (loadCellsA (⟨O2, N + 2, G⟩) (qi) (0) (2) (1) = (some [.int .i64 fr])) ∧ (loadCellsA (⟨O2, N + 2, G⟩) (qi) (0) (0) (1) = (some [.ptr b 0 0])) ∧ (T.set ((some (.cells (.node (.node (.node .leaf (some (.str [])) .leaf) (some (.str [])) .leaf) (some (.int .i64 0)) (.node (.node .leaf (some (.bool false)) .leaf) (some (.int .u64 0)) .leaf)) 5 32 0 0 1 0 false .leaf))) (O2) (N + 2) = O3) ∧ ((0 : Int) ≤ fr ∧ fr < (↑16 : Int)) ∧ (loadCellsA (⟨O3, N + 3, G⟩) (b) (0) (0 + fr.toNat * 5) (5) = (some [v0, v1, v2, v3, v4])) ∧ (T.set ((some (.cells (.node (.node (.node .leaf (some (.str [])) .leaf) (some (.str [])) .leaf) (some (.int .i64 0)) (.node (.node .leaf (some (.bool false)) .leaf) (some (.int .u64 0)) .leaf)) 5 32 0 0 1 0 false .leaf))) (O3) (N + 3) = O4) ∧ (storeCellsA (⟨O4, N + 4, G⟩) (N + 3) (0) (0) ([v0, v1, v2, v3, v4]) = (some ⟨O5, N + 4, G⟩)) ∧ (sliceH P (⟨O5, N + 4, G⟩) (50) (.ptr b 0 0) ((some fr)) ((some (IntKind.i64.wrap (fr + (1 : Int))))) (none) = (some (.slc b 0 (0 + fr.toNat * 5) 1 (16 - fr.toNat)))) ∧ (builtinE P (⟨O5, N + 4, G⟩) (Builtin.clear) ((some 55)) (none) ([.slc b 0 (0 + fr.toNat * 5) 1 (16 - fr.toNat)]) = (some (.val (.tup []) ⟨O6, N + 4, G⟩))) ∧ (loadCellsA (⟨O6, N + 4, G⟩) (N + 3) (0) (0) (5) = (some [v0, v1, v2, v3, v4])) ∧ (storeCellsA (⟨O6, N + 4, G⟩) (N + 2) (0) (0) ([v0, v1, v2, v3, v4]) = (some ⟨O7, N + 4, G⟩)) ∧ (loadCellsA { objs := O7, next := N + 4, glob := G } (N + 2) (0) (0) (5) = some [v0, v1, v2, v3, v4] ∧ True) ∧ (storeCellsA (⟨O7, N + 4, G⟩) (N + 1) (0) (0) ([v0, v1, v2, v3, v4]) = (some ⟨O8, N + 4, G⟩)) ∧ (loadCellsA (⟨O8, N + 4, G⟩) (qi) (0) (2) (1) = (some [.int .i64 fr])) ∧ (storeCellsA (⟨O8, N + 4, G⟩) (qi) (0) (2) ([.int .i64 (IntKind.i64.wrap (fr + (1 : Int)))]) = (some ⟨O9, N + 4, G⟩)) ∧ (loadCellsA (⟨O9, N + 4, G⟩) (qi) (0) (3) (1) = (some [.int .i64 n])) ∧ (storeCellsA (⟨O9, N + 4, G⟩) (qi) (0) (3) ([.int .i64 (IntKind.i64.wrap (n - (1 : Int)))]) = (some ⟨O10, N + 4, G⟩)) ∧ (loadCellsA (⟨O10, N + 4, G⟩) (qi) (0) (3) (1) = (some [.int .i64 (IntKind.i64.wrap (n - (1 : Int)))])) ∧ ((IntKind.i64.wrap (n - (1 : Int)) == (0 : Int)) = false) ∧ (loadCellsA (⟨O10, N + 4, G⟩) (qi) (0) (2) (1) = (some [.int .i64 (IntKind.i64.wrap (fr + (1 : Int)))])) ∧ ((IntKind.i64.wrap (fr + (1 : Int)) == (16 : Int)) = false) ∧ (loadCellsA (⟨O10, N + 4, G⟩) (N + 1) (0) (0) (5) = (some [v0, v1, v2, v3, v4])) ∧ (storeCellsA (⟨O10, N + 4, G⟩) (N) (0) (0) ([v0, v1, v2, v3, v4]) = (some ⟨O11, N + 4, G⟩)) ∧ (loadCellsA { objs := O11, next := N + 4, glob := G } N (0) (0) (5) = some [v0, v1, v2, v3, v4] ∧ True)

/-- A queue of those that were put p, less those that were taken, t. -/
def Rep (I : Nat → Nat → AV) (qi : Nat) (X : Nat → Prop) (O : T AObj) (N p t : Nat) : Prop :=
  qi < N ∧ ¬ X qi ∧ (∀ j, X j → j < N) ∧
  ((p = t ∧ ∃ (la lb : AV) (fr : Int), Row O qi 4 (q4 la lb (.int .i64 fr) (.int .i64 0))) ∨
   (t < p ∧ ∃ (fr nb : Nat) (ids : Nat → Nat) (F : Nat → Nat → AV), fr < 16 ∧ 16 * nb < fr + (p - t) ∧ fr + (p - t) ≤ 16 * nb + 16 ∧
      Row O qi 4 (q4 (.ptr (ids 0) 0 0) (.ptr (ids nb) 0 0) (.int .i64 (fr : Int)) (.int .i64 ((p - t : Nat) : Int))) ∧
      (∀ j, j ≤ nb → ids j < N ∧ ids j ≠ qi ∧ ¬ X (ids j) ∧ Row O (ids j) 81 (F j)) ∧
      (∀ j, j < nb → F j 80 = .ptr (ids (j + 1)) 0 0) ∧
      (∀ i j, i ≤ nb → j ≤ nb → ids i = ids j → i = j) ∧
      ∀ m, m < p - t → ∀ u, u < 5 → F ((fr + m) / 16) ((fr + m) % 16 * 5 + u) = I (t + m) u))

theorem at_eq {fr n : Nat} (h : fr + n < 10000000000) : (IntKind.i64.wrap ((fr : Int) + (n : Int))).tmod (16 : Int) = (((fr + n) % 16 : Nat) : Int) := by
  have w : IntKind.i64.wrap ((fr : Int) + (n : Int)) = ((fr + n : Nat) : Int) := by rw [IntKind.wrap_i64]; omega
  rw [w, Int.tmod_eq_emod_of_nonneg (by omega)]
  omega

theorem five {v0 v1 v2 v3 v4 : AV} {f : Nat → AV} (h : ∀ u, u < 5 → [v0, v1, v2, v3, v4].getD u undefA = f u) {F : Nat → AV} {off u : Nat} (hu : u < 5) : upd F off [v0, v1, v2, v3, v4] (off + u) = f u := (upd_in hu).trans (h u hu)

variable {I : Nat → Nat → AV} {qi N p t : Nat} {X : Nat → Prop} {O : T AObj}

theorem put_rep {v0 v1 v2 v3 v4 : AV} (hv : [v0, v1, v2, v3, v4].all AV.one = true) (hI : ∀ u, u < 5 → [v0, v1, v2, v3, v4].getD u undefA = I p u) (G : T (T AV)) (hR : Rep I qi X O N p t) (hp : p < 1000000000) :
    (∃ (fr n : Int) (O1 O2 O3 O4 O5 O6 O7 : T AObj), PA O N qi G fr n v0 v1 v2 v3 v4 O1 O2 O3 O4 O5 O6 O7 ∧ Rep I qi X O7 (N + 2) (p + 1) t ∧ ∀ j, X j → O7.get j = O.get j) ∨
    (∃ (fr n : Int) (b : Nat) (O1 O2 O3 O4 O5 O6 : T AObj), PB O N qi G fr n b v0 v1 v2 v3 v4 O1 O2 O3 O4 O5 O6 ∧ Rep I qi X O6 (N + 2) (p + 1) t ∧ ∀ j, X j → O6.get j = O.get j) ∨
    (∃ (fr n : Int) (b : Nat) (O1 O2 O3 : T AObj), PC O N qi G fr n b v0 v1 v2 v3 v4 O1 O2 O3 ∧ Rep I qi X O3 (N + 1) (p + 1) t ∧ ∀ j, X j → O3.get j = O.get j) := by
  obtain ⟨hq, hqX, hX, hR⟩ := hR
  rcases hR with ⟨rfl, la, lb, fr, hr⟩ | ⟨htp, fr, nb, ids, F, h16, hlo, hhi, hr, hb, hnx, hinj, hit⟩
  · obtain ⟨O1, O2, O3, O4, O5, O6, O7, l0, l1, l2, l3, l4, l5, l6, l7, l8, l9, l10, l11, l12, l13, l14, z0, z1, z2⟩ := heap_pa (G := G) (a := 0) (b := 0) (F := zf81) (fr := fr) hv hr hq rfl
    refine .inl ⟨fr, 0, O1, O2, O3, O4, O5, O6, O7, ⟨l0, l1, l2, l3, l4, l5, l6, l7, l8, l9, l10, l11, l12, l13, l14⟩, ⟨by omega, hqX, fun j hj => by have := hX j hj; omega, .inr ⟨by omega, 0, 0, fun _ => N + 1, fun _ => upd zf81 0 [v0, v1, v2, v3, v4], by omega, by omega, by omega, ?_, fun j hj => ⟨(by omega : N + 1 < N + 2), (by omega : N + 1 ≠ qi), fun h => by have := hX (N + 1) h; omega, z1⟩, fun j hj => absurd hj (Nat.not_lt_zero j), fun i j hi hj _ => by omega, fun m hm u hu => ?_⟩⟩, fun j hj => z2 j (by have := hX j hj; omega) (by have := hX j hj; omega) (fun h => hqX (h ▸ hj))⟩
    · have e : (IntKind.i64.wrap (0 + (1 : Int))) = ((p + 1 - p : Nat) : Int) := by rw [IntKind.wrap_i64]; omega
      rw [← e]
      exact z0
    · obtain rfl : m = 0 := by omega
      show upd zf81 0 _ (0 % 16 * 5 + u) = _
      rw [show 0 % 16 * 5 + u = 0 + u by omega]
      exact five hI hu
  · have hat := at_eq (fr := fr) (n := p - t) (by omega)
    have hn0 : (((p - t : Nat) : Int) == (0 : Int)) = false := by
      rw [beq_eq_false_iff_ne]
      omega
    have hw : IntKind.i64.wrap (((p - t : Nat) : Int) + (1 : Int)) = ((p + 1 - t : Nat) : Int) := by rw [IntKind.wrap_i64]; omega
    have hr2 : (0 : Int) ≤ (IntKind.i64.wrap ((fr : Int) + ((p - t : Nat) : Int))).tmod (16 : Int) ∧ (IntKind.i64.wrap ((fr : Int) + ((p - t : Nat) : Int))).tmod (16 : Int) < ((16 : Nat) : Int) := by
      rw [hat]
      omega
    obtain ⟨b1, b2, b3, b4⟩ := hb nb (Nat.le_refl _)
    have hna : ((IntKind.i64.wrap ((fr : Int) + ((p - t : Nat) : Int))).tmod (16 : Int)).toNat = (fr + (p - t)) % 16 := by
      rw [hat]
      omega
    by_cases h0 : (fr + (p - t)) % 16 = 0
    · have c1 : ((IntKind.i64.wrap ((fr : Int) + ((p - t : Nat) : Int))).tmod (16 : Int) == (0 : Int)) = true := by
        rw [hat, h0]
        rfl
      obtain ⟨O1, O2, O3, O4, O5, O6, l0, l1, l2, l3, l4, l5, l6, l7, l8, l9, l10, l11, l12, l13, l14, l15, l16, l17, z0, z1, z2, z3⟩ := heap_pb (G := G) (a := 0) (lb := .nilp) hv hr b4 hq b1 b2 hn0 c1 hr2
      rw [hw] at z0
      rw [hna, h0] at z2
      have kk : ∀ j, j < nb → O6.get (ids j) = O.get (ids j) := fun j hj => by
        obtain ⟨g1, g2, g3, g4⟩ := hb j (by omega)
        exact z3 (ids j) (by omega) (by omega) (fun h => absurd (hinj _ _ (by omega) (Nat.le_refl _) h) (by omega)) g2
      refine .inr (.inl ⟨(fr : Int), ((p - t : Nat) : Int), ids nb, O1, O2, O3, O4, O5, O6, ⟨l0, l1, l2, l3, l4, l5, l6, l7, l8, l9, l10, l11, l12, l13, l14, l15, l16, l17⟩, ⟨by omega, hqX, fun j hj => by have := hX j hj; omega, .inr ⟨by omega, fr, nb + 1, fun j => if j = nb + 1 then N + 1 else ids j, fun j => if j = nb + 1 then upd zf81 (0 + 0 * 5) [v0, v1, v2, v3, v4] else if j = nb then upd (F nb) 80 [.ptr (N + 1) 0 0] else F j, h16, by omega, by omega, ?_, fun j hj => ?_, fun j hj => ?_, fun i j hi hj hij => ?_, fun m hm u hu => ?_⟩⟩, fun j hj => z3 j (by have := hX j hj; omega) (by have := hX j hj; omega) (fun h => b3 (h ▸ hj)) (fun h => hqX (h ▸ hj))⟩)
      · show Row O6 qi 4 (q4 (.ptr (if 0 = nb + 1 then N + 1 else ids 0) 0 0) (.ptr (if nb + 1 = nb + 1 then N + 1 else ids (nb + 1)) 0 0) _ _)
        rw [if_neg (show (0 : Nat) ≠ nb + 1 by omega), if_pos rfl]
        exact z0
      · by_cases e1 : j = nb + 1
        · subst e1
          simp only [if_true]
          exact ⟨by omega, by omega, fun h => by have := hX _ h; omega, z2⟩
        · simp only [if_neg e1]
          obtain ⟨g1, g2, g3, g4⟩ := hb j (by omega)
          refine ⟨by omega, g2, g3, ?_⟩
          by_cases e2 : j = nb
          · subst e2
            simp only [if_true]
            exact z1
          · simp only [if_neg e2]
            exact g4.same (kk j (by omega))
      · simp only [if_neg (show j ≠ nb + 1 by omega)]
        by_cases e2 : j = nb
        · subst e2
          simp only [if_true]
          exact upd_in (f := F j) (off := 80) (vs := [.ptr (N + 1) 0 0]) (u := 0) Nat.zero_lt_one
        · simp only [if_neg e2, if_neg (show j + 1 ≠ nb + 1 by omega)]
          exact hnx j (by omega)
      · by_cases e1 : i = nb + 1
        · by_cases e2 : j = nb + 1
          · omega
          · simp only [if_pos e1, if_neg e2] at hij
            have := (hb j (by omega)).1
            omega
        · by_cases e2 : j = nb + 1
          · simp only [if_neg e1, if_pos e2] at hij
            have := (hb i (by omega)).1
            omega
          · simp only [if_neg e1, if_neg e2] at hij
            exact hinj i j (by omega) (by omega) hij
      · have q16 : fr + (p - t) = 16 * (nb + 1) := by omega
        by_cases e1 : m = p - t
        · subst e1
          rw [show (fr + (p - t)) / 16 = nb + 1 by omega, show (fr + (p - t)) % 16 * 5 + u = 0 + 0 * 5 + u by omega]
          simp only [if_true]
          rw [show t + (p - t) = p by omega]
          exact five hI hu
        · have hm' : m < p - t := by omega
          rw [← hit m hm' u hu]
          simp only [if_neg (show (fr + m) / 16 ≠ nb + 1 by omega)]
          by_cases e2 : (fr + m) / 16 = nb
          · rw [if_pos e2, e2]
            exact upd_out (.inl (by omega))
          · rw [if_neg e2]
    · have c1 : ((IntKind.i64.wrap ((fr : Int) + ((p - t : Nat) : Int))).tmod (16 : Int) == (0 : Int)) = false := by
        rw [hat, beq_eq_false_iff_ne]
        omega
      obtain ⟨O1, O2, O3, l0, l1, l2, l3, l4, l5, l6, l7, l8, l9, l10, l11, z0, z1, z2⟩ := heap_pc (G := G) (a := 0) (lb := .nilp) hv hr b4 hq b1 b2 hn0 c1 hr2
      rw [hw] at z0
      rw [hna] at z1
      refine .inr (.inr ⟨(fr : Int), ((p - t : Nat) : Int), ids nb, O1, O2, O3, ⟨l0, l1, l2, l3, l4, l5, l6, l7, l8, l9, l10, l11⟩, ⟨by omega, hqX, fun j hj => by have := hX j hj; omega, .inr ⟨by omega, fr, nb, ids, fun j => if j = nb then upd (F nb) (0 + (fr + (p - t)) % 16 * 5) [v0, v1, v2, v3, v4] else F j, h16, by omega, by omega, z0, fun j hj => ?_, fun j hj => ?_, hinj, fun m hm u hu => ?_⟩⟩, fun j hj => z2 j (by have := hX j hj; omega) (fun h => b3 (h ▸ hj)) (fun h => hqX (h ▸ hj))⟩)
      · obtain ⟨g1, g2, g3, g4⟩ := hb j hj
        refine ⟨by omega, g2, g3, ?_⟩
        by_cases e2 : j = nb
        · subst e2
          simp only [if_true]
          exact z1
        · simp only [if_neg e2]
          exact g4.same (z2 (ids j) (by omega) (fun h => e2 (hinj _ _ hj (Nat.le_refl _) h)) g2)
      · simp only [if_neg (show j ≠ nb by omega)]
        exact hnx j hj
      · by_cases e1 : m = p - t
        · subst e1
          rw [show (fr + (p - t)) / 16 = nb by omega]
          simp only [if_true]
          rw [show (fr + (p - t)) % 16 * 5 + u = 0 + (fr + (p - t)) % 16 * 5 + u by omega, show t + (p - t) = p by omega]
          exact five hI hu
        · rw [← hit m (by omega) u hu]
          by_cases e2 : (fr + m) / 16 = nb
          · simp only [e2, if_true]
            refine upd_out ?_
            show _ ∨ _ + 5 ≤ _
            left
            have : (fr + m) % 16 < (fr + (p - t)) % 16 := by omega
            omega
          · simp only [if_neg e2]

end Go.Proofs.Ytijkclfajopjkaa.qo
