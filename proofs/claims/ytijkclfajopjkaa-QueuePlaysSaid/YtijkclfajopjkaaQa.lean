/- Queue's rows: what Put does to the heap. -/
import Derived.Test.YtijkclfajopjkaaHo
import Derived.Test.YtijkclfajopjkaaProg
set_option maxRecDepth 100000
set_option linter.unusedVariables false
namespace Go.Proofs.Ytijkclfajopjkaa.qo
open Go Ev
noncomputable abbrev P : Program := Try.prog

def i5 (l : List AV) (k : Nat) : AV := l.getD k undefA
noncomputable def zt81 : T AV := (.node (.node (.node (.node (.node (.node (.node .leaf (some (.str [])) .leaf) (some (.str [])) .leaf) (some (.int .i64 0)) (.node (.node .leaf (some (.bool false)) .leaf) (some (.int .u64 0)) .leaf)) (some (.int .u64 0)) (.node (.node (.node .leaf (some (.str [])) .leaf) (some (.bool false)) .leaf) (some (.str [])) (.node .leaf (some (.int .i64 0)) .leaf))) (some (.str [])) (.node (.node (.node (.node .leaf (some (.int .u64 0)) .leaf) (some (.int .i64 0)) .leaf) (some (.bool false)) (.node .leaf (some (.str [])) .leaf)) (some (.str [])) (.node (.node (.node .leaf (some (.int .i64 0)) .leaf) (some (.str [])) .leaf) (some (.int .u64 0)) (.node .leaf (some (.bool false)) .leaf)))) (some (.str [])) (.node (.node (.node (.node (.node .leaf (some (.int .i64 0)) .leaf) (some (.str [])) .leaf) (some (.int .u64 0)) (.node .leaf (some (.bool false)) .leaf)) (some (.bool false)) (.node (.node (.node .leaf (some (.str [])) .leaf) (some (.str [])) .leaf) (some (.int .i64 0)) (.node .leaf (some (.int .u64 0)) .leaf))) (some (.int .i64 0)) (.node (.node (.node (.node .leaf (some (.bool false)) .leaf) (some (.int .u64 0)) .leaf) (some (.str [])) (.node .leaf (some (.str [])) .leaf)) (some (.str [])) (.node (.node (.node .leaf (some (.int .u64 0)) .leaf) (some (.int .i64 0)) .leaf) (some (.bool false)) (.node .leaf (some (.str [])) .leaf))))) (some (.int .i64 0)) (.node (.node (.node (.node (.node (.node .leaf (some (.bool false)) .leaf) (some (.int .u64 0)) .leaf) (some (.str [])) (.node (.node .leaf (some .nilp) .leaf) (some (.str [])) .leaf)) (some (.str [])) (.node (.node (.node .leaf (some (.int .u64 0)) .leaf) (some (.int .i64 0)) .leaf) (some (.bool false)) (.node .leaf (some (.str [])) .leaf))) (some (.bool false)) (.node (.node (.node (.node .leaf (some (.str [])) .leaf) (some (.str [])) .leaf) (some (.int .i64 0)) (.node .leaf (some (.int .u64 0)) .leaf)) (some (.int .u64 0)) (.node (.node (.node .leaf (some (.str [])) .leaf) (some (.bool false)) .leaf) (some (.str [])) (.node .leaf (some (.int .i64 0)) .leaf)))) (some (.int .u64 0)) (.node (.node (.node (.node (.node .leaf (some (.str [])) .leaf) (some (.bool false)) .leaf) (some (.str [])) (.node .leaf (some (.int .i64 0)) .leaf)) (some (.int .i64 0)) (.node (.node (.node .leaf (some (.bool false)) .leaf) (some (.int .u64 0)) .leaf) (some (.str [])) (.node .leaf (some (.str [])) .leaf))) (some (.str [])) (.node (.node (.node (.node .leaf (some (.int .i64 0)) .leaf) (some (.str [])) .leaf) (some (.int .u64 0)) (.node .leaf (some (.bool false)) .leaf)) (some (.bool false)) (.node (.node (.node .leaf (some (.str [])) .leaf) (some (.str [])) .leaf) (some (.int .i64 0)) (.node .leaf (some (.int .u64 0)) .leaf))))))
noncomputable def zf81 (k : Nat) : AV := (zt81.get k).getD undefA
theorem zt81_ok : ∀ k, k < 81 → zt81.get k = some (zf81 k) := by
  have h : (List.range 81).all (fun k => (zt81.get k).isSome) = true := by kernel_rfl
  intro k hk
  have := List.all_eq_true.1 h k (List.mem_range.2 hk)
  unfold zf81
  cases e : zt81.get k with
  | none => rw [e] at this; cases this
  | some v => rfl
theorem upd_i5 {f : Nat → AV} {vs : List AV} : ∀ k, k < vs.length → upd f 0 vs k = i5 vs k := fun k hk => by
  unfold upd i5
  rw [if_pos (by omega), Nat.sub_zero]

theorem heap_pa {la lb : AV} {O : T AObj} {N qi a b : Nat} {G : T (T AV)} {fr n : Int} {v0 v1 v2 v3 v4 : AV} {F : Nat → AV} (hv : [v0, v1, v2, v3, v4].all AV.one = true) (hr : Row O qi 4 (q4 la lb (.int .i64 fr) (.int .i64 n))) (hq : qi < N) (p0 : (n == (0 : Int)) = true) :
    ∃ O1 O2 O3 O4 O5 O6 O7 : T AObj, (T.set ((some (.cells (.node (.node (.node .leaf (some v3) .leaf) (some v1) .leaf) (some v0) (.node (.node .leaf (some v4) .leaf) (some v2) .leaf)) 5 32 0 0 1 0 false .leaf))) (O) (N) = O1) ∧ (loadCellsA (⟨O1, N + 1, G⟩) (qi) (0) (2) (1) = (some [.int .i64 fr])) ∧ (loadCellsA (⟨O1, N + 1, G⟩) (qi) (0) (3) (1) = (some [.int .i64 n])) ∧ (loadCellsA (⟨O1, N + 1, G⟩) (qi) (0) (3) (1) = (some [.int .i64 n])) ∧ ((n == (0 : Int)) = true) ∧ (T.set ((some (.cells zt81 81 52 0 0 1 0 false .leaf))) (O1) (N + 1) = O2) ∧ (storeCellsA (⟨O2, N + 2, G⟩) (qi) (0) (0) ([.ptr (N + 1) 0 0]) = (some ⟨O3, N + 2, G⟩)) ∧ (loadCellsA (⟨O3, N + 2, G⟩) (qi) (0) (0) (1) = (some [.ptr (N + 1) 0 0])) ∧ (storeCellsA (⟨O3, N + 2, G⟩) (qi) (0) (1) ([.ptr (N + 1) 0 0]) = (some ⟨O4, N + 2, G⟩)) ∧ (storeCellsA (⟨O4, N + 2, G⟩) (qi) (0) (2) ([.int .i64 0]) = (some ⟨O5, N + 2, G⟩)) ∧ (loadCellsA (⟨O5, N + 2, G⟩) (qi) (0) (1) (1) = (some [.ptr (N + 1) 0 0])) ∧ (loadCellsA (⟨O5, N + 2, G⟩) (N) (0) (0) (5) = (some [v0, v1, v2, v3, v4])) ∧ (storeCellsA (⟨O5, N + 2, G⟩) (N + 1) (0) (0) ([v0, v1, v2, v3, v4]) = (some ⟨O6, N + 2, G⟩)) ∧ (loadCellsA (⟨O6, N + 2, G⟩) (qi) (0) (3) (1) = (some [.int .i64 n])) ∧ (storeCellsA (⟨O6, N + 2, G⟩) (qi) (0) (3) ([.int .i64 (IntKind.i64.wrap (n + (1 : Int)))]) = (some ⟨O7, N + 2, G⟩)) ∧ Row O7 (qi) 4 (q4 (.ptr (N + 1) 0 0) (.ptr (N + 1) 0 0) (.int .i64 0) (.int .i64 (IntKind.i64.wrap (n + (1 : Int))))) ∧ Row O7 (N + 1) 81 (upd zf81 (0) [v0, v1, v2, v3, v4]) ∧ (∀ j, j ≠ N → j ≠ N + 1 → j ≠ qi → O7.get j = O.get j) := by
  obtain ⟨O1, e1, r1, f1⟩ := Row.mk (n := 5) (f := i5 [v0, v1, v2, v3, v4]) (c := (.node (.node (.node .leaf (some v3) .leaf) (some v1) .leaf) (some v0) (.node (.node .leaf (some v4) .leaf) (some v2) .leaf))) (el := 32) O (N) (fun k hk => by rcases k with _ | _ | _ | _ | _ | k <;> first | rfl | omega)
  have r2 := hr.fr f1 (by omega)
  obtain ⟨O2, e2, r3, f2⟩ := Row.mk (n := 81) (f := zf81) (c := zt81) (el := 52) O1 (N + 1) zt81_ok
  have r4 := r2.fr f2 (by omega)
  have r5 := r1.fr f2 (by omega)
  obtain ⟨O3, e3, r6, f3⟩ := r4.store (N + 2) G (off := 0) (vs := [.ptr (N + 1) 0 0]) rfl (by first | decide | (simp only [List.length_cons, List.length_nil]; omega))
  have r7 := r6.to (g := q4 (.ptr (N + 1) 0 0) (lb) (.int .i64 fr) (.int .i64 n)) upd40
  have r8 := r5.fr f3 (by omega)
  have r9 := r3.fr f3 (by omega)
  obtain ⟨O4, e4, r10, f4⟩ := r7.store (N + 2) G (off := 1) (vs := [.ptr (N + 1) 0 0]) rfl (by first | decide | (simp only [List.length_cons, List.length_nil]; omega))
  have r11 := r10.to (g := q4 (.ptr (N + 1) 0 0) (.ptr (N + 1) 0 0) (.int .i64 fr) (.int .i64 n)) upd41
  have r12 := r8.fr f4 (by omega)
  have r13 := r9.fr f4 (by omega)
  obtain ⟨O5, e5, r14, f5⟩ := r11.store (N + 2) G (off := 2) (vs := [.int .i64 0]) rfl (by first | decide | (simp only [List.length_cons, List.length_nil]; omega))
  have r15 := r14.to (g := q4 (.ptr (N + 1) 0 0) (.ptr (N + 1) 0 0) (.int .i64 0) (.int .i64 n)) upd42
  have r16 := r12.fr f5 (by omega)
  have r17 := r13.fr f5 (by omega)
  obtain ⟨O6, e6, r18, f6⟩ := r17.store (N + 2) G (off := 0) (vs := [v0, v1, v2, v3, v4]) hv (by first | decide | (simp only [List.length_cons, List.length_nil]; omega))
  have r19 := r15.fr f6 (by omega)
  have r20 := r16.fr f6 (by omega)
  obtain ⟨O7, e7, r21, f7⟩ := r19.store (N + 2) G (off := 3) (vs := [.int .i64 (IntKind.i64.wrap (n + (1 : Int)))]) rfl (by first | decide | (simp only [List.length_cons, List.length_nil]; omega))
  have r22 := r21.to (g := q4 (.ptr (N + 1) 0 0) (.ptr (N + 1) 0 0) (.int .i64 0) (.int .i64 (IntKind.i64.wrap (n + (1 : Int))))) upd43
  have r23 := r20.fr f7 (by omega)
  have r24 := r18.fr f7 (by omega)
  exact ⟨O1, O2, O3, O4, O5, O6, O7, e1, (r2.load1 (by omega)).trans (by rfl), (r2.load1 (by omega)).trans (by rfl), (r2.load1 (by omega)).trans (by rfl), by assumption, e2, e3, (r7.load1 (by omega)).trans (by rfl), e4, e5, (r15.load1 (by omega)).trans (by rfl), (r16.load5 (by omega)).trans (by rfl), e6, (r19.load1 (by omega)).trans (by rfl), e7, r22, r24, fun j h0 h1 h2 => (f7 j h2).trans ((f6 j h1).trans ((f5 j h2).trans ((f4 j h2).trans ((f3 j h2).trans ((f2 j h1).trans (f1 j h0))))))⟩
theorem heap_pb {la lb : AV} {O : T AObj} {N qi a b : Nat} {G : T (T AV)} {fr n : Int} {v0 v1 v2 v3 v4 : AV} {F : Nat → AV} (hv : [v0, v1, v2, v3, v4].all AV.one = true) (hr : Row O qi 4 (q4 la (.ptr b 0 0) (.int .i64 fr) (.int .i64 n))) (hb : Row O b 81 F) (hq : qi < N) (hbN : b < N) (hbq : b ≠ qi) (p0 : (n == (0 : Int)) = false) (p1 : ((IntKind.i64.wrap (fr + n)).tmod (16 : Int) == (0 : Int)) = true) (p2 : (0 : Int) ≤ (IntKind.i64.wrap (fr + n)).tmod (16 : Int) ∧ (IntKind.i64.wrap (fr + n)).tmod (16 : Int) < (↑16 : Int)) :
    ∃ O1 O2 O3 O4 O5 O6 : T AObj, (T.set ((some (.cells (.node (.node (.node .leaf (some v3) .leaf) (some v1) .leaf) (some v0) (.node (.node .leaf (some v4) .leaf) (some v2) .leaf)) 5 32 0 0 1 0 false .leaf))) (O) (N) = O1) ∧ (loadCellsA (⟨O1, N + 1, G⟩) (qi) (0) (2) (1) = (some [.int .i64 fr])) ∧ (loadCellsA (⟨O1, N + 1, G⟩) (qi) (0) (3) (1) = (some [.int .i64 n])) ∧ (loadCellsA (⟨O1, N + 1, G⟩) (qi) (0) (3) (1) = (some [.int .i64 n])) ∧ ((n == (0 : Int)) = false) ∧ (((IntKind.i64.wrap (fr + n)).tmod (16 : Int) == (0 : Int)) = true) ∧ (loadCellsA (⟨O1, N + 1, G⟩) (qi) (0) (1) (1) = (some [.ptr b 0 0])) ∧ (T.set ((some (.cells zt81 81 52 0 0 1 0 false .leaf))) (O1) (N + 1) = O2) ∧ (storeCellsA (⟨O2, N + 2, G⟩) (b) (0) (80) ([.ptr (N + 1) 0 0]) = (some ⟨O3, N + 2, G⟩)) ∧ (loadCellsA (⟨O3, N + 2, G⟩) (qi) (0) (1) (1) = (some [.ptr b 0 0])) ∧ (loadCellsA (⟨O3, N + 2, G⟩) (b) (0) (80) (1) = (some [.ptr (N + 1) 0 0])) ∧ (storeCellsA (⟨O3, N + 2, G⟩) (qi) (0) (1) ([.ptr (N + 1) 0 0]) = (some ⟨O4, N + 2, G⟩)) ∧ (loadCellsA (⟨O4, N + 2, G⟩) (qi) (0) (1) (1) = (some [.ptr (N + 1) 0 0])) ∧ (loadCellsA (⟨O4, N + 2, G⟩) (N) (0) (0) (5) = (some [v0, v1, v2, v3, v4])) ∧ ((0 : Int) ≤ (IntKind.i64.wrap (fr + n)).tmod (16 : Int) ∧ (IntKind.i64.wrap (fr + n)).tmod (16 : Int) < (↑16 : Int)) ∧ (storeCellsA (⟨O4, N + 2, G⟩) (N + 1) (0) (0 + ((IntKind.i64.wrap (fr + n)).tmod (16 : Int)).toNat * 5) ([v0, v1, v2, v3, v4]) = (some ⟨O5, N + 2, G⟩)) ∧ (loadCellsA (⟨O5, N + 2, G⟩) (qi) (0) (3) (1) = (some [.int .i64 n])) ∧ (storeCellsA (⟨O5, N + 2, G⟩) (qi) (0) (3) ([.int .i64 (IntKind.i64.wrap (n + (1 : Int)))]) = (some ⟨O6, N + 2, G⟩)) ∧ Row O6 (qi) 4 (q4 (la) (.ptr (N + 1) 0 0) (.int .i64 fr) (.int .i64 (IntKind.i64.wrap (n + (1 : Int))))) ∧ Row O6 (b) 81 (upd F (80) [.ptr (N + 1) 0 0]) ∧ Row O6 (N + 1) 81 (upd zf81 (0 + ((IntKind.i64.wrap (fr + n)).tmod (16 : Int)).toNat * 5) [v0, v1, v2, v3, v4]) ∧ (∀ j, j ≠ N → j ≠ N + 1 → j ≠ b → j ≠ qi → O6.get j = O.get j) := by
  obtain ⟨O1, e1, r1, f1⟩ := Row.mk (n := 5) (f := i5 [v0, v1, v2, v3, v4]) (c := (.node (.node (.node .leaf (some v3) .leaf) (some v1) .leaf) (some v0) (.node (.node .leaf (some v4) .leaf) (some v2) .leaf))) (el := 32) O (N) (fun k hk => by rcases k with _ | _ | _ | _ | _ | k <;> first | rfl | omega)
  have r2 := hr.fr f1 (by omega)
  have r3 := hb.fr f1 (by omega)
  obtain ⟨O2, e2, r4, f2⟩ := Row.mk (n := 81) (f := zf81) (c := zt81) (el := 52) O1 (N + 1) zt81_ok
  have r5 := r2.fr f2 (by omega)
  have r6 := r3.fr f2 (by omega)
  have r7 := r1.fr f2 (by omega)
  obtain ⟨O3, e3, r8, f3⟩ := r6.store (N + 2) G (off := 80) (vs := [.ptr (N + 1) 0 0]) rfl (by first | decide | (simp only [List.length_cons, List.length_nil]; omega))
  have r9 := r5.fr f3 (by omega)
  have r10 := r7.fr f3 (by omega)
  have r11 := r4.fr f3 (by omega)
  obtain ⟨O4, e4, r12, f4⟩ := r9.store (N + 2) G (off := 1) (vs := [.ptr (N + 1) 0 0]) rfl (by first | decide | (simp only [List.length_cons, List.length_nil]; omega))
  have r13 := r12.to (g := q4 (la) (.ptr (N + 1) 0 0) (.int .i64 fr) (.int .i64 n)) upd41
  have r14 := r8.fr f4 (by omega)
  have r15 := r10.fr f4 (by omega)
  have r16 := r11.fr f4 (by omega)
  obtain ⟨O5, e5, r17, f5⟩ := r16.store (N + 2) G (off := 0 + ((IntKind.i64.wrap (fr + n)).tmod (16 : Int)).toNat * 5) (vs := [v0, v1, v2, v3, v4]) hv (by first | decide | (simp only [List.length_cons, List.length_nil]; omega))
  have r18 := r13.fr f5 (by omega)
  have r19 := r14.fr f5 (by omega)
  have r20 := r15.fr f5 (by omega)
  obtain ⟨O6, e6, r21, f6⟩ := r18.store (N + 2) G (off := 3) (vs := [.int .i64 (IntKind.i64.wrap (n + (1 : Int)))]) rfl (by first | decide | (simp only [List.length_cons, List.length_nil]; omega))
  have r22 := r21.to (g := q4 (la) (.ptr (N + 1) 0 0) (.int .i64 fr) (.int .i64 (IntKind.i64.wrap (n + (1 : Int))))) upd43
  have r23 := r19.fr f6 (by omega)
  have r24 := r20.fr f6 (by omega)
  have r25 := r17.fr f6 (by omega)
  exact ⟨O1, O2, O3, O4, O5, O6, e1, (r2.load1 (by omega)).trans (by rfl), (r2.load1 (by omega)).trans (by rfl), (r2.load1 (by omega)).trans (by rfl), by assumption, by assumption, (r2.load1 (by omega)).trans (by rfl), e2, e3, (r9.load1 (by omega)).trans (by rfl), (r8.load1 (by omega)).trans (by exact congrArg (fun x => some [x]) (upd_in (f := F) (off := 80) (vs := [.ptr (N + 1) 0 0]) (u := 0) Nat.zero_lt_one)), e4, (r13.load1 (by omega)).trans (by rfl), (r15.load5 (by omega)).trans (by rfl), by assumption, e5, (r18.load1 (by omega)).trans (by rfl), e6, r22, r23, r25, fun j h0 h1 h2 h3 => (f6 j h3).trans ((f5 j h1).trans ((f4 j h3).trans ((f3 j h2).trans ((f2 j h1).trans (f1 j h0)))))⟩
theorem heap_pc {la lb : AV} {O : T AObj} {N qi a b : Nat} {G : T (T AV)} {fr n : Int} {v0 v1 v2 v3 v4 : AV} {F : Nat → AV} (hv : [v0, v1, v2, v3, v4].all AV.one = true) (hr : Row O qi 4 (q4 la (.ptr b 0 0) (.int .i64 fr) (.int .i64 n))) (hb : Row O b 81 F) (hq : qi < N) (hbN : b < N) (hbq : b ≠ qi) (p0 : (n == (0 : Int)) = false) (p1 : ((IntKind.i64.wrap (fr + n)).tmod (16 : Int) == (0 : Int)) = false) (p2 : (0 : Int) ≤ (IntKind.i64.wrap (fr + n)).tmod (16 : Int) ∧ (IntKind.i64.wrap (fr + n)).tmod (16 : Int) < (↑16 : Int)) :
    ∃ O1 O2 O3 : T AObj, (T.set ((some (.cells (.node (.node (.node .leaf (some v3) .leaf) (some v1) .leaf) (some v0) (.node (.node .leaf (some v4) .leaf) (some v2) .leaf)) 5 32 0 0 1 0 false .leaf))) (O) (N) = O1) ∧ (loadCellsA (⟨O1, N + 1, G⟩) (qi) (0) (2) (1) = (some [.int .i64 fr])) ∧ (loadCellsA (⟨O1, N + 1, G⟩) (qi) (0) (3) (1) = (some [.int .i64 n])) ∧ (loadCellsA (⟨O1, N + 1, G⟩) (qi) (0) (3) (1) = (some [.int .i64 n])) ∧ ((n == (0 : Int)) = false) ∧ (((IntKind.i64.wrap (fr + n)).tmod (16 : Int) == (0 : Int)) = false) ∧ (loadCellsA (⟨O1, N + 1, G⟩) (qi) (0) (1) (1) = (some [.ptr b 0 0])) ∧ (loadCellsA (⟨O1, N + 1, G⟩) (N) (0) (0) (5) = (some [v0, v1, v2, v3, v4])) ∧ ((0 : Int) ≤ (IntKind.i64.wrap (fr + n)).tmod (16 : Int) ∧ (IntKind.i64.wrap (fr + n)).tmod (16 : Int) < (↑16 : Int)) ∧ (storeCellsA (⟨O1, N + 1, G⟩) (b) (0) (0 + ((IntKind.i64.wrap (fr + n)).tmod (16 : Int)).toNat * 5) ([v0, v1, v2, v3, v4]) = (some ⟨O2, N + 1, G⟩)) ∧ (loadCellsA (⟨O2, N + 1, G⟩) (qi) (0) (3) (1) = (some [.int .i64 n])) ∧ (storeCellsA (⟨O2, N + 1, G⟩) (qi) (0) (3) ([.int .i64 (IntKind.i64.wrap (n + (1 : Int)))]) = (some ⟨O3, N + 1, G⟩)) ∧ Row O3 (qi) 4 (q4 (la) (.ptr b 0 0) (.int .i64 fr) (.int .i64 (IntKind.i64.wrap (n + (1 : Int))))) ∧ Row O3 (b) 81 (upd F (0 + ((IntKind.i64.wrap (fr + n)).tmod (16 : Int)).toNat * 5) [v0, v1, v2, v3, v4]) ∧ (∀ j, j ≠ N → j ≠ b → j ≠ qi → O3.get j = O.get j) := by
  obtain ⟨O1, e1, r1, f1⟩ := Row.mk (n := 5) (f := i5 [v0, v1, v2, v3, v4]) (c := (.node (.node (.node .leaf (some v3) .leaf) (some v1) .leaf) (some v0) (.node (.node .leaf (some v4) .leaf) (some v2) .leaf))) (el := 32) O (N) (fun k hk => by rcases k with _ | _ | _ | _ | _ | k <;> first | rfl | omega)
  have r2 := hr.fr f1 (by omega)
  have r3 := hb.fr f1 (by omega)
  obtain ⟨O2, e2, r4, f2⟩ := r3.store (N + 1) G (off := 0 + ((IntKind.i64.wrap (fr + n)).tmod (16 : Int)).toNat * 5) (vs := [v0, v1, v2, v3, v4]) hv (by first | decide | (simp only [List.length_cons, List.length_nil]; omega))
  have r5 := r2.fr f2 (by omega)
  have r6 := r1.fr f2 (by omega)
  obtain ⟨O3, e3, r7, f3⟩ := r5.store (N + 1) G (off := 3) (vs := [.int .i64 (IntKind.i64.wrap (n + (1 : Int)))]) rfl (by first | decide | (simp only [List.length_cons, List.length_nil]; omega))
  have r8 := r7.to (g := q4 (la) (.ptr b 0 0) (.int .i64 fr) (.int .i64 (IntKind.i64.wrap (n + (1 : Int))))) upd43
  have r9 := r4.fr f3 (by omega)
  have r10 := r6.fr f3 (by omega)
  exact ⟨O1, O2, O3, e1, (r2.load1 (by omega)).trans (by rfl), (r2.load1 (by omega)).trans (by rfl), (r2.load1 (by omega)).trans (by rfl), by assumption, by assumption, (r2.load1 (by omega)).trans (by rfl), (r1.load5 (by omega)).trans (by rfl), by assumption, e2, (r5.load1 (by omega)).trans (by rfl), e3, r8, r9, fun j h0 h1 h2 => (f3 j h2).trans ((f2 j h1).trans (f1 j h0))⟩
end Go.Proofs.Ytijkclfajopjkaa.qo
