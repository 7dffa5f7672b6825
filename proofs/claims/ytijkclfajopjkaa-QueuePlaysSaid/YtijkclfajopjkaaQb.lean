/- Queue's rows: what Take does to the heap. -/
import Derived.Test.YtijkclfajopjkaaQa
set_option maxRecDepth 100000
set_option linter.unusedVariables false
namespace Go.Proofs.Ytijkclfajopjkaa.qo
open Go Ev

def zits : List AV := [.int .i64 0, .str [], .int .u64 0, .str [], .bool false]

theorem slc_blk (h : AHeap) {b : Nat} {fr : Int} (p : (0 : Int) ≤ fr ∧ fr < ((16 : Nat) : Int)) : sliceH P h 50 (.ptr b 0 0) (some fr) (some (IntKind.i64.wrap (fr + (1 : Int)))) none = some (.slc b 0 (0 + fr.toNat * 5) 1 (16 - fr.toNat)) := by
  have w : IntKind.i64.wrap (fr + 1) = fr + 1 := by rw [IntKind.wrap_i64]; omega
  rw [w]
  have e : sliceH P h 50 (.ptr b 0 0) (some fr) (some (fr + 1)) none = (match slcOf b 0 0 5 (boundsA 16 16 (some fr) (some (fr + 1)) none) with | some v => some v | none => sliceX P h 50 (.ptr b 0 0) (some fr) (some (fr + 1)) none) := by kernel_rfl
  rw [e]
  have e2 : boundsA 16 16 (some fr) (some (fr + 1)) none = some (fr.toNat, fr.toNat + 1, 16) := by
    have q1 : (0 : Int) ≤ fr + 1 ∧ (fr + 1).toNat ≤ 16 := by omega
    have q2 : (0 : Int) ≤ fr ∧ fr.toNat ≤ (fr + 1).toNat := by omega
    have q3 : (fr + 1).toNat = fr.toNat + 1 := by omega
    have g1 : boundA (fr + 1) 16 = some (fr.toNat + 1) := by
      unfold boundA
      rw [if_pos (by omega), q3]
    have g2 : boundA fr (fr.toNat + 1) = some fr.toNat := by
      unfold boundA
      rw [if_pos (by omega)]
    show (match boundA (fr + 1) 16 with | none => none | some h => match boundA fr h with | none => none | some l => some (l, h, 16)) = _
    rw [g1]
    show (match boundA fr (fr.toNat + 1) with | none => none | some l => some (l, fr.toNat + 1, 16)) = _
    rw [g2]
  rw [e2]
  show some (AV.slc b 0 (if 16 = fr.toNat then 0 else 0 + fr.toNat * 5) (fr.toNat + 1 - fr.toNat) (16 - fr.toNat)) = _
  rw [if_neg (by omega), Nat.add_sub_cancel_left]

theorem clear_blk {O : T AObj} {N b : Nat} {G : T (T AV)} {F : Nat → AV} (hb : Row O b 81 F) {fr : Int} (p : (0 : Int) ≤ fr ∧ fr < ((16 : Nat) : Int)) :
    ∃ O', builtinE P ⟨O, N, G⟩ Builtin.clear (some 55) none [.slc b 0 (0 + fr.toNat * 5) 1 (16 - fr.toNat)] = some (.val (.tup []) ⟨O', N, G⟩) ∧ Row O' b 81 (upd F (0 + fr.toNat * 5) zits) ∧ Frm O O' b := by
  obtain ⟨O', e, r, f⟩ := hb.store N G (off := 0 + fr.toNat * 5) (vs := zits) rfl (by simp only [zits, List.length_cons, List.length_nil]; omega)
  refine ⟨O', ?_, r, f⟩
  have h : builtinE P ⟨O, N, G⟩ Builtin.clear (some 55) none [.slc b 0 (0 + fr.toNat * 5) 1 (16 - fr.toNat)] = unitH (storeCellsA ⟨O, N, G⟩ b 0 (0 + fr.toNat * 5) zits) := by kernel_rfl
  rw [h, e]
  rfl

theorem heap_te {la lb : AV} {O : T AObj} {N qi : Nat} {G : T (T AV)} {fr n : Int} (hr : Row O qi 4 (q4 la lb (.int .i64 fr) (.int .i64 n))) (hq : qi < N) (p0 : (n == (0 : Int)) = true) :
    ∃ O1 O2 : T AObj, (T.set ((some (.cells (.node (.node (.node .leaf (some (.str [])) .leaf) (some (.str [])) .leaf) (some (.int .i64 0)) (.node (.node .leaf (some (.bool false)) .leaf) (some (.int .u64 0)) .leaf)) 5 32 0 0 1 0 false .leaf))) (O) (N) = O1) ∧ (loadCellsA (⟨O1, N + 1, G⟩) (qi) (0) (3) (1) = (some [.int .i64 n])) ∧ ((n == (0 : Int)) = true) ∧ (storeCellsA (⟨O1, N + 1, G⟩) (N) (0) (0) ([.int .i64 0, .str [], .int .u64 0, .str [], .bool false]) = (some ⟨O2, N + 1, G⟩)) ∧ (loadCellsA { objs := O2, next := N + 1, glob := G } N (0) (0) (5) = some [.int .i64 0, .str [], .int .u64 0, .str [], .bool false] ∧ True) ∧ Row O2 (qi) 4 (q4 (la) (lb) (.int .i64 fr) (.int .i64 n)) ∧ (∀ j, j ≠ N → O2.get j = O.get j) := by
  obtain ⟨O1, e1, r1, f1⟩ := Row.mk (n := 5) (f := i5 [.int .i64 0, .str [], .int .u64 0, .str [], .bool false]) (c := (.node (.node (.node .leaf (some (.str [])) .leaf) (some (.str [])) .leaf) (some (.int .i64 0)) (.node (.node .leaf (some (.bool false)) .leaf) (some (.int .u64 0)) .leaf))) (el := 32) O (N) (fun k hk => by rcases k with _ | _ | _ | _ | _ | k <;> first | rfl | omega)
  have r2 := hr.fr f1 (by omega)
  obtain ⟨O2, e2, r3, f2⟩ := r1.store (N + 1) G (off := 0) (vs := [.int .i64 0, .str [], .int .u64 0, .str [], .bool false]) rfl (by first | decide | (simp only [List.length_cons, List.length_nil]; omega))
  have r4 := r3.to (g := i5 [.int .i64 0, .str [], .int .u64 0, .str [], .bool false]) (upd_i5 (vs := [.int .i64 0, .str [], .int .u64 0, .str [], .bool false]))
  have r5 := r2.fr f2 (by omega)
  exact ⟨O1, O2, e1, (r2.load1 (by omega)).trans (by rfl), by assumption, e2, ⟨(r4.load5 (by omega)).trans (by rfl), trivial⟩, r5, fun j h0 => (f2 j h0).trans (f1 j h0)⟩
theorem heap_ta {la lb : AV} {O : T AObj} {N qi b c : Nat} {G : T (T AV)} {fr n : Int} {v0 v1 v2 v3 v4 : AV} {F : Nat → AV} (hv : [v0, v1, v2, v3, v4].all AV.one = true) (hr : Row O qi 4 (q4 (.ptr b 0 0) lb (.int .i64 fr) (.int .i64 n))) (hb : Row O b 81 F) (hq : qi < N) (hbN : b < N) (hbq : b ≠ qi) (h5 : [F (0 + fr.toNat * 5), F (0 + fr.toNat * 5 + 1), F (0 + fr.toNat * 5 + 2), F (0 + fr.toNat * 5 + 3), F (0 + fr.toNat * 5 + 4)] = [v0, v1, v2, v3, v4]) (p0 : (n == (0 : Int)) = false) (p1 : (0 : Int) ≤ fr ∧ fr < (↑16 : Int)) (p2 : (IntKind.i64.wrap (n - (1 : Int)) == (0 : Int)) = true) :
    ∃ O1 O2 O3 O4 O5 O6 O7 O8 O9 O10 O11 O12 O13 : T AObj, (T.set ((some (.cells (.node (.node (.node .leaf (some (.str [])) .leaf) (some (.str [])) .leaf) (some (.int .i64 0)) (.node (.node .leaf (some (.bool false)) .leaf) (some (.int .u64 0)) .leaf)) 5 32 0 0 1 0 false .leaf))) (O) (N) = O1) ∧ (loadCellsA (⟨O1, N + 1, G⟩) (qi) (0) (3) (1) = (some [.int .i64 n])) ∧ ((n == (0 : Int)) = false) ∧ (loadCellsA (⟨O1, N + 1, G⟩) (qi) (0) (0) (1) = (some [.ptr b 0 0])) ∧ (loadCellsA (⟨O1, N + 1, G⟩) (qi) (0) (2) (1) = (some [.int .i64 fr])) ∧ (T.set ((some (.cells (.node (.node (.node .leaf (some (.str [])) .leaf) (some (.str [])) .leaf) (some (.int .i64 0)) (.node (.node .leaf (some (.bool false)) .leaf) (some (.int .u64 0)) .leaf)) 5 32 0 0 1 0 false .leaf))) (O1) (N + 1) = O2) ∧ (loadCellsA (⟨O2, N + 2, G⟩) (qi) (0) (2) (1) = (some [.int .i64 fr])) ∧ (loadCellsA (⟨O2, N + 2, G⟩) (qi) (0) (0) (1) = (some [.ptr b 0 0])) ∧ (T.set ((some (.cells (.node (.node (.node .leaf (some (.str [])) .leaf) (some (.str [])) .leaf) (some (.int .i64 0)) (.node (.node .leaf (some (.bool false)) .leaf) (some (.int .u64 0)) .leaf)) 5 32 0 0 1 0 false .leaf))) (O2) (N + 2) = O3) ∧ ((0 : Int) ≤ fr ∧ fr < (↑16 : Int)) ∧ (loadCellsA (⟨O3, N + 3, G⟩) (b) (0) (0 + fr.toNat * 5) (5) = (some [v0, v1, v2, v3, v4])) ∧ (T.set ((some (.cells (.node (.node (.node .leaf (some (.str [])) .leaf) (some (.str [])) .leaf) (some (.int .i64 0)) (.node (.node .leaf (some (.bool false)) .leaf) (some (.int .u64 0)) .leaf)) 5 32 0 0 1 0 false .leaf))) (O3) (N + 3) = O4) ∧ (storeCellsA (⟨O4, N + 4, G⟩) (N + 3) (0) (0) ([v0, v1, v2, v3, v4]) = (some ⟨O5, N + 4, G⟩)) ∧ (sliceH P (⟨O5, N + 4, G⟩) (50) (.ptr b 0 0) ((some fr)) ((some (IntKind.i64.wrap (fr + (1 : Int))))) (none) = (some (.slc b 0 (0 + fr.toNat * 5) 1 (16 - fr.toNat)))) ∧ (builtinE P (⟨O5, N + 4, G⟩) (Builtin.clear) ((some 55)) (none) ([.slc b 0 (0 + fr.toNat * 5) 1 (16 - fr.toNat)]) = (some (.val (.tup []) ⟨O6, N + 4, G⟩))) ∧ (loadCellsA (⟨O6, N + 4, G⟩) (N + 3) (0) (0) (5) = (some [v0, v1, v2, v3, v4])) ∧ (storeCellsA (⟨O6, N + 4, G⟩) (N + 2) (0) (0) ([v0, v1, v2, v3, v4]) = (some ⟨O7, N + 4, G⟩)) ∧ (loadCellsA { objs := O7, next := N + 4, glob := G } (N + 2) (0) (0) (5) = some [v0, v1, v2, v3, v4] ∧ True) ∧ (storeCellsA (⟨O7, N + 4, G⟩) (N + 1) (0) (0) ([v0, v1, v2, v3, v4]) = (some ⟨O8, N + 4, G⟩)) ∧ (loadCellsA (⟨O8, N + 4, G⟩) (qi) (0) (2) (1) = (some [.int .i64 fr])) ∧ (storeCellsA (⟨O8, N + 4, G⟩) (qi) (0) (2) ([.int .i64 (IntKind.i64.wrap (fr + (1 : Int)))]) = (some ⟨O9, N + 4, G⟩)) ∧ (loadCellsA (⟨O9, N + 4, G⟩) (qi) (0) (3) (1) = (some [.int .i64 n])) ∧ (storeCellsA (⟨O9, N + 4, G⟩) (qi) (0) (3) ([.int .i64 (IntKind.i64.wrap (n - (1 : Int)))]) = (some ⟨O10, N + 4, G⟩)) ∧ (loadCellsA (⟨O10, N + 4, G⟩) (qi) (0) (3) (1) = (some [.int .i64 (IntKind.i64.wrap (n - (1 : Int)))])) ∧ ((IntKind.i64.wrap (n - (1 : Int)) == (0 : Int)) = true) ∧ (storeCellsA (⟨O10, N + 4, G⟩) (qi) (0) (0) ([.nilp]) = (some ⟨O11, N + 4, G⟩)) ∧ (storeCellsA (⟨O11, N + 4, G⟩) (qi) (0) (1) ([.nilp]) = (some ⟨O12, N + 4, G⟩)) ∧ (loadCellsA (⟨O12, N + 4, G⟩) (N + 1) (0) (0) (5) = (some [v0, v1, v2, v3, v4])) ∧ (storeCellsA (⟨O12, N + 4, G⟩) (N) (0) (0) ([v0, v1, v2, v3, v4]) = (some ⟨O13, N + 4, G⟩)) ∧ (loadCellsA { objs := O13, next := N + 4, glob := G } N (0) (0) (5) = some [v0, v1, v2, v3, v4] ∧ True) ∧ Row O13 (qi) 4 (q4 (.nilp) (.nilp) (.int .i64 (IntKind.i64.wrap (fr + (1 : Int)))) (.int .i64 (IntKind.i64.wrap (n - (1 : Int))))) ∧ Row O13 (b) 81 (upd F (0 + fr.toNat * 5) zits) ∧ (∀ j, j ≠ N → j ≠ N + 1 → j ≠ N + 2 → j ≠ N + 3 → j ≠ b → j ≠ qi → O13.get j = O.get j) := by
  obtain ⟨O1, e1, r1, f1⟩ := Row.mk (n := 5) (f := i5 [.int .i64 0, .str [], .int .u64 0, .str [], .bool false]) (c := (.node (.node (.node .leaf (some (.str [])) .leaf) (some (.str [])) .leaf) (some (.int .i64 0)) (.node (.node .leaf (some (.bool false)) .leaf) (some (.int .u64 0)) .leaf))) (el := 32) O (N) (fun k hk => by rcases k with _ | _ | _ | _ | _ | k <;> first | rfl | omega)
  have r2 := hr.fr f1 (by omega)
  have r3 := hb.fr f1 (by omega)
  obtain ⟨O2, e2, r4, f2⟩ := Row.mk (n := 5) (f := i5 [.int .i64 0, .str [], .int .u64 0, .str [], .bool false]) (c := (.node (.node (.node .leaf (some (.str [])) .leaf) (some (.str [])) .leaf) (some (.int .i64 0)) (.node (.node .leaf (some (.bool false)) .leaf) (some (.int .u64 0)) .leaf))) (el := 32) O1 (N + 1) (fun k hk => by rcases k with _ | _ | _ | _ | _ | k <;> first | rfl | omega)
  have r5 := r2.fr f2 (by omega)
  have r6 := r3.fr f2 (by omega)
  have r7 := r1.fr f2 (by omega)
  obtain ⟨O3, e3, r8, f3⟩ := Row.mk (n := 5) (f := i5 [.int .i64 0, .str [], .int .u64 0, .str [], .bool false]) (c := (.node (.node (.node .leaf (some (.str [])) .leaf) (some (.str [])) .leaf) (some (.int .i64 0)) (.node (.node .leaf (some (.bool false)) .leaf) (some (.int .u64 0)) .leaf))) (el := 32) O2 (N + 2) (fun k hk => by rcases k with _ | _ | _ | _ | _ | k <;> first | rfl | omega)
  have r9 := r5.fr f3 (by omega)
  have r10 := r6.fr f3 (by omega)
  have r11 := r7.fr f3 (by omega)
  have r12 := r4.fr f3 (by omega)
  obtain ⟨O4, e4, r13, f4⟩ := Row.mk (n := 5) (f := i5 [.int .i64 0, .str [], .int .u64 0, .str [], .bool false]) (c := (.node (.node (.node .leaf (some (.str [])) .leaf) (some (.str [])) .leaf) (some (.int .i64 0)) (.node (.node .leaf (some (.bool false)) .leaf) (some (.int .u64 0)) .leaf))) (el := 32) O3 (N + 3) (fun k hk => by rcases k with _ | _ | _ | _ | _ | k <;> first | rfl | omega)
  have r14 := r9.fr f4 (by omega)
  have r15 := r10.fr f4 (by omega)
  have r16 := r11.fr f4 (by omega)
  have r17 := r12.fr f4 (by omega)
  have r18 := r8.fr f4 (by omega)
  obtain ⟨O5, e5, r19, f5⟩ := r13.store (N + 4) G (off := 0) (vs := [v0, v1, v2, v3, v4]) hv (by first | decide | (simp only [List.length_cons, List.length_nil]; omega))
  have r20 := r19.to (g := i5 [v0, v1, v2, v3, v4]) (upd_i5 (vs := [v0, v1, v2, v3, v4]))
  have r21 := r14.fr f5 (by omega)
  have r22 := r15.fr f5 (by omega)
  have r23 := r16.fr f5 (by omega)
  have r24 := r17.fr f5 (by omega)
  have r25 := r18.fr f5 (by omega)
  obtain ⟨O6, e6, r26, f6⟩ := clear_blk (G := G) (N := N + 4) r22 p1
  have r27 := r21.fr f6 (by omega)
  have r28 := r23.fr f6 (by omega)
  have r29 := r24.fr f6 (by omega)
  have r30 := r25.fr f6 (by omega)
  have r31 := r20.fr f6 (by omega)
  obtain ⟨O7, e7, r32, f7⟩ := r30.store (N + 4) G (off := 0) (vs := [v0, v1, v2, v3, v4]) hv (by first | decide | (simp only [List.length_cons, List.length_nil]; omega))
  have r33 := r32.to (g := i5 [v0, v1, v2, v3, v4]) (upd_i5 (vs := [v0, v1, v2, v3, v4]))
  have r34 := r27.fr f7 (by omega)
  have r35 := r26.fr f7 (by omega)
  have r36 := r28.fr f7 (by omega)
  have r37 := r29.fr f7 (by omega)
  have r38 := r31.fr f7 (by omega)
  obtain ⟨O8, e8, r39, f8⟩ := r37.store (N + 4) G (off := 0) (vs := [v0, v1, v2, v3, v4]) hv (by first | decide | (simp only [List.length_cons, List.length_nil]; omega))
  have r40 := r39.to (g := i5 [v0, v1, v2, v3, v4]) (upd_i5 (vs := [v0, v1, v2, v3, v4]))
  have r41 := r34.fr f8 (by omega)
  have r42 := r35.fr f8 (by omega)
  have r43 := r36.fr f8 (by omega)
  have r44 := r33.fr f8 (by omega)
  have r45 := r38.fr f8 (by omega)
  obtain ⟨O9, e9, r46, f9⟩ := r41.store (N + 4) G (off := 2) (vs := [.int .i64 (IntKind.i64.wrap (fr + (1 : Int)))]) rfl (by first | decide | (simp only [List.length_cons, List.length_nil]; omega))
  have r47 := r46.to (g := q4 (.ptr b 0 0) (lb) (.int .i64 (IntKind.i64.wrap (fr + (1 : Int)))) (.int .i64 n)) upd42
  have r48 := r42.fr f9 (by omega)
  have r49 := r43.fr f9 (by omega)
  have r50 := r40.fr f9 (by omega)
  have r51 := r44.fr f9 (by omega)
  have r52 := r45.fr f9 (by omega)
  obtain ⟨O10, e10, r53, f10⟩ := r47.store (N + 4) G (off := 3) (vs := [.int .i64 (IntKind.i64.wrap (n - (1 : Int)))]) rfl (by first | decide | (simp only [List.length_cons, List.length_nil]; omega))
  have r54 := r53.to (g := q4 (.ptr b 0 0) (lb) (.int .i64 (IntKind.i64.wrap (fr + (1 : Int)))) (.int .i64 (IntKind.i64.wrap (n - (1 : Int))))) upd43
  have r55 := r48.fr f10 (by omega)
  have r56 := r49.fr f10 (by omega)
  have r57 := r50.fr f10 (by omega)
  have r58 := r51.fr f10 (by omega)
  have r59 := r52.fr f10 (by omega)
  obtain ⟨O11, e11, r60, f11⟩ := r54.store (N + 4) G (off := 0) (vs := [.nilp]) rfl (by first | decide | (simp only [List.length_cons, List.length_nil]; omega))
  have r61 := r60.to (g := q4 (.nilp) (lb) (.int .i64 (IntKind.i64.wrap (fr + (1 : Int)))) (.int .i64 (IntKind.i64.wrap (n - (1 : Int))))) upd40
  have r62 := r55.fr f11 (by omega)
  have r63 := r56.fr f11 (by omega)
  have r64 := r57.fr f11 (by omega)
  have r65 := r58.fr f11 (by omega)
  have r66 := r59.fr f11 (by omega)
  obtain ⟨O12, e12, r67, f12⟩ := r61.store (N + 4) G (off := 1) (vs := [.nilp]) rfl (by first | decide | (simp only [List.length_cons, List.length_nil]; omega))
  have r68 := r67.to (g := q4 (.nilp) (.nilp) (.int .i64 (IntKind.i64.wrap (fr + (1 : Int)))) (.int .i64 (IntKind.i64.wrap (n - (1 : Int))))) upd41
  have r69 := r62.fr f12 (by omega)
  have r70 := r63.fr f12 (by omega)
  have r71 := r64.fr f12 (by omega)
  have r72 := r65.fr f12 (by omega)
  have r73 := r66.fr f12 (by omega)
  obtain ⟨O13, e13, r74, f13⟩ := r70.store (N + 4) G (off := 0) (vs := [v0, v1, v2, v3, v4]) hv (by first | decide | (simp only [List.length_cons, List.length_nil]; omega))
  have r75 := r74.to (g := i5 [v0, v1, v2, v3, v4]) (upd_i5 (vs := [v0, v1, v2, v3, v4]))
  have r76 := r68.fr f13 (by omega)
  have r77 := r69.fr f13 (by omega)
  have r78 := r71.fr f13 (by omega)
  have r79 := r72.fr f13 (by omega)
  have r80 := r73.fr f13 (by omega)
  exact ⟨O1, O2, O3, O4, O5, O6, O7, O8, O9, O10, O11, O12, O13, e1, (r2.load1 (by omega)).trans (by rfl), by assumption, (r2.load1 (by omega)).trans (by rfl), (r2.load1 (by omega)).trans (by rfl), e2, (r5.load1 (by omega)).trans (by rfl), (r5.load1 (by omega)).trans (by rfl), e3, by assumption, (r10.load5 (by omega)).trans (by rw [h5]), e4, e5, slc_blk _ p1, e6, (r31.load5 (by omega)).trans (by rfl), e7, ⟨(r33.load5 (by omega)).trans (by rfl), trivial⟩, e8, (r41.load1 (by omega)).trans (by rfl), e9, (r47.load1 (by omega)).trans (by rfl), e10, (r54.load1 (by omega)).trans (by rfl), by assumption, e11, e12, (r71.load5 (by omega)).trans (by rfl), e13, ⟨(r75.load5 (by omega)).trans (by rfl), trivial⟩, r76, r77, fun j h0 h1 h2 h3 h4 h5 => (f13 j h0).trans ((f12 j h5).trans ((f11 j h5).trans ((f10 j h5).trans ((f9 j h5).trans ((f8 j h1).trans ((f7 j h2).trans ((f6 j h4).trans ((f5 j h3).trans ((f4 j h3).trans ((f3 j h2).trans ((f2 j h1).trans (f1 j h0))))))))))))⟩
theorem heap_tb {la lb : AV} {O : T AObj} {N qi b c : Nat} {G : T (T AV)} {fr n : Int} {v0 v1 v2 v3 v4 : AV} {F : Nat → AV} (hv : [v0, v1, v2, v3, v4].all AV.one = true) (hr : Row O qi 4 (q4 (.ptr b 0 0) lb (.int .i64 fr) (.int .i64 n))) (hb : Row O b 81 F) (hq : qi < N) (hbN : b < N) (hbq : b ≠ qi) (h5 : [F (0 + fr.toNat * 5), F (0 + fr.toNat * 5 + 1), F (0 + fr.toNat * 5 + 2), F (0 + fr.toNat * 5 + 3), F (0 + fr.toNat * 5 + 4)] = [v0, v1, v2, v3, v4]) (p0 : (n == (0 : Int)) = false) (p1 : (0 : Int) ≤ fr ∧ fr < (↑16 : Int)) (p2 : (IntKind.i64.wrap (n - (1 : Int)) == (0 : Int)) = false) (p3 : (IntKind.i64.wrap (fr + (1 : Int)) == (16 : Int)) = true) (h80 : F 80 = .ptr c 0 0) :
    ∃ O1 O2 O3 O4 O5 O6 O7 O8 O9 O10 O11 O12 O13 : T AObj, (T.set ((some (.cells (.node (.node (.node .leaf (some (.str [])) .leaf) (some (.str [])) .leaf) (some (.int .i64 0)) (.node (.node .leaf (some (.bool false)) .leaf) (some (.int .u64 0)) .leaf)) 5 32 0 0 1 0 false .leaf))) (O) (N) = O1) ∧ (loadCellsA (⟨O1, N + 1, G⟩) (qi) (0) (3) (1) = (some [.int .i64 n])) ∧ ((n == (0 : Int)) = false) ∧ (loadCellsA (⟨O1, N + 1, G⟩) (qi) (0) (0) (1) = (some [.ptr b 0 0])) ∧ (loadCellsA (⟨O1, N + 1, G⟩) (qi) (0) (2) (1) = (some [.int .i64 fr])) ∧ (T.set ((some (.cells (.node (.node (.node .leaf (some (.str [])) .leaf) (some (.str [])) .leaf) (some (.int .i64 0)) (.node (.node .leaf (some (.bool false)) .leaf) (some (.int .u64 0)) .leaf)) 5 32 0 0 1 0 false .leaf))) (O1) (N + 1) = O2) ∧ (loadCellsA (⟨O2, N + 2, G⟩) (qi) (0) (2) (1) = (some [.int .i64 fr])) ∧ (loadCellsA (⟨O2, N + 2, G⟩) (qi) (0) (0) (1) = (some [.ptr b 0 0])) ∧ (T.set ((some (.cells (.node (.node (.node .leaf (some (.str [])) .leaf) (some (.str [])) .leaf) (some (.int .i64 0)) (.node (.node .leaf (some (.bool false)) .leaf) (some (.int .u64 0)) .leaf)) 5 32 0 0 1 0 false .leaf))) (O2) (N + 2) = O3) ∧ ((0 : Int) ≤ fr ∧ fr < (↑16 : Int)) ∧ (loadCellsA (⟨O3, N + 3, G⟩) (b) (0) (0 + fr.toNat * 5) (5) = (some [v0, v1, v2, v3, v4])) ∧ (T.set ((some (.cells (.node (.node (.node .leaf (some (.str [])) .leaf) (some (.str [])) .leaf) (some (.int .i64 0)) (.node (.node .leaf (some (.bool false)) .leaf) (some (.int .u64 0)) .leaf)) 5 32 0 0 1 0 false .leaf))) (O3) (N + 3) = O4) ∧ (storeCellsA (⟨O4, N + 4, G⟩) (N + 3) (0) (0) ([v0, v1, v2, v3, v4]) = (some ⟨O5, N + 4, G⟩)) ∧ (sliceH P (⟨O5, N + 4, G⟩) (50) (.ptr b 0 0) ((some fr)) ((some (IntKind.i64.wrap (fr + (1 : Int))))) (none) = (some (.slc b 0 (0 + fr.toNat * 5) 1 (16 - fr.toNat)))) ∧ (builtinE P (⟨O5, N + 4, G⟩) (Builtin.clear) ((some 55)) (none) ([.slc b 0 (0 + fr.toNat * 5) 1 (16 - fr.toNat)]) = (some (.val (.tup []) ⟨O6, N + 4, G⟩))) ∧ (loadCellsA (⟨O6, N + 4, G⟩) (N + 3) (0) (0) (5) = (some [v0, v1, v2, v3, v4])) ∧ (storeCellsA (⟨O6, N + 4, G⟩) (N + 2) (0) (0) ([v0, v1, v2, v3, v4]) = (some ⟨O7, N + 4, G⟩)) ∧ (loadCellsA { objs := O7, next := N + 4, glob := G } (N + 2) (0) (0) (5) = some [v0, v1, v2, v3, v4] ∧ True) ∧ (storeCellsA (⟨O7, N + 4, G⟩) (N + 1) (0) (0) ([v0, v1, v2, v3, v4]) = (some ⟨O8, N + 4, G⟩)) ∧ (loadCellsA (⟨O8, N + 4, G⟩) (qi) (0) (2) (1) = (some [.int .i64 fr])) ∧ (storeCellsA (⟨O8, N + 4, G⟩) (qi) (0) (2) ([.int .i64 (IntKind.i64.wrap (fr + (1 : Int)))]) = (some ⟨O9, N + 4, G⟩)) ∧ (loadCellsA (⟨O9, N + 4, G⟩) (qi) (0) (3) (1) = (some [.int .i64 n])) ∧ (storeCellsA (⟨O9, N + 4, G⟩) (qi) (0) (3) ([.int .i64 (IntKind.i64.wrap (n - (1 : Int)))]) = (some ⟨O10, N + 4, G⟩)) ∧ (loadCellsA (⟨O10, N + 4, G⟩) (qi) (0) (3) (1) = (some [.int .i64 (IntKind.i64.wrap (n - (1 : Int)))])) ∧ ((IntKind.i64.wrap (n - (1 : Int)) == (0 : Int)) = false) ∧ (loadCellsA (⟨O10, N + 4, G⟩) (qi) (0) (2) (1) = (some [.int .i64 (IntKind.i64.wrap (fr + (1 : Int)))])) ∧ ((IntKind.i64.wrap (fr + (1 : Int)) == (16 : Int)) = true) ∧ (loadCellsA (⟨O10, N + 4, G⟩) (qi) (0) (0) (1) = (some [.ptr b 0 0])) ∧ (loadCellsA (⟨O10, N + 4, G⟩) (b) (0) (80) (1) = (some [.ptr c 0 0])) ∧ (storeCellsA (⟨O10, N + 4, G⟩) (qi) (0) (0) ([.ptr c 0 0]) = (some ⟨O11, N + 4, G⟩)) ∧ (storeCellsA (⟨O11, N + 4, G⟩) (qi) (0) (2) ([.int .i64 0]) = (some ⟨O12, N + 4, G⟩)) ∧ (loadCellsA (⟨O12, N + 4, G⟩) (N + 1) (0) (0) (5) = (some [v0, v1, v2, v3, v4])) ∧ (storeCellsA (⟨O12, N + 4, G⟩) (N) (0) (0) ([v0, v1, v2, v3, v4]) = (some ⟨O13, N + 4, G⟩)) ∧ (loadCellsA { objs := O13, next := N + 4, glob := G } N (0) (0) (5) = some [v0, v1, v2, v3, v4] ∧ True) ∧ Row O13 (qi) 4 (q4 (.ptr c 0 0) (lb) (.int .i64 0) (.int .i64 (IntKind.i64.wrap (n - (1 : Int))))) ∧ Row O13 (b) 81 (upd F (0 + fr.toNat * 5) zits) ∧ (∀ j, j ≠ N → j ≠ N + 1 → j ≠ N + 2 → j ≠ N + 3 → j ≠ b → j ≠ qi → O13.get j = O.get j) := by
  obtain ⟨O1, e1, r1, f1⟩ := Row.mk (n := 5) (f := i5 [.int .i64 0, .str [], .int .u64 0, .str [], .bool false]) (c := (.node (.node (.node .leaf (some (.str [])) .leaf) (some (.str [])) .leaf) (some (.int .i64 0)) (.node (.node .leaf (some (.bool false)) .leaf) (some (.int .u64 0)) .leaf))) (el := 32) O (N) (fun k hk => by rcases k with _ | _ | _ | _ | _ | k <;> first | rfl | omega)
  have r2 := hr.fr f1 (by omega)
  have r3 := hb.fr f1 (by omega)
  obtain ⟨O2, e2, r4, f2⟩ := Row.mk (n := 5) (f := i5 [.int .i64 0, .str [], .int .u64 0, .str [], .bool false]) (c := (.node (.node (.node .leaf (some (.str [])) .leaf) (some (.str [])) .leaf) (some (.int .i64 0)) (.node (.node .leaf (some (.bool false)) .leaf) (some (.int .u64 0)) .leaf))) (el := 32) O1 (N + 1) (fun k hk => by rcases k with _ | _ | _ | _ | _ | k <;> first | rfl | omega)
  have r5 := r2.fr f2 (by omega)
  have r6 := r3.fr f2 (by omega)
  have r7 := r1.fr f2 (by omega)
  obtain ⟨O3, e3, r8, f3⟩ := Row.mk (n := 5) (f := i5 [.int .i64 0, .str [], .int .u64 0, .str [], .bool false]) (c := (.node (.node (.node .leaf (some (.str [])) .leaf) (some (.str [])) .leaf) (some (.int .i64 0)) (.node (.node .leaf (some (.bool false)) .leaf) (some (.int .u64 0)) .leaf))) (el := 32) O2 (N + 2) (fun k hk => by rcases k with _ | _ | _ | _ | _ | k <;> first | rfl | omega)
  have r9 := r5.fr f3 (by omega)
  have r10 := r6.fr f3 (by omega)
  have r11 := r7.fr f3 (by omega)
  have r12 := r4.fr f3 (by omega)
  obtain ⟨O4, e4, r13, f4⟩ := Row.mk (n := 5) (f := i5 [.int .i64 0, .str [], .int .u64 0, .str [], .bool false]) (c := (.node (.node (.node .leaf (some (.str [])) .leaf) (some (.str [])) .leaf) (some (.int .i64 0)) (.node (.node .leaf (some (.bool false)) .leaf) (some (.int .u64 0)) .leaf))) (el := 32) O3 (N + 3) (fun k hk => by rcases k with _ | _ | _ | _ | _ | k <;> first | rfl | omega)
  have r14 := r9.fr f4 (by omega)
  have r15 := r10.fr f4 (by omega)
  have r16 := r11.fr f4 (by omega)
  have r17 := r12.fr f4 (by omega)
  have r18 := r8.fr f4 (by omega)
  obtain ⟨O5, e5, r19, f5⟩ := r13.store (N + 4) G (off := 0) (vs := [v0, v1, v2, v3, v4]) hv (by first | decide | (simp only [List.length_cons, List.length_nil]; omega))
  have r20 := r19.to (g := i5 [v0, v1, v2, v3, v4]) (upd_i5 (vs := [v0, v1, v2, v3, v4]))
  have r21 := r14.fr f5 (by omega)
  have r22 := r15.fr f5 (by omega)
  have r23 := r16.fr f5 (by omega)
  have r24 := r17.fr f5 (by omega)
  have r25 := r18.fr f5 (by omega)
  obtain ⟨O6, e6, r26, f6⟩ := clear_blk (G := G) (N := N + 4) r22 p1
  have r27 := r21.fr f6 (by omega)
  have r28 := r23.fr f6 (by omega)
  have r29 := r24.fr f6 (by omega)
  have r30 := r25.fr f6 (by omega)
  have r31 := r20.fr f6 (by omega)
  obtain ⟨O7, e7, r32, f7⟩ := r30.store (N + 4) G (off := 0) (vs := [v0, v1, v2, v3, v4]) hv (by first | decide | (simp only [List.length_cons, List.length_nil]; omega))
  have r33 := r32.to (g := i5 [v0, v1, v2, v3, v4]) (upd_i5 (vs := [v0, v1, v2, v3, v4]))
  have r34 := r27.fr f7 (by omega)
  have r35 := r26.fr f7 (by omega)
  have r36 := r28.fr f7 (by omega)
  have r37 := r29.fr f7 (by omega)
  have r38 := r31.fr f7 (by omega)
  obtain ⟨O8, e8, r39, f8⟩ := r37.store (N + 4) G (off := 0) (vs := [v0, v1, v2, v3, v4]) hv (by first | decide | (simp only [List.length_cons, List.length_nil]; omega))
  have r40 := r39.to (g := i5 [v0, v1, v2, v3, v4]) (upd_i5 (vs := [v0, v1, v2, v3, v4]))
  have r41 := r34.fr f8 (by omega)
  have r42 := r35.fr f8 (by omega)
  have r43 := r36.fr f8 (by omega)
  have r44 := r33.fr f8 (by omega)
  have r45 := r38.fr f8 (by omega)
  obtain ⟨O9, e9, r46, f9⟩ := r41.store (N + 4) G (off := 2) (vs := [.int .i64 (IntKind.i64.wrap (fr + (1 : Int)))]) rfl (by first | decide | (simp only [List.length_cons, List.length_nil]; omega))
  have r47 := r46.to (g := q4 (.ptr b 0 0) (lb) (.int .i64 (IntKind.i64.wrap (fr + (1 : Int)))) (.int .i64 n)) upd42
  have r48 := r42.fr f9 (by omega)
  have r49 := r43.fr f9 (by omega)
  have r50 := r40.fr f9 (by omega)
  have r51 := r44.fr f9 (by omega)
  have r52 := r45.fr f9 (by omega)
  obtain ⟨O10, e10, r53, f10⟩ := r47.store (N + 4) G (off := 3) (vs := [.int .i64 (IntKind.i64.wrap (n - (1 : Int)))]) rfl (by first | decide | (simp only [List.length_cons, List.length_nil]; omega))
  have r54 := r53.to (g := q4 (.ptr b 0 0) (lb) (.int .i64 (IntKind.i64.wrap (fr + (1 : Int)))) (.int .i64 (IntKind.i64.wrap (n - (1 : Int))))) upd43
  have r55 := r48.fr f10 (by omega)
  have r56 := r49.fr f10 (by omega)
  have r57 := r50.fr f10 (by omega)
  have r58 := r51.fr f10 (by omega)
  have r59 := r52.fr f10 (by omega)
  obtain ⟨O11, e11, r60, f11⟩ := r54.store (N + 4) G (off := 0) (vs := [.ptr c 0 0]) rfl (by first | decide | (simp only [List.length_cons, List.length_nil]; omega))
  have r61 := r60.to (g := q4 (.ptr c 0 0) (lb) (.int .i64 (IntKind.i64.wrap (fr + (1 : Int)))) (.int .i64 (IntKind.i64.wrap (n - (1 : Int))))) upd40
  have r62 := r55.fr f11 (by omega)
  have r63 := r56.fr f11 (by omega)
  have r64 := r57.fr f11 (by omega)
  have r65 := r58.fr f11 (by omega)
  have r66 := r59.fr f11 (by omega)
  obtain ⟨O12, e12, r67, f12⟩ := r61.store (N + 4) G (off := 2) (vs := [.int .i64 0]) rfl (by first | decide | (simp only [List.length_cons, List.length_nil]; omega))
  have r68 := r67.to (g := q4 (.ptr c 0 0) (lb) (.int .i64 0) (.int .i64 (IntKind.i64.wrap (n - (1 : Int))))) upd42
  have r69 := r62.fr f12 (by omega)
  have r70 := r63.fr f12 (by omega)
  have r71 := r64.fr f12 (by omega)
  have r72 := r65.fr f12 (by omega)
  have r73 := r66.fr f12 (by omega)
  obtain ⟨O13, e13, r74, f13⟩ := r70.store (N + 4) G (off := 0) (vs := [v0, v1, v2, v3, v4]) hv (by first | decide | (simp only [List.length_cons, List.length_nil]; omega))
  have r75 := r74.to (g := i5 [v0, v1, v2, v3, v4]) (upd_i5 (vs := [v0, v1, v2, v3, v4]))
  have r76 := r68.fr f13 (by omega)
  have r77 := r69.fr f13 (by omega)
  have r78 := r71.fr f13 (by omega)
  have r79 := r72.fr f13 (by omega)
  have r80 := r73.fr f13 (by omega)
  exact ⟨O1, O2, O3, O4, O5, O6, O7, O8, O9, O10, O11, O12, O13, e1, (r2.load1 (by omega)).trans (by rfl), by assumption, (r2.load1 (by omega)).trans (by rfl), (r2.load1 (by omega)).trans (by rfl), e2, (r5.load1 (by omega)).trans (by rfl), (r5.load1 (by omega)).trans (by rfl), e3, by assumption, (r10.load5 (by omega)).trans (by rw [h5]), e4, e5, slc_blk _ p1, e6, (r31.load5 (by omega)).trans (by rfl), e7, ⟨(r33.load5 (by omega)).trans (by rfl), trivial⟩, e8, (r41.load1 (by omega)).trans (by rfl), e9, (r47.load1 (by omega)).trans (by rfl), e10, (r54.load1 (by omega)).trans (by rfl), by assumption, (r54.load1 (by omega)).trans (by rfl), by assumption, (r54.load1 (by omega)).trans (by rfl), (r55.load1 (by omega)).trans (by exact congrArg (fun x => some [x]) ((upd_out (by simp only [zits, List.length_cons, List.length_nil]; omega)).trans h80)), e11, e12, (r71.load5 (by omega)).trans (by rfl), e13, ⟨(r75.load5 (by omega)).trans (by rfl), trivial⟩, r76, r77, fun j h0 h1 h2 h3 h4 h5 => (f13 j h0).trans ((f12 j h5).trans ((f11 j h5).trans ((f10 j h5).trans ((f9 j h5).trans ((f8 j h1).trans ((f7 j h2).trans ((f6 j h4).trans ((f5 j h3).trans ((f4 j h3).trans ((f3 j h2).trans ((f2 j h1).trans (f1 j h0))))))))))))⟩
theorem heap_tc {la lb : AV} {O : T AObj} {N qi b c : Nat} {G : T (T AV)} {fr n : Int} {v0 v1 v2 v3 v4 : AV} {F : Nat → AV} (hv : [v0, v1, v2, v3, v4].all AV.one = true) (hr : Row O qi 4 (q4 (.ptr b 0 0) lb (.int .i64 fr) (.int .i64 n))) (hb : Row O b 81 F) (hq : qi < N) (hbN : b < N) (hbq : b ≠ qi) (h5 : [F (0 + fr.toNat * 5), F (0 + fr.toNat * 5 + 1), F (0 + fr.toNat * 5 + 2), F (0 + fr.toNat * 5 + 3), F (0 + fr.toNat * 5 + 4)] = [v0, v1, v2, v3, v4]) (p0 : (n == (0 : Int)) = false) (p1 : (0 : Int) ≤ fr ∧ fr < (↑16 : Int)) (p2 : (IntKind.i64.wrap (n - (1 : Int)) == (0 : Int)) = false) (p3 : (IntKind.i64.wrap (fr + (1 : Int)) == (16 : Int)) = false) :
    ∃ O1 O2 O3 O4 O5 O6 O7 O8 O9 O10 O11 : T AObj, (T.set ((some (.cells (.node (.node (.node .leaf (some (.str [])) .leaf) (some (.str [])) .leaf) (some (.int .i64 0)) (.node (.node .leaf (some (.bool false)) .leaf) (some (.int .u64 0)) .leaf)) 5 32 0 0 1 0 false .leaf))) (O) (N) = O1) ∧ (loadCellsA (⟨O1, N + 1, G⟩) (qi) (0) (3) (1) = (some [.int .i64 n])) ∧ ((n == (0 : Int)) = false) ∧ (loadCellsA (⟨O1, N + 1, G⟩) (qi) (0) (0) (1) = (some [.ptr b 0 0])) ∧ (loadCellsA (⟨O1, N + 1, G⟩) (qi) (0) (2) (1) = (some [.int .i64 fr])) ∧ (T.set ((some (.cells (.node (.node (.node .leaf (some (.str [])) .leaf) (some (.str [])) .leaf) (some (.int .i64 0)) (.node (.node .leaf (some (.bool false)) .leaf) (some (.int .u64 0)) .leaf)) 5 32 0 0 1 0 false .leaf))) (O1) (N + 1) = O2) ∧ (loadCellsA (⟨O2, N + 2, G⟩) (qi) (0) (2) (1) = (some [.int .i64 fr])) ∧ (loadCellsA (⟨O2, N + 2, G⟩) (qi) (0) (0) (1) = (some [.ptr b 0 0])) ∧ (T.set ((some (.cells (.node (.node (.node .leaf (some (.str [])) .leaf) (some (.str [])) .leaf) (some (.int .i64 0)) (.node (.node .leaf (some (.bool false)) .leaf) (some (.int .u64 0)) .leaf)) 5 32 0 0 1 0 false .leaf))) (O2) (N + 2) = O3) ∧ ((0 : Int) ≤ fr ∧ fr < (↑16 : Int)) ∧ (loadCellsA (⟨O3, N + 3, G⟩) (b) (0) (0 + fr.toNat * 5) (5) = (some [v0, v1, v2, v3, v4])) ∧ (T.set ((some (.cells (.node (.node (.node .leaf (some (.str [])) .leaf) (some (.str [])) .leaf) (some (.int .i64 0)) (.node (.node .leaf (some (.bool false)) .leaf) (some (.int .u64 0)) .leaf)) 5 32 0 0 1 0 false .leaf))) (O3) (N + 3) = O4) ∧ (storeCellsA (⟨O4, N + 4, G⟩) (N + 3) (0) (0) ([v0, v1, v2, v3, v4]) = (some ⟨O5, N + 4, G⟩)) ∧ (sliceH P (⟨O5, N + 4, G⟩) (50) (.ptr b 0 0) ((some fr)) ((some (IntKind.i64.wrap (fr + (1 : Int))))) (none) = (some (.slc b 0 (0 + fr.toNat * 5) 1 (16 - fr.toNat)))) ∧ (builtinE P (⟨O5, N + 4, G⟩) (Builtin.clear) ((some 55)) (none) ([.slc b 0 (0 + fr.toNat * 5) 1 (16 - fr.toNat)]) = (some (.val (.tup []) ⟨O6, N + 4, G⟩))) ∧ (loadCellsA (⟨O6, N + 4, G⟩) (N + 3) (0) (0) (5) = (some [v0, v1, v2, v3, v4])) ∧ (storeCellsA (⟨O6, N + 4, G⟩) (N + 2) (0) (0) ([v0, v1, v2, v3, v4]) = (some ⟨O7, N + 4, G⟩)) ∧ (loadCellsA { objs := O7, next := N + 4, glob := G } (N + 2) (0) (0) (5) = some [v0, v1, v2, v3, v4] ∧ True) ∧ (storeCellsA (⟨O7, N + 4, G⟩) (N + 1) (0) (0) ([v0, v1, v2, v3, v4]) = (some ⟨O8, N + 4, G⟩)) ∧ (loadCellsA (⟨O8, N + 4, G⟩) (qi) (0) (2) (1) = (some [.int .i64 fr])) ∧ (storeCellsA (⟨O8, N + 4, G⟩) (qi) (0) (2) ([.int .i64 (IntKind.i64.wrap (fr + (1 : Int)))]) = (some ⟨O9, N + 4, G⟩)) ∧ (loadCellsA (⟨O9, N + 4, G⟩) (qi) (0) (3) (1) = (some [.int .i64 n])) ∧ (storeCellsA (⟨O9, N + 4, G⟩) (qi) (0) (3) ([.int .i64 (IntKind.i64.wrap (n - (1 : Int)))]) = (some ⟨O10, N + 4, G⟩)) ∧ (loadCellsA (⟨O10, N + 4, G⟩) (qi) (0) (3) (1) = (some [.int .i64 (IntKind.i64.wrap (n - (1 : Int)))])) ∧ ((IntKind.i64.wrap (n - (1 : Int)) == (0 : Int)) = false) ∧ (loadCellsA (⟨O10, N + 4, G⟩) (qi) (0) (2) (1) = (some [.int .i64 (IntKind.i64.wrap (fr + (1 : Int)))])) ∧ ((IntKind.i64.wrap (fr + (1 : Int)) == (16 : Int)) = false) ∧ (loadCellsA (⟨O10, N + 4, G⟩) (N + 1) (0) (0) (5) = (some [v0, v1, v2, v3, v4])) ∧ (storeCellsA (⟨O10, N + 4, G⟩) (N) (0) (0) ([v0, v1, v2, v3, v4]) = (some ⟨O11, N + 4, G⟩)) ∧ (loadCellsA { objs := O11, next := N + 4, glob := G } N (0) (0) (5) = some [v0, v1, v2, v3, v4] ∧ True) ∧ Row O11 (qi) 4 (q4 (.ptr b 0 0) (lb) (.int .i64 (IntKind.i64.wrap (fr + (1 : Int)))) (.int .i64 (IntKind.i64.wrap (n - (1 : Int))))) ∧ Row O11 (b) 81 (upd F (0 + fr.toNat * 5) zits) ∧ (∀ j, j ≠ N → j ≠ N + 1 → j ≠ N + 2 → j ≠ N + 3 → j ≠ b → j ≠ qi → O11.get j = O.get j) := by
  obtain ⟨O1, e1, r1, f1⟩ := Row.mk (n := 5) (f := i5 [.int .i64 0, .str [], .int .u64 0, .str [], .bool false]) (c := (.node (.node (.node .leaf (some (.str [])) .leaf) (some (.str [])) .leaf) (some (.int .i64 0)) (.node (.node .leaf (some (.bool false)) .leaf) (some (.int .u64 0)) .leaf))) (el := 32) O (N) (fun k hk => by rcases k with _ | _ | _ | _ | _ | k <;> first | rfl | omega)
  have r2 := hr.fr f1 (by omega)
  have r3 := hb.fr f1 (by omega)
  obtain ⟨O2, e2, r4, f2⟩ := Row.mk (n := 5) (f := i5 [.int .i64 0, .str [], .int .u64 0, .str [], .bool false]) (c := (.node (.node (.node .leaf (some (.str [])) .leaf) (some (.str [])) .leaf) (some (.int .i64 0)) (.node (.node .leaf (some (.bool false)) .leaf) (some (.int .u64 0)) .leaf))) (el := 32) O1 (N + 1) (fun k hk => by rcases k with _ | _ | _ | _ | _ | k <;> first | rfl | omega)
  have r5 := r2.fr f2 (by omega)
  have r6 := r3.fr f2 (by omega)
  have r7 := r1.fr f2 (by omega)
  obtain ⟨O3, e3, r8, f3⟩ := Row.mk (n := 5) (f := i5 [.int .i64 0, .str [], .int .u64 0, .str [], .bool false]) (c := (.node (.node (.node .leaf (some (.str [])) .leaf) (some (.str [])) .leaf) (some (.int .i64 0)) (.node (.node .leaf (some (.bool false)) .leaf) (some (.int .u64 0)) .leaf))) (el := 32) O2 (N + 2) (fun k hk => by rcases k with _ | _ | _ | _ | _ | k <;> first | rfl | omega)
  have r9 := r5.fr f3 (by omega)
  have r10 := r6.fr f3 (by omega)
  have r11 := r7.fr f3 (by omega)
  have r12 := r4.fr f3 (by omega)
  obtain ⟨O4, e4, r13, f4⟩ := Row.mk (n := 5) (f := i5 [.int .i64 0, .str [], .int .u64 0, .str [], .bool false]) (c := (.node (.node (.node .leaf (some (.str [])) .leaf) (some (.str [])) .leaf) (some (.int .i64 0)) (.node (.node .leaf (some (.bool false)) .leaf) (some (.int .u64 0)) .leaf))) (el := 32) O3 (N + 3) (fun k hk => by rcases k with _ | _ | _ | _ | _ | k <;> first | rfl | omega)
  have r14 := r9.fr f4 (by omega)
  have r15 := r10.fr f4 (by omega)
  have r16 := r11.fr f4 (by omega)
  have r17 := r12.fr f4 (by omega)
  have r18 := r8.fr f4 (by omega)
  obtain ⟨O5, e5, r19, f5⟩ := r13.store (N + 4) G (off := 0) (vs := [v0, v1, v2, v3, v4]) hv (by first | decide | (simp only [List.length_cons, List.length_nil]; omega))
  have r20 := r19.to (g := i5 [v0, v1, v2, v3, v4]) (upd_i5 (vs := [v0, v1, v2, v3, v4]))
  have r21 := r14.fr f5 (by omega)
  have r22 := r15.fr f5 (by omega)
  have r23 := r16.fr f5 (by omega)
  have r24 := r17.fr f5 (by omega)
  have r25 := r18.fr f5 (by omega)
  obtain ⟨O6, e6, r26, f6⟩ := clear_blk (G := G) (N := N + 4) r22 p1
  have r27 := r21.fr f6 (by omega)
  have r28 := r23.fr f6 (by omega)
  have r29 := r24.fr f6 (by omega)
  have r30 := r25.fr f6 (by omega)
  have r31 := r20.fr f6 (by omega)
  obtain ⟨O7, e7, r32, f7⟩ := r30.store (N + 4) G (off := 0) (vs := [v0, v1, v2, v3, v4]) hv (by first | decide | (simp only [List.length_cons, List.length_nil]; omega))
  have r33 := r32.to (g := i5 [v0, v1, v2, v3, v4]) (upd_i5 (vs := [v0, v1, v2, v3, v4]))
  have r34 := r27.fr f7 (by omega)
  have r35 := r26.fr f7 (by omega)
  have r36 := r28.fr f7 (by omega)
  have r37 := r29.fr f7 (by omega)
  have r38 := r31.fr f7 (by omega)
  obtain ⟨O8, e8, r39, f8⟩ := r37.store (N + 4) G (off := 0) (vs := [v0, v1, v2, v3, v4]) hv (by first | decide | (simp only [List.length_cons, List.length_nil]; omega))
  have r40 := r39.to (g := i5 [v0, v1, v2, v3, v4]) (upd_i5 (vs := [v0, v1, v2, v3, v4]))
  have r41 := r34.fr f8 (by omega)
  have r42 := r35.fr f8 (by omega)
  have r43 := r36.fr f8 (by omega)
  have r44 := r33.fr f8 (by omega)
  have r45 := r38.fr f8 (by omega)
  obtain ⟨O9, e9, r46, f9⟩ := r41.store (N + 4) G (off := 2) (vs := [.int .i64 (IntKind.i64.wrap (fr + (1 : Int)))]) rfl (by first | decide | (simp only [List.length_cons, List.length_nil]; omega))
  have r47 := r46.to (g := q4 (.ptr b 0 0) (lb) (.int .i64 (IntKind.i64.wrap (fr + (1 : Int)))) (.int .i64 n)) upd42
  have r48 := r42.fr f9 (by omega)
  have r49 := r43.fr f9 (by omega)
  have r50 := r40.fr f9 (by omega)
  have r51 := r44.fr f9 (by omega)
  have r52 := r45.fr f9 (by omega)
  obtain ⟨O10, e10, r53, f10⟩ := r47.store (N + 4) G (off := 3) (vs := [.int .i64 (IntKind.i64.wrap (n - (1 : Int)))]) rfl (by first | decide | (simp only [List.length_cons, List.length_nil]; omega))
  have r54 := r53.to (g := q4 (.ptr b 0 0) (lb) (.int .i64 (IntKind.i64.wrap (fr + (1 : Int)))) (.int .i64 (IntKind.i64.wrap (n - (1 : Int))))) upd43
  have r55 := r48.fr f10 (by omega)
  have r56 := r49.fr f10 (by omega)
  have r57 := r50.fr f10 (by omega)
  have r58 := r51.fr f10 (by omega)
  have r59 := r52.fr f10 (by omega)
  obtain ⟨O11, e11, r60, f11⟩ := r56.store (N + 4) G (off := 0) (vs := [v0, v1, v2, v3, v4]) hv (by first | decide | (simp only [List.length_cons, List.length_nil]; omega))
  have r61 := r60.to (g := i5 [v0, v1, v2, v3, v4]) (upd_i5 (vs := [v0, v1, v2, v3, v4]))
  have r62 := r54.fr f11 (by omega)
  have r63 := r55.fr f11 (by omega)
  have r64 := r57.fr f11 (by omega)
  have r65 := r58.fr f11 (by omega)
  have r66 := r59.fr f11 (by omega)
  exact ⟨O1, O2, O3, O4, O5, O6, O7, O8, O9, O10, O11, e1, (r2.load1 (by omega)).trans (by rfl), by assumption, (r2.load1 (by omega)).trans (by rfl), (r2.load1 (by omega)).trans (by rfl), e2, (r5.load1 (by omega)).trans (by rfl), (r5.load1 (by omega)).trans (by rfl), e3, by assumption, (r10.load5 (by omega)).trans (by rw [h5]), e4, e5, slc_blk _ p1, e6, (r31.load5 (by omega)).trans (by rfl), e7, ⟨(r33.load5 (by omega)).trans (by rfl), trivial⟩, e8, (r41.load1 (by omega)).trans (by rfl), e9, (r47.load1 (by omega)).trans (by rfl), e10, (r54.load1 (by omega)).trans (by rfl), by assumption, (r54.load1 (by omega)).trans (by rfl), by assumption, (r57.load5 (by omega)).trans (by rfl), e11, ⟨(r61.load5 (by omega)).trans (by rfl), trivial⟩, r62, r63, fun j h0 h1 h2 h3 h4 h5 => (f11 j h0).trans ((f10 j h5).trans ((f9 j h5).trans ((f8 j h1).trans ((f7 j h2).trans ((f6 j h4).trans ((f5 j h3).trans ((f4 j h3).trans ((f3 j h2).trans ((f2 j h1).trans (f1 j h0))))))))))⟩
end Go.Proofs.Ytijkclfajopjkaa.qo
