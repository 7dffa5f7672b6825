/- What is put behind a text: the program's calls and the document's, by the rows of numbers. -/
import Derived.Test.YtdbfpjgnlfejmaaDoorMaR
set_option maxRecDepth 100000
namespace Go.Proofs.YtdbfpjgnlfejmaaDoor.mq
open Go Ev

theorem pn (s : List UInt8) (n : Int) (R : AV → Prop) (_K : AM → Prop) : Obl P 48 (fun v _ => R v) 0 _K [.run 9, (.callv [0] (.str (row n))), .op, .run 3, .done] ((startM P 48 [.str s, .int .u64 n] GW)) = ((Goal P 0 74 (fun x _ => x = AV.str (row n)) (startM P 74 [.int .u64 n] GW)) ∧ (s.length + (row n).length < 1099511627776) ∧ (R (.str (s ++ row n)))) := by kernel_rfl

theorem pt (s t : List UInt8) (R : AV → Prop) (_K : AM → Prop) : Obl P 49 (fun v _ => R v) 0 _K [.run 11, (.callv [0] (.str (row (IntKind.u64.wrap t.length)))), .op, .run 1, .op, .run 3, .done] ((startM P 49 [.str s, .str t] GW)) = ((Goal P 0 74 (fun x _ => x = AV.str (row (IntKind.u64.wrap ↑t.length))) (startM P 74 [.int .u64 (IntKind.u64.wrap ↑t.length)] GW)) ∧ (s.length + (row (IntKind.u64.wrap ↑t.length)).length < 1099511627776) ∧ ((s ++ row (IntKind.u64.wrap ↑t.length)).length + t.length < 1099511627776) ∧ (R (.str (s ++ row (IntKind.u64.wrap ↑t.length) ++ t)))) := by kernel_rfl

theorem rt (s t : List UInt8) (R : AV → Prop) (_K : AM → Prop) : Obl P 52 (fun v _ => R v) 0 _K [.run 11, (.callv [0, 1] (.str (s ++ row (IntKind.u64.wrap t.length)))), .run 1, .op, .run 3, .done] ((startM P 52 [.str s, .str t] GW)) = ((Goal P 0 51 (fun x _ => x = AV.str (s ++ row (IntKind.u64.wrap ↑t.length))) (startM P 51 [.str s, .int .u64 (IntKind.u64.wrap ↑t.length)] GW)) ∧ ((s ++ row (IntKind.u64.wrap ↑t.length)).length + t.length < 1099511627776) ∧ (R (.str (s ++ row (IntKind.u64.wrap ↑t.length) ++ t)))) := by kernel_rfl

theorem rb (x : Int) (h : 0 ≤ x) : UInt8.ofNat (IntKind.u8.wrap (x.tmod 256)).toNat = B x := by
  rw [byte_of, Int.tmod_eq_emod_of_nonneg h]
  exact B_congr (by omega)

/-- The program's number behind a text. -/
theorem puts (s : List UInt8) (n : Int) (h0 : 0 ≤ n) (h1 : n ≤ 18446744073709551615) (hs : s.length + 9 < 1099511627776) : Goal P 0 48 (fun x _ => x = .str (s ++ row n)) (startM P 48 [.str s, .int .u64 n] GW) := by
  have := row_length n
  exact Obl.goal (K := fun _ => False) mix (fun _ h => h.elim) (cast (pn s n (fun x => x = .str (s ++ row n)) _).symm ⟨nums n h0 h1, by omega, rfl⟩)

theorem textLen (t : List UInt8) (ht : t.length < 1099511627776) : IntKind.u64.wrap t.length = t.length := IntWalk.u64_in _ (by omega)

/-- The program's text behind a text. -/
theorem putt (s t : List UInt8) (hs : s.length + t.length + 9 < 1099511627776) : Goal P 0 49 (fun x _ => x = .str (s ++ row (IntKind.u64.wrap t.length) ++ t)) (startM P 49 [.str s, .str t] GW) := by
  have := row_length (IntKind.u64.wrap t.length)
  have hw := textLen t (by omega)
  refine Obl.goal (K := fun _ => False) mix (fun _ h => h.elim) (cast (pt s t (fun x => x = .str (s ++ row (IntKind.u64.wrap t.length) ++ t)) _).symm ⟨nums _ (by rw [hw]; omega) (by rw [hw]; omega), by omega, ?_, rfl⟩)
  rw [List.length_append]; omega

/-- The document's number behind a text. -/
theorem rputs (s : List UInt8) (n : Int) (h0 : 0 ≤ n) (h1 : n ≤ 18446744073709551615) (hs : s.length + 9 < 1099511627776) : Goal P 0 51 (fun x _ => x = .str (s ++ row n)) (startM P 51 [.str s, .int .u64 n] GW) := by
  have t1 : IntKind.u64.wrap (n.tdiv 256) = n / 256 := IntWalk.u64_quo n 256 ⟨h0, h1, by decide⟩
  have t2 : IntKind.u64.wrap ((n / 256).tdiv 256) = n / 65536 := by rw [IntWalk.u64_quo _ _ ⟨by omega, by omega, by decide⟩]; omega
  have t3 : IntKind.u64.wrap ((n / 65536).tdiv 256) = n / 16777216 := by rw [IntWalk.u64_quo _ _ ⟨by omega, by omega, by decide⟩]; omega
  have t4 : IntKind.u64.wrap ((n / 16777216).tdiv 256) = n / 4294967296 := by rw [IntWalk.u64_quo _ _ ⟨by omega, by omega, by decide⟩]; omega
  have t5 : IntKind.u64.wrap ((n / 4294967296).tdiv 256) = n / 1099511627776 := by rw [IntWalk.u64_quo _ _ ⟨by omega, by omega, by decide⟩]; omega
  have t6 : IntKind.u64.wrap ((n / 1099511627776).tdiv 256) = n / 281474976710656 := by rw [IntWalk.u64_quo _ _ ⟨by omega, by omega, by decide⟩]; omega
  have t7 : IntKind.u64.wrap ((n / 281474976710656).tdiv 256) = n / 72057594037927936 := by rw [IntWalk.u64_quo _ _ ⟨by omega, by omega, by decide⟩]; omega
  have b0 := rb n h0
  have b1 := rb (n / 256) (by omega)
  have b2 := rb (n / 65536) (by omega)
  have b3 := rb (n / 16777216) (by omega)
  have b4 := rb (n / 4294967296) (by omega)
  have b5 := rb (n / 1099511627776) (by omega)
  have b6 := rb (n / 281474976710656) (by omega)
  have b7 := rb (n / 72057594037927936) (by omega)
  by_cases c1 : n ≤ 240
  · refine Obl.goal (K := fun _ => False) mix (fun _ h => h.elim) (cast (rpy s n (fun x => x = .str (s ++ row n)) _).symm ⟨decide_eq_true c1, by simp; omega, ?_⟩)
    simp only [b0, row, if_pos c1, List.reverse_cons, List.reverse_nil, List.nil_append, List.append_nil]
  by_cases c2 : n ≤ 2287
  · have z1 : IntKind.u64.wrap (n - 240) = n - 240 := IntWalk.u64_in _ (by omega)
    have z2 : IntKind.u64.wrap ((n - 240).tdiv 256) = (n - 240) / 256 := IntWalk.u64_quo _ _ ⟨by omega, by omega, by decide⟩
    have z3 : IntKind.u64.wrap (241 + (n - 240) / 256) = 241 + (n - 240) / 256 := IntWalk.u64_in _ (by omega)
    have z4 := rb (241 + (n - 240) / 256) (by omega)
    have z5 : (n - 240).tmod 256 = (n - 240) % 256 := Int.tmod_eq_emod_of_nonneg (by omega)
    have z6 := rb ((n - 240) % 256) (by omega)
    have z7 : B ((n - 240) % 256) = B (n - 240) := B_congr (by omega)
    refine Obl.goal (K := fun _ => False) mix (fun _ h => h.elim) (cast (rpny s n (fun x => x = .str (s ++ row n)) _).symm ⟨decide_eq_false c1, decide_eq_true c2, by simp; omega, by simp; omega, ?_⟩)
    simp only [z1, z2, z3, z4, z5, z6, z7, row, if_neg c1, if_pos c2, List.reverse_cons, List.reverse_nil, List.nil_append, List.append_nil, List.append_assoc, List.cons_append]
  by_cases c3 : n ≤ 67823
  · have z1 : IntKind.u64.wrap (n - 2288) = n - 2288 := IntWalk.u64_in _ (by omega)
    have z2 : IntKind.u64.wrap ((n - 2288).tdiv 256) = (n - 2288) / 256 := IntWalk.u64_quo _ _ ⟨by omega, by omega, by decide⟩
    have z4 := rb ((n - 2288) / 256) (by omega)
    have z6 := rb (n - 2288) (by omega)
    refine Obl.goal (K := fun _ => False) mix (fun _ h => h.elim) (cast (rpnny s n (fun x => x = .str (s ++ row n)) _).symm ⟨decide_eq_false c1, decide_eq_false c2, decide_eq_true c3, by omega, by simp; omega, ?_⟩)
    simp only [z1, z2, z4, z6, row, if_neg c1, if_neg c2, if_pos c3, List.reverse_cons, List.reverse_nil, List.nil_append, List.append_nil, List.append_assoc, List.cons_append]
    rfl
  by_cases c4 : n ≤ 16777215
  · refine Obl.goal (K := fun _ => False) mix (fun _ h => h.elim) (cast (rpnnnn s n (fun x => x = .str (s ++ row n)) _).symm ⟨decide_eq_false c1, decide_eq_false c2, decide_eq_false c3, decide_eq_false (by rw [sh24]; omega), by omega, by simp; omega, ?_⟩)
    simp only [t1, t2, b0, b1, b2, row, if_neg c1, if_neg c2, if_neg c3, if_pos c4, List.reverse_cons, List.reverse_nil, List.nil_append, List.append_nil, List.append_assoc, List.cons_append]
    rfl
  by_cases c5 : n ≤ 4294967295
  · refine Obl.goal (K := fun _ => False) mix (fun _ h => h.elim) (cast (rpnnnyn s n (fun x => x = .str (s ++ row n)) _).symm ⟨decide_eq_false c1, decide_eq_false c2, decide_eq_false c3, decide_eq_true (by rw [sh24]; omega), decide_eq_false (by rw [sh32]; omega), by omega, by simp; omega, ?_⟩)
    simp only [t1, t2, t3, b0, b1, b2, b3, row, if_neg c1, if_neg c2, if_neg c3, if_neg c4, if_pos c5, List.reverse_cons, List.reverse_nil, List.nil_append, List.append_nil, List.append_assoc, List.cons_append]
    rfl
  by_cases c6 : n ≤ 1099511627775
  · refine Obl.goal (K := fun _ => False) mix (fun _ h => h.elim) (cast (rpnnnyyn s n (fun x => x = .str (s ++ row n)) _).symm ⟨decide_eq_false c1, decide_eq_false c2, decide_eq_false c3, decide_eq_true (by rw [sh24]; omega), decide_eq_true (by rw [sh32]; omega), decide_eq_false (by rw [sh40]; omega), by omega, by simp; omega, ?_⟩)
    simp only [t1, t2, t3, t4, b0, b1, b2, b3, b4, row, if_neg c1, if_neg c2, if_neg c3, if_neg c4, if_neg c5, if_pos c6, List.reverse_cons, List.reverse_nil, List.nil_append, List.append_nil, List.append_assoc, List.cons_append]
    rfl
  by_cases c7 : n ≤ 281474976710655
  · refine Obl.goal (K := fun _ => False) mix (fun _ h => h.elim) (cast (rpnnnyyyn s n (fun x => x = .str (s ++ row n)) _).symm ⟨decide_eq_false c1, decide_eq_false c2, decide_eq_false c3, decide_eq_true (by rw [sh24]; omega), decide_eq_true (by rw [sh32]; omega), decide_eq_true (by rw [sh40]; omega), decide_eq_false (by rw [sh48]; omega), by omega, by simp; omega, ?_⟩)
    simp only [t1, t2, t3, t4, t5, b0, b1, b2, b3, b4, b5, row, if_neg c1, if_neg c2, if_neg c3, if_neg c4, if_neg c5, if_neg c6, if_pos c7, List.reverse_cons, List.reverse_nil, List.nil_append, List.append_nil, List.append_assoc, List.cons_append]
    rfl
  by_cases c8 : n ≤ 72057594037927935
  · refine Obl.goal (K := fun _ => False) mix (fun _ h => h.elim) (cast (rpnnnyyyyn s n (fun x => x = .str (s ++ row n)) _).symm ⟨decide_eq_false c1, decide_eq_false c2, decide_eq_false c3, decide_eq_true (by rw [sh24]; omega), decide_eq_true (by rw [sh32]; omega), decide_eq_true (by rw [sh40]; omega), decide_eq_true (by rw [sh48]; omega), decide_eq_false (by rw [sh56]; omega), by omega, by simp; omega, ?_⟩)
    simp only [t1, t2, t3, t4, t5, t6, b0, b1, b2, b3, b4, b5, b6, row, if_neg c1, if_neg c2, if_neg c3, if_neg c4, if_neg c5, if_neg c6, if_neg c7, if_pos c8, List.reverse_cons, List.reverse_nil, List.nil_append, List.append_nil, List.append_assoc, List.cons_append]
    rfl
  · refine Obl.goal (K := fun _ => False) mix (fun _ h => h.elim) (cast (rpnnnyyyyy s n (fun x => x = .str (s ++ row n)) _).symm ⟨decide_eq_false c1, decide_eq_false c2, decide_eq_false c3, decide_eq_true (by rw [sh24]; omega), decide_eq_true (by rw [sh32]; omega), decide_eq_true (by rw [sh40]; omega), decide_eq_true (by rw [sh48]; omega), decide_eq_true (by rw [sh56]; omega), by omega, by simp; omega, ?_⟩)
    simp only [t1, t2, t3, t4, t5, t6, t7, b0, b1, b2, b3, b4, b5, b6, b7, row, if_neg c1, if_neg c2, if_neg c3, if_neg c4, if_neg c5, if_neg c6, if_neg c7, if_neg c8, List.reverse_cons, List.reverse_nil, List.nil_append, List.append_nil, List.append_assoc, List.cons_append]
    rfl

/-- The document's text behind a text. -/
theorem rputt (s t : List UInt8) (hs : s.length + t.length + 9 < 1099511627776) : Goal P 0 52 (fun x _ => x = .str (s ++ row (IntKind.u64.wrap t.length) ++ t)) (startM P 52 [.str s, .str t] GW) := by
  have := row_length (IntKind.u64.wrap t.length)
  have hw := textLen t (by omega)
  refine Obl.goal (K := fun _ => False) mix (fun _ h => h.elim) (cast (rt s t (fun x => x = .str (s ++ row (IntKind.u64.wrap t.length) ++ t)) _).symm ⟨rputs s _ (by rw [hw]; omega) (by rw [hw]; omega) (by omega), ?_, rfl⟩)
  rw [List.length_append]; omega

end Go.Proofs.YtdbfpjgnlfejmaaDoor.mq
