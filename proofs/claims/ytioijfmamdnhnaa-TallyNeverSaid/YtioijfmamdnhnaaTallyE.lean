/- A meter never tells more than it may: the loop of the statement TallyNever, from head to head. Every run is reckoned by the kernel; what has to be shown of each is listed with it. -/
import Derived.Test.YtioijfmamdnhnaaEvSc
import Derived.Test.YtioijfmamdnhnaaRows
import Derived.IntWalk
set_option maxRecDepth 100000
namespace Go.Proofs.Ytioijfmamdnhnaa.tallyNever
open Go Ev

noncomputable abbrev P : Program := Try.prog

noncomputable abbrev Q : AV → AHeap → Prop := fun v _ => v = .bool true
noncomputable def M (most s i : Int) (off len cap : Nat) (z : Nat → Int) : AM := ⟨⟨8, 66, (.node (.node (.node (.node .leaf (some (.int .i64 i)) .leaf) none .leaf) (some (.slc 0 0 off len cap)) (.node .leaf (some (.ptr 1 0 0)) .leaf)) (some (.int .u64 most)) (.node .leaf none (.node .leaf (some (.int .u64 s)) .leaf))),
   [.code (cd P 8 [1, 1, 1, 1, 0, 1, 0, 0]), .inLoop (cd P 8 [1, 1, 1, 1, 0, 1, 0, 0]), .inBlock 0, .code (cd P 8 [1, 1, 1, 1, 1])], [], .run, CallKind.normal, none⟩,
  [],
  ⟨(.node (.node .leaf (some (.cells (.node (.node .leaf (some (.int .u64 s)) .leaf) (some (.int .u64 most)) .leaf) 2 50 0 0 1 0 false .leaf)) .leaf) (some (.ro (.fn fun j => some (AV.int IntKind.u64 (z j))) off (off + cap))) .leaf), 2, .leaf⟩⟩

theorem start (most : Int) (b off len cap : Nat) (z : Nat → Int) (K : AM → Prop) : optK ((startL P 8 [.int .u64 most, .slc 0 0 off len cap] [⟨b, .fn (fun j => some (.int .u64 (z j))), off, off + cap⟩] .leaf)) (Obl P 8 Q 0 K [.run 8, .callv [] (.bool true), .run 34, .can 0 [0, 1] [0, 1, 5, 6, 7] []]) = ((Goal P 0 16 (fun x x_1 => x = AV.bool true) (startM P 16 [] .leaf)) ∧ K (M most (Int.ofNat 0) (Int.ofNat 0) off len cap z)) := by kernel_rfl

theorem over (most s i : Int) (off len cap : Nat) (z : Nat → Int) (K : AM → Prop) : Obl P 8 Q 0 K [.run 8, .know 17 true, .run 4, .know 20 true, .run 9, .op, .op, .run 58, .know 7 true, .run 58, .op, .op, .run 6, .know 56 false, .run 31, .know 61 false, .run 5, .know 65 false, .run 9, .can 0 [0, 1] [0, 1, 5, 6, 7] []] ((M most s i off len cap z)) = ((decide (i < ↑len) = true) ∧ (decide (i < 200) = true) ∧ (0 ≤ i ∧ i < ↑len) ∧ (off ≤ off + i.toNat * 1 ∧ off + i.toNat * 1 + 1 ≤ off + cap) ∧ (decide (s > IntKind.u64.wrap (18446744073709551615 - z (off + i.toNat * 1))) = true) ∧ (0 ≤ i ∧ i < ↑len) ∧ (off ≤ off + i.toNat * 1 ∧ off + i.toNat * 1 + 1 ≤ off + cap) ∧ (decide (z (off + i.toNat * 1) ≤ IntKind.u64.wrap (most - s)) = false) ∧ ((s != s) = false) ∧ (decide (s > most) = false) ∧ K (M most s (IntKind.i64.wrap (i + 1)) off len cap z)) := by kernel_rfl

theorem more (most s i : Int) (off len cap : Nat) (z : Nat → Int) (K : AM → Prop) : Obl P 8 Q 0 K [.run 8, .know 17 true, .run 4, .know 20 true, .run 9, .op, .op, .run 58, .know 7 false, .run 51, .know 27 true, .run 23, .op, .op, .run 6, .know 56 false, .run 31, .know 61 false, .run 5, .know 65 false, .run 9, .can 0 [0, 1] [0, 1, 5, 6, 7] []] ((M most s i off len cap z)) = ((decide (i < ↑len) = true) ∧ (decide (i < 200) = true) ∧ (0 ≤ i ∧ i < ↑len) ∧ (off ≤ off + i.toNat * 1 ∧ off + i.toNat * 1 + 1 ≤ off + cap) ∧ (decide (s > IntKind.u64.wrap (18446744073709551615 - z (off + i.toNat * 1))) = false) ∧ (decide (IntKind.u64.wrap (s + z (off + i.toNat * 1)) > most) = true) ∧ (0 ≤ i ∧ i < ↑len) ∧ (off ≤ off + i.toNat * 1 ∧ off + i.toNat * 1 + 1 ≤ off + cap) ∧ (decide (z (off + i.toNat * 1) ≤ IntKind.u64.wrap (most - s)) = false) ∧ ((s != s) = false) ∧ (decide (s > most) = false) ∧ K (M most s (IntKind.i64.wrap (i + 1)) off len cap z)) := by kernel_rfl

theorem good (most s i : Int) (off len cap : Nat) (z : Nat → Int) (K : AM → Prop) : Obl P 8 Q 0 K [.run 8, .know 17 true, .run 4, .know 20 true, .run 9, .op, .op, .run 58, .know 7 false, .run 51, .know 27 false, .run 30, .op, .op, .run 5, .know 38 false, .run 6, .op, .op, .run 32, .know 61 false, .run 5, .know 65 false, .run 9, .can 0 [0, 1] [0, 1, 5, 6, 7] []] ((M most s i off len cap z)) = ((decide (i < ↑len) = true) ∧ (decide (i < 200) = true) ∧ (0 ≤ i ∧ i < ↑len) ∧ (off ≤ off + i.toNat * 1 ∧ off + i.toNat * 1 + 1 ≤ off + cap) ∧ (decide (s > IntKind.u64.wrap (18446744073709551615 - z (off + i.toNat * 1))) = false) ∧ (decide (IntKind.u64.wrap (s + z (off + i.toNat * 1)) > most) = false) ∧ (0 ≤ i ∧ i < ↑len) ∧ (off ≤ off + i.toNat * 1 ∧ off + i.toNat * 1 + 1 ≤ off + cap) ∧ (decide (z (off + i.toNat * 1) > IntKind.u64.wrap (most - s)) = false) ∧ (0 ≤ i ∧ i < ↑len) ∧ (off ≤ off + i.toNat * 1 ∧ off + i.toNat * 1 + 1 ≤ off + cap) ∧ ((IntKind.u64.wrap (s + z (off + i.toNat * 1)) != IntKind.u64.wrap (s + z (off + i.toNat * 1))) = false) ∧ (decide (IntKind.u64.wrap (s + z (off + i.toNat * 1)) > most) = false) ∧ K (M most (IntKind.u64.wrap (s + z (off + i.toNat * 1))) (IntKind.i64.wrap (i + 1)) off len cap z)) := by kernel_rfl

theorem out1 (most s i : Int) (off len cap : Nat) (z : Nat → Int) (K : AM → Prop) : Obl P 8 Q 0 K [.run 8, .know 17 false, .run 11, .done] ((M most s i off len cap z)) = ((decide (i < ↑len) = false) ∧ (AV.bool true = AV.bool true)) := by kernel_rfl

theorem out2 (most s i : Int) (off len cap : Nat) (z : Nat → Int) (K : AM → Prop) : Obl P 8 Q 0 K [.run 8, .know 17 true, .run 4, .know 20 false, .run 7, .done] ((M most s i off len cap z)) = ((decide (i < ↑len) = true) ∧ (decide (i < 200) = false) ∧ (AV.bool true = AV.bool true)) := by kernel_rfl

theorem startNil (most : Int) (K : AM → Prop) : optK ((startL P 8 [.int .u64 most, .nils 0 0] [] .leaf)) (Obl P 8 Q 0 K [.run 8, .callv [] (.bool true), .run 53, .done]) = ((Goal P 0 16 (fun x x_1 => x = AV.bool true) (startM P 16 [] .leaf)) ∧ (AV.bool true = AV.bool true)) := by kernel_rfl

theorem startSle (most : Int) (K : AM → Prop) : optK ((startL P 8 [.int .u64 most, .sle] [] .leaf)) (Obl P 8 Q 0 K [.run 8, .callv [] (.bool true), .run 53, .done]) = ((Goal P 0 16 (fun x x_1 => x = AV.bool true) (startM P 16 [] .leaf)) ∧ (AV.bool true = AV.bool true)) := by kernel_rfl

theorem mix : P.follows .mixedOrders = true := Checked.mixed Try.checked

theorem works : Goal P 0 16 (fun x _ => x = AV.bool true) (startM P 16 [] .leaf) :=
  Goal.ofRun mix (n := 6000) (v := .bool true) (by kernel_rfl) fun _ => rfl

theorem head (most : Int) (hm : 0 ≤ most ∧ most ≤ 18446744073709551615) (off len cap : Nat) (hlen : len ≤ 9223372036854775807) (hcap : len ≤ cap) (z : Nat → Int) (hz : ∀ j, off ≤ j → j < off + len → 0 ≤ z j ∧ z j ≤ 18446744073709551615) :
    ∀ (d : Nat) (i s : Int), 0 ≤ i → i ≤ 200 → 200 - i ≤ d → 0 ≤ s → s ≤ most → Goal P 0 8 Q (M most s i off len cap z) := by
  intro d
  induction d with
  | zero =>
    intro i s h0 h1 h2 h3 h4
    by_cases hl : i < len
    · refine Obl.goal (K := fun _ => False) mix (fun _ h => h.elim) (cast (out2 most s i off len cap z _).symm ⟨decide_eq_true hl, decide_eq_false (by omega), rfl⟩)
    · refine Obl.goal (K := fun _ => False) mix (fun _ h => h.elim) (cast (out1 most s i off len cap z _).symm ⟨decide_eq_false hl, rfl⟩)
  | succ d ih =>
    intro i s h0 h1 h2 h3 h4
    by_cases hl : i < len
    rotate_left
    · refine Obl.goal (K := fun _ => False) mix (fun _ h => h.elim) (cast (out1 most s i off len cap z _).symm ⟨decide_eq_false hl, rfl⟩)
    by_cases hi : i < 200
    rotate_left
    · refine Obl.goal (K := fun _ => False) mix (fun _ h => h.elim) (cast (out2 most s i off len cap z _).symm ⟨decide_eq_true hl, decide_eq_false hi, rfl⟩)
    obtain ⟨hx0, hx1⟩ := hz (off + i.toNat * 1) (by omega) (by omega)
    have hin : off ≤ off + i.toNat * 1 ∧ off + i.toNat * 1 + 1 ≤ off + cap := by omega
    have w1 : IntKind.u64.wrap (18446744073709551615 - z (off + i.toNat * 1)) = 18446744073709551615 - z (off + i.toNat * 1) := IntWalk.u64_in _ (by omega)
    have w2 : IntKind.u64.wrap (most - s) = most - s := IntWalk.u64_in _ (by omega)
    have w3 : IntKind.i64.wrap (i + 1) = i + 1 := IntWalk.i64_in _ (by omega)
    by_cases hov : s > 18446744073709551615 - z (off + i.toNat * 1)
    · refine Obl.goal (K := Goal P 0 8 Q) mix (fun _ h => h) (cast (over most s i off len cap z _).symm ⟨decide_eq_true hl, decide_eq_true hi, ⟨h0, hl⟩, hin, ?_, ⟨h0, hl⟩, hin, ?_, bne_self_eq_false s, decide_eq_false (by omega), ?_⟩)
      · rw [w1]; exact decide_eq_true hov
      · rw [w2]; exact decide_eq_false (by omega)
      · rw [w3]; exact ih (i + 1) s (by omega) (by omega) (by omega) h3 h4
    · have w4 : IntKind.u64.wrap (s + z (off + i.toNat * 1)) = s + z (off + i.toNat * 1) := IntWalk.u64_in _ (by omega)
      by_cases hmo : s + z (off + i.toNat * 1) > most
      · refine Obl.goal (K := Goal P 0 8 Q) mix (fun _ h => h) (cast (more most s i off len cap z _).symm ⟨decide_eq_true hl, decide_eq_true hi, ⟨h0, hl⟩, hin, ?_, ?_, ⟨h0, hl⟩, hin, ?_, bne_self_eq_false s, decide_eq_false (by omega), ?_⟩)
        · rw [w1]; exact decide_eq_false hov
        · rw [w4]; exact decide_eq_true hmo
        · rw [w2]; exact decide_eq_false (by omega)
        · rw [w3]; exact ih (i + 1) s (by omega) (by omega) (by omega) h3 h4
      · refine Obl.goal (K := Goal P 0 8 Q) mix (fun _ h => h) (cast (good most s i off len cap z _).symm ⟨decide_eq_true hl, decide_eq_true hi, ⟨h0, hl⟩, hin, ?_, ?_, ⟨h0, hl⟩, hin, ?_, ⟨h0, hl⟩, hin, bne_self_eq_false _, ?_, ?_⟩)
        · rw [w1]; exact decide_eq_false hov
        · rw [w4]; exact decide_eq_false hmo
        · rw [w2]; exact decide_eq_false (by omega)
        · rw [w4]; exact decide_eq_false (by omega)
        · rw [w3, w4]; exact ih (i + 1) (s + z (off + i.toNat * 1)) (by omega) (by omega) (by omega) (by omega) (by omega)


/-- The law, whatever slice comes in. -/
theorem walk (most : Int) (hm : 0 ≤ most ∧ most ≤ 18446744073709551615) (v : Value) (w : World)
    (hv : v = .slice none 0 0 ∨ ∃ (a : Addr) (len cap : Nat) (zs : List Int), v = .slice (some a) len cap ∧ len ≤ cap ∧ cap ≤ maxLen ∧ zs.length = cap ∧ (∀ i, i < zs.length → w.cell? (a.add i) = some (.int .u64 (zs.getD i 0))) ∧ (∀ n ∈ zs, (Lit.int .u64 n).wf = true)) :
    Calls P 8 #[.int .u64 most, v] w fun r w' => r = .returned (.bool true) ∧ Old w w' := by
  have hG : Globs .leaf w := fun g c e => by cases e
  rcases hv with rfl | ⟨a, len, cap, zs, rfl, hlc, hcm, hzl, hc, hwf⟩
  · exact law_ok (K := fun _ => False) mix (cast (startNil most _).symm ⟨works, rfl⟩) (fun _ h => h.elim) (vs := [.int .u64 most, .slice none 0 0]) hG (fun x hx => absurd hx List.not_mem_nil) ⟨_, _, rfl, rfl, _, _, rfl, rfl, rfl⟩
  · by_cases h0 : cap = 0
    · subst h0
      obtain rfl : len = 0 := by omega
      exact law_ok (K := fun _ => False) mix (cast (startSle most _).symm ⟨works, rfl⟩) (fun _ h => h.elim) (vs := [.int .u64 most, .slice (some a) 0 0]) hG (fun x hx => absurd hx List.not_mem_nil) ⟨_, _, rfl, rfl, _, _, rfl, ⟨a, rfl⟩, rfl⟩
    · obtain ⟨b, off, rfl, hold⟩ := inp_at (w := w) (a := a) (n := cap) (f := fun i => .int .u64 (zs.getD i 0)) (g := fun i => .int .u64 (zs.getD i 0)) (fun i hi => hc i (by omega)) (fun i _ => rfl) (by omega)
      unfold maxLen at hcm
      refine law_ok (K := Goal P 0 8 Q) mix (cast (start most b off len cap (fun j => zs.getD (j - off) 0) _).symm ⟨works, ?_⟩) (fun _ h => h) (vs := [.int .u64 most, .slice (some ⟨b, off, none⟩) len cap]) hG (fun x hx => ?_) ⟨_, _, rfl, rfl, _, _, rfl, ⟨⟨b, 0, 0⟩, by simp [inpBij], Nat.zero_le _, rfl⟩, rfl⟩
      · refine head most hm off len cap (by omega) hlc _ (fun j h1 h2 => ?_) 200 0 0 (by omega) (by omega) (by omega) (by omega) hm.1
        have hj : j - off < zs.length := by omega
        rw [List.getD_eq_getElem?_getD, List.getElem?_eq_getElem hj]
        exact bounds_u64 (hwf _ (List.getElem_mem hj))
      · rcases List.mem_cons.1 hx with rfl | hx
        · exact hold
        · exact absurd hx List.not_mem_nil

end Go.Proofs.Ytioijfmamdnhnaa.tallyNever
