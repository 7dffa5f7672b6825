/- Whatever is charged, a meter tells what the document's answer does: the loop of the statement TallyCharges, from head to head. Every run is reckoned by the kernel; what has to be shown of each is listed with it. -/
import Derived.Test.YtioijfmamdnhnaaEvSc
import Derived.Test.YtioijfmamdnhnaaRows
import Derived.IntWalk
set_option maxRecDepth 100000
namespace Go.Proofs.Ytioijfmamdnhnaa.tallyCharges
open Go Ev

noncomputable abbrev P : Program := Try.prog
noncomputable abbrev Q : AV → AHeap → Prop := fun v _ => v = .bool true
noncomputable def M (most s i : Int) (off len cap : Nat) (z : Nat → Int) : AM := 
⟨⟨5, 55, (.node (.node (.node (.node .leaf (some (.int .i64 i)) .leaf) none .leaf) (some (.slc 0 0 off len cap)) (.node .leaf (some (.ptr 1 0 0)) .leaf)) none (.node .leaf none (.node .leaf (some (.ptr 2 0 0)) .leaf))),
   [.code (cd P 5 [1, 1, 0, 1, 0, 0]), .inLoop (cd P 5 [1, 1, 0, 1, 0, 0]), .inBlock 0, .code (cd P 5 [1, 1, 1])], [], .run, CallKind.normal, none⟩,
  [],
  ⟨(.node (.node .leaf (some (.cells (.node (.node .leaf (some (.int .u64 s)) .leaf) (some (.int .u64 most)) .leaf) 2 50 0 0 1 0 false .leaf)) .leaf) (some (.ro (.fn fun j => some (AV.int IntKind.u64 (z j))) off (off + cap))) (.node .leaf (some (.cells (.node (.node .leaf (some (.int .u64 s)) .leaf) (some (.int .u64 most)) .leaf) 2 37 0 0 1 0 false .leaf)) .leaf)), 3, .leaf⟩⟩

theorem start (most : Int) (b off len cap : Nat) (z : Nat → Int) (K : AM → Prop) : optK ((startL P 5 [.int .u64 most, .slc 0 0 off len cap] [⟨b, .fn (fun j => some (.int .u64 (z j))), off, off + cap⟩] .leaf)) (Obl P 5 Q 0 K [.run 34, .can 0 [0, 1, 2] [1, 5, 6, 7] []]) = (K (M most (Int.ofNat 0) (Int.ofNat 0) off len cap z)) := by kernel_rfl

theorem roundyyy (most s i : Int) (off len cap : Nat) (z : Nat → Int) (K : AM → Prop) : Obl P 5 Q 0 K [.run 8, .know 17 true, .run 4, .know 20 true, .run 9, .op, .op, .run 3, .op, .op, .run 58, .know 7 true, .run 41, .step, .run 26, .know 9 true, .run 64, .step, .run 3, .know 44 false, .run 9, .can 0 [0, 1, 2] [1, 5, 6, 7] []] ((M most s i off len cap z)) = ((decide (i < ↑len) = true) ∧ (decide (i < 200) = true) ∧ (0 ≤ i ∧ i < ↑len) ∧ (off ≤ off + i.toNat * 1 ∧ off + i.toNat * 1 + 1 ≤ off + cap) ∧ (0 ≤ i ∧ i < ↑len) ∧ (off ≤ off + i.toNat * 1 ∧ off + i.toNat * 1 + 1 ≤ off + cap) ∧ (decide (s > IntKind.u64.wrap (18446744073709551615 - z (off + i.toNat * 1))) = true) ∧ (off ≤ off + i.toNat * 1 ∧ off + i.toNat * 1 + 1 ≤ off + cap) ∧ (AV.int IntKind.u64 (z (off + i.toNat * 1)) = AV.int IntKind.u64 (z (off + i.toNat * 1))) ∧ (decide (s > IntKind.u64.wrap (18446744073709551615 - z (off + i.toNat * 1))) = true) ∧ (some (AV.int IntKind.u64 s) = some (AV.int IntKind.u64 s)) ∧ ((s != s) = false) ∧ K (M most s (IntKind.i64.wrap (i + 1)) off len cap z)) := by kernel_rfl

theorem roundyyny (most s i : Int) (off len cap : Nat) (z : Nat → Int) (K : AM → Prop) : Obl P 5 Q 0 K [.run 8, .know 17 true, .run 4, .know 20 true, .run 9, .op, .op, .run 3, .op, .op, .run 58, .know 7 false, .run 51, .know 27 true, .run 6, .step, .run 26, .know 9 false, .run 32, .know 25 true, .run 36, .step, .run 3, .know 44 false, .run 9, .can 0 [0, 1, 2] [1, 5, 6, 7] []] ((M most s i off len cap z)) = ((decide (i < ↑len) = true) ∧ (decide (i < 200) = true) ∧ (0 ≤ i ∧ i < ↑len) ∧ (off ≤ off + i.toNat * 1 ∧ off + i.toNat * 1 + 1 ≤ off + cap) ∧ (0 ≤ i ∧ i < ↑len) ∧ (off ≤ off + i.toNat * 1 ∧ off + i.toNat * 1 + 1 ≤ off + cap) ∧ (decide (s > IntKind.u64.wrap (18446744073709551615 - z (off + i.toNat * 1))) = false) ∧ (decide (IntKind.u64.wrap (s + z (off + i.toNat * 1)) > most) = true) ∧ (off ≤ off + i.toNat * 1 ∧ off + i.toNat * 1 + 1 ≤ off + cap) ∧ (AV.int IntKind.u64 (z (off + i.toNat * 1)) = AV.int IntKind.u64 (z (off + i.toNat * 1))) ∧ (decide (s > IntKind.u64.wrap (18446744073709551615 - z (off + i.toNat * 1))) = false) ∧ (decide (IntKind.u64.wrap (s + z (off + i.toNat * 1)) > most) = true) ∧ (some (AV.int IntKind.u64 s) = some (AV.int IntKind.u64 s)) ∧ ((s != s) = false) ∧ K (M most s (IntKind.i64.wrap (i + 1)) off len cap z)) := by kernel_rfl

theorem roundyynn (most s i : Int) (off len cap : Nat) (z : Nat → Int) (K : AM → Prop) : Obl P 5 Q 0 K [.run 8, .know 17 true, .run 4, .know 20 true, .run 9, .op, .op, .run 3, .op, .op, .run 58, .know 7 false, .run 51, .know 27 false, .run 15, .step, .run 26, .know 9 false, .run 32, .know 25 false, .run 45, .step, .run 3, .know 44 false, .run 9, .can 0 [0, 1, 2] [1, 5, 6, 7] []] ((M most s i off len cap z)) = ((decide (i < ↑len) = true) ∧ (decide (i < 200) = true) ∧ (0 ≤ i ∧ i < ↑len) ∧ (off ≤ off + i.toNat * 1 ∧ off + i.toNat * 1 + 1 ≤ off + cap) ∧ (0 ≤ i ∧ i < ↑len) ∧ (off ≤ off + i.toNat * 1 ∧ off + i.toNat * 1 + 1 ≤ off + cap) ∧ (decide (s > IntKind.u64.wrap (18446744073709551615 - z (off + i.toNat * 1))) = false) ∧ (decide (IntKind.u64.wrap (s + z (off + i.toNat * 1)) > most) = false) ∧ (off ≤ off + i.toNat * 1 ∧ off + i.toNat * 1 + 1 ≤ off + cap) ∧ (AV.int IntKind.u64 (z (off + i.toNat * 1)) = AV.int IntKind.u64 (z (off + i.toNat * 1))) ∧ (decide (s > IntKind.u64.wrap (18446744073709551615 - z (off + i.toNat * 1))) = false) ∧ (decide (IntKind.u64.wrap (s + z (off + i.toNat * 1)) > most) = false) ∧ (some (AV.int IntKind.u64 (IntKind.u64.wrap (s + z (off + i.toNat * 1)))) = some (AV.int IntKind.u64 (IntKind.u64.wrap (s + z (off + i.toNat * 1))))) ∧ ((IntKind.u64.wrap (s + z (off + i.toNat * 1)) != IntKind.u64.wrap (s + z (off + i.toNat * 1))) = false) ∧ K (M most (IntKind.u64.wrap (s + z (off + i.toNat * 1))) (IntKind.i64.wrap (i + 1)) off len cap z)) := by kernel_rfl

theorem roundyn (most s i : Int) (off len cap : Nat) (z : Nat → Int) (_K : AM → Prop) : Obl P 5 Q 0 _K [.run 8, .know 17 true, .run 4, .know 20 false, .run 31, .step, .run 2, .know 52 true, .run 1, (.callv [] (.bool true)), .run 4, .done] ((M most s i off len cap z)) = ((decide (i < ↑len) = true) ∧ (decide (i < 200) = false) ∧ (some (AV.int IntKind.u64 s) = some (AV.int IntKind.u64 s)) ∧ ((s == s) = true) ∧ (Goal P 0 16 (fun x x_1 => x = AV.bool true) (startM P 16 [] .leaf)) ∧ (AV.bool true = AV.bool true)) := by kernel_rfl

theorem roundn (most s i : Int) (off len cap : Nat) (z : Nat → Int) (_K : AM → Prop) : Obl P 5 Q 0 _K [.run 8, .know 17 false, .run 35, .step, .run 2, .know 52 true, .run 1, (.callv [] (.bool true)), .run 4, .done] ((M most s i off len cap z)) = ((decide (i < ↑len) = false) ∧ (some (AV.int IntKind.u64 s) = some (AV.int IntKind.u64 s)) ∧ ((s == s) = true) ∧ (Goal P 0 16 (fun x x_1 => x = AV.bool true) (startM P 16 [] .leaf)) ∧ (AV.bool true = AV.bool true)) := by kernel_rfl

theorem startNil (most : Int) (_K : AM → Prop) : optK ((startL P 5 [.int .u64 most, .nils 0 0] [] .leaf)) (Obl P 5 Q 0 _K [.run 81, (.callv [] (.bool true)), .run 4, .done]) = ((Goal P 0 16 (fun x x_1 => x = AV.bool true) (startM P 16 [] .leaf)) ∧ (AV.bool true = AV.bool true)) := by kernel_rfl

theorem startSle (most : Int) (_K : AM → Prop) : optK ((startL P 5 [.int .u64 most, .sle] [] .leaf)) (Obl P 5 Q 0 _K [.run 81, (.callv [] (.bool true)), .run 4, .done]) = ((Goal P 0 16 (fun x x_1 => x = AV.bool true) (startM P 16 [] .leaf)) ∧ (AV.bool true = AV.bool true)) := by kernel_rfl

theorem mix : P.follows .mixedOrders = true := Checked.mixed Try.checked

theorem works : Goal P 0 16 (fun x _ => x = AV.bool true) (startM P 16 [] .leaf) :=
  Goal.ofRun mix (n := 6000) (v := .bool true) (by kernel_rfl) fun _ => rfl

theorem head (most : Int) (hm : 0 ≤ most ∧ most ≤ 18446744073709551615) (off len cap : Nat) (hlen : len ≤ 9223372036854775807) (hcap : len ≤ cap) (z : Nat → Int) (hz : ∀ j, off ≤ j → j < off + len → 0 ≤ z j ∧ z j ≤ 18446744073709551615) :
    ∀ (d : Nat) (i s : Int), 0 ≤ i → i ≤ 200 → 200 - i ≤ d → 0 ≤ s → s ≤ most → Goal P 0 5 Q (M most s i off len cap z) := by
  intro d
  induction d with
  | zero =>
    intro i s h0 h1 h2 h3 h4
    by_cases hl : i < len
    · refine Obl.goal (K := fun _ => False) mix (fun _ h => h.elim) (cast (roundyn most s i off len cap z _).symm ?_)
      and_intros <;> first | exact works | rfl | exact beq_self_eq_true s | exact decide_eq_true hl | exact decide_eq_false (by omega)
    · refine Obl.goal (K := fun _ => False) mix (fun _ h => h.elim) (cast (roundn most s i off len cap z _).symm ?_)
      and_intros <;> first | exact works | rfl | exact beq_self_eq_true s | exact decide_eq_false hl
  | succ d ih =>
    intro i s h0 h1 h2 h3 h4
    by_cases hl : i < len
    rotate_left
    · refine Obl.goal (K := fun _ => False) mix (fun _ h => h.elim) (cast (roundn most s i off len cap z _).symm ?_)
      and_intros <;> first | exact works | rfl | exact beq_self_eq_true s | exact decide_eq_false hl
    by_cases hi : i < 200
    rotate_left
    · refine Obl.goal (K := fun _ => False) mix (fun _ h => h.elim) (cast (roundyn most s i off len cap z _).symm ?_)
      and_intros <;> first | exact works | rfl | exact beq_self_eq_true s | exact decide_eq_true hl | exact decide_eq_false hi
    obtain ⟨hx0, hx1⟩ := hz (off + i.toNat * 1) (by omega) (by omega)
    have w1 : IntKind.u64.wrap (18446744073709551615 - z (off + i.toNat * 1)) = 18446744073709551615 - z (off + i.toNat * 1) := IntWalk.u64_in _ (by omega)
    have w3 : IntKind.i64.wrap (i + 1) = i + 1 := IntWalk.i64_in _ (by omega)
    by_cases hov : s > 18446744073709551615 - z (off + i.toNat * 1)
    · refine Obl.goal (K := Goal P 0 5 Q) mix (fun _ h => h) (cast (roundyyy most s i off len cap z _).symm ?_)
      rw [w1, w3]
      have hk := ih (i + 1) s (by omega) (by omega) (by omega) h3 h4
      and_intros <;> first | exact hk | rfl | exact bne_self_eq_false s | exact decide_eq_true (by omega) | omega
    · have w4 : IntKind.u64.wrap (s + z (off + i.toNat * 1)) = s + z (off + i.toNat * 1) := IntWalk.u64_in _ (by omega)
      by_cases hmo : s + z (off + i.toNat * 1) > most
      · refine Obl.goal (K := Goal P 0 5 Q) mix (fun _ h => h) (cast (roundyyny most s i off len cap z _).symm ?_)
        rw [w1, w3, w4]
        have hk := ih (i + 1) s (by omega) (by omega) (by omega) h3 h4
        and_intros <;> first | exact hk | rfl | exact bne_self_eq_false s | exact decide_eq_true (by omega) | exact decide_eq_false (by omega) | omega
      · refine Obl.goal (K := Goal P 0 5 Q) mix (fun _ h => h) (cast (roundyynn most s i off len cap z _).symm ?_)
        rw [w1, w3, w4]
        have hk := ih (i + 1) (s + z (off + i.toNat * 1)) (by omega) (by omega) (by omega) (by omega) (by omega)
        and_intros <;> first | exact hk | rfl | exact bne_self_eq_false _ | exact decide_eq_true (by omega) | exact decide_eq_false (by omega) | omega

/-- The law, whatever slice comes in. -/
theorem walk (most : Int) (hm : 0 ≤ most ∧ most ≤ 18446744073709551615) (v : Value) (w : World)
    (hv : v = .slice none 0 0 ∨ ∃ (a : Addr) (len cap : Nat) (zs : List Int), v = .slice (some a) len cap ∧ len ≤ cap ∧ cap ≤ maxLen ∧ zs.length = cap ∧ (∀ i, i < zs.length → w.cell? (a.add i) = some (.int .u64 (zs.getD i 0))) ∧ (∀ n ∈ zs, (Lit.int .u64 n).wf = true)) :
    Calls P 5 #[.int .u64 most, v] w fun r w' => r = .returned (.bool true) ∧ Old w w' := by
  have hG : Globs .leaf w := fun g c e => by cases e
  rcases hv with rfl | ⟨a, len, cap, zs, rfl, hlc, hcm, hzl, hc, hwf⟩
  · exact law_ok (K := fun _ => False) mix (cast (startNil most _).symm ⟨works, rfl⟩) (fun _ h => h.elim) (vs := [.int .u64 most, .slice none 0 0]) hG (fun x hx => absurd hx List.not_mem_nil) ⟨_, _, rfl, rfl, _, _, rfl, rfl, rfl⟩
  · by_cases h0 : cap = 0
    · subst h0
      obtain rfl : len = 0 := by omega
      exact law_ok (K := fun _ => False) mix (cast (startSle most _).symm ⟨works, rfl⟩) (fun _ h => h.elim) (vs := [.int .u64 most, .slice (some a) 0 0]) hG (fun x hx => absurd hx List.not_mem_nil) ⟨_, _, rfl, rfl, _, _, rfl, ⟨a, rfl⟩, rfl⟩
    · obtain ⟨b, off, rfl, hold⟩ := inp_at (w := w) (a := a) (n := cap) (f := fun i => .int .u64 (zs.getD i 0)) (g := fun i => .int .u64 (zs.getD i 0)) (fun i hi => hc i (by omega)) (fun i _ => rfl) (by omega)
      unfold maxLen at hcm
      refine law_ok (K := Goal P 0 5 Q) mix (cast (start most b off len cap (fun j => zs.getD (j - off) 0) _).symm ?_) (fun _ h => h) (vs := [.int .u64 most, .slice (some ⟨b, off, none⟩) len cap]) hG (fun x hx => ?_) ⟨_, _, rfl, rfl, _, _, rfl, ⟨⟨b, 0, 0⟩, by simp [inpBij], Nat.zero_le _, rfl⟩, rfl⟩
      · refine head most hm off len cap (by omega) hlc _ (fun j h1 h2 => ?_) 200 0 0 (by omega) (by omega) (by omega) (by omega) hm.1
        have hj : j - off < zs.length := by omega
        rw [List.getD_eq_getElem?_getD, List.getElem?_eq_getElem hj]
        exact bounds_u64 (hwf _ (List.getElem_mem hj))
      · rcases List.mem_cons.1 hx with rfl | hx
        · exact hold
        · exact absurd hx List.not_mem_nil

end Go.Proofs.Ytioijfmamdnhnaa.tallyCharges
