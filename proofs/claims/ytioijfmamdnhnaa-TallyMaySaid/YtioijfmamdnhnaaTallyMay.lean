/- The statement TallyMay: which quotas may be is what the document's answer tells. No condition: it is shown of all quotas and every world. -/
import Derived.Test.YtioijfmamdnhnaaRows
import Derived.Test.YtioijfmamdnhnaaTallyN
import Derived.WalkKit
import Derived.ProofKit
import Derived.OpenShut
namespace Go.Proofs.Ytioijfmamdnhnaa.tallyMay
open Go.ChangeShapes Go.WideShapes Go.ChangeAt Go.RowKit

theorem own : ownKnob Try.prog.godebug = none := by kernel_rfl
theorem c30 : Try.prog.cellsOf 30 = 5 := by kernel_rfl
theorem c3 : Try.prog.cellsOf 3 = 1 := by kernel_rfl
theorem c22 : Try.prog.cellsOf 22 = 1 := by kernel_rfl

section
variable {H : Type} {enc : TypeId × Value → H} {w : World} {base : Nat} {sp : Nat → Bool} {held : Bool}

theorem open_quota {r : Reach} {b0 : Nat} {v : Value} {d : DataW H} {ps : List MemPlace} (hval : Value.okWide Try.prog w r b0 30 v) (hd : DataW.Trod enc Try.prog w base sp held 30 v d ps) :
    ∃ a b c t s : Int, v = .agg #[.int .i64 a, .int .i64 b, .int .i64 c, .int .u64 t, .int .u64 s] ∧ d = .agg [.lit (.int .i64 a), .lit (.int .i64 b), .lit (.int .i64 c), .lit (.int .u64 t), .lit (.int .u64 s)] ∧ ps = [] ∧
      (Lit.int .i64 a).wf = true ∧ (Lit.int .i64 b).wf = true ∧ (Lit.int .i64 c).wf = true ∧ (Lit.int .u64 t).wf = true ∧ (Lit.int .u64 s).wf = true := by
  obtain ⟨⟨l⟩, rfl, hcs⟩ := okWide_struct Try.underlying30 hval
  obtain ⟨fuel, hf⟩ := hd
  obtain ⟨xs, n, rfl, hx, hl, hlen, hel⟩ := DataW.trod_struct Try.underlying30 hf
  rw [c30] at hcs
  have hl5 : l.length = 5 := hcs
  have hx5 : xs.length = 5 := hlen
  match l, hl5, xs, hx5 with
  | [v0, v1, v2, v3, v4], _, [y0, y1, y2, y3, y4], _ =>
    have h0 : DataW.trod enc Try.prog w base sp held n 3 [v0] = some y0 := by simpa [c3, Value.cells] using hel 0 _ rfl
    have h1 : DataW.trod enc Try.prog w base sp held n 3 [v1] = some y1 := by simpa [c3, Value.cells] using hel 1 _ rfl
    have h2 : DataW.trod enc Try.prog w base sp held n 3 [v2] = some y2 := by simpa [c3, Value.cells] using hel 2 _ rfl
    have h3 : DataW.trod enc Try.prog w base sp held n 22 [v3] = some y3 := by simpa [c22, Value.cells] using hel 3 _ rfl
    have h4 : DataW.trod enc Try.prog w base sp held n 22 [v4] = some y4 := by simpa [c22, Value.cells] using hel 4 _ rfl
    obtain ⟨n0, e0, rfl, w0⟩ := DataW.trod_int Try.underlying3 h0
    obtain ⟨n1, e1, rfl, w1⟩ := DataW.trod_int Try.underlying3 h1
    obtain ⟨n2, e2, rfl, w2⟩ := DataW.trod_int Try.underlying3 h2
    obtain ⟨n3, e3, rfl, w3⟩ := DataW.trod_int Try.underlying22 h3
    obtain ⟨n4, e4, rfl, w4⟩ := DataW.trod_int Try.underlying22 h4
    cases e0; cases e1; cases e2; cases e3; cases e4
    cases hx
    exact ⟨n0, n1, n2, n3, n4, rfl, rfl, rfl, w0, w1, w2, w3, w4⟩

theorem shut_quota {a b c t s : Int} (w0 : (Lit.int .i64 a).wf = true) (w1 : (Lit.int .i64 b).wf = true) (w2 : (Lit.int .i64 c).wf = true) (w3 : (Lit.int .u64 t).wf = true) (w4 : (Lit.int .u64 s).wf = true) :
    DataW.Trod enc Try.prog w base sp held 30 (.agg #[.int .i64 a, .int .i64 b, .int .i64 c, .int .u64 t, .int .u64 s]) (.agg [.lit (.int .i64 a), .lit (.int .i64 b), .lit (.int .i64 c), .lit (.int .u64 t), .lit (.int .u64 s)]) [] := by
  have k3 : ∀ x : Int, (Lit.int .i64 x).wf = true → DataW.trod enc Try.prog w base sp held 1 3 [.int .i64 x] = some (.lit (.int .i64 x), []) := fun x h => trod_int_mk 0 Try.underlying3 h
  have k22 : ∀ x : Int, (Lit.int .u64 x).wf = true → DataW.trod enc Try.prog w base sp held 1 22 [.int .u64 x] = some (.lit (.int .u64 x), []) := fun x h => trod_int_mk 0 Try.underlying22 h
  have := trod_struct_mk (enc := enc) (w := w) (base := base) (spare := sp) (held := held) (n := 1) (cs := [.int .i64 a, .int .i64 b, .int .i64 c, .int .u64 t, .int .u64 s])
    (xs := [(.lit (.int .i64 a), []), (.lit (.int .i64 b), []), (.lit (.int .i64 c), []), (.lit (.int .u64 t), []), (.lit (.int .u64 s), [])]) Try.underlying30 (by rw [c30]; rfl)
    (by simp [c3, c22, k3 a w0, k3 b w1, k3 c w2, k22 t w3, k22 s w4])
  exact ⟨2, by simpa [Value.cells] using this⟩

end

theorem walk (a b c t s : Int) (w : World) : Calls Try.prog 4 #[.agg #[.int .i64 a, .int .i64 b, .int .i64 c, .int .u64 t, .int .u64 s]] w fun e w' => e = .returned (.bool true) ∧ Ev.Old w w' :=
  (maylaw_any a b c t s w).mono fun e w' ⟨h1, h2⟩ => ⟨h1, h2.os, h2.tape, h2.output, h2.size, h2.block⟩

/-! ### The row's step -/
set_option maxRecDepth 100000 in
theorem lifted (os : Os) (started : os.Started) (H : Type) (enc : TypeId × Value → H) :
    ReturnsInHanded {} Try.checked os 4 .any (Rows.tallyMaySpec.pre6 enc Try.prog Try.f4 Rows.tallyMayRow.domain false) (Rows.tallyMaySpec.post enc Try.prog Try.f4 false true false false) := by
  refine returnsInHanded_of_change (C := Try.checked) own started (by kernel_rfl) Try.func4
    (ChangeSpec.witness6 (enc := enc) (C := Try.checked) false ⟨#[], #[.agg #[.int .i64 0, .int .i64 0, .int .i64 0, .int .u64 0, .int .u64 0]], []⟩ 8 (by kernel_rfl) (by kernel_rfl) (by kernel_rfl) (by kernel_rfl)) ?_
  intro W base args ds gs before hval0 hW hcnd _
  have hval : ∀ (j : Nat) t v, Try.f4.params[j]? = some t → args[j]? = some v → Value.okWide Try.prog W .any base t v := hval0
  have hW' := hW
  obtain ⟨p, q, hA0, hV, rfl, hfz, hnd⟩ := hW
  have hA : DataW.TrodAll enc Try.prog W 0 (fun _ => true) true Try.f4.params.toList args.toList ds p := hA0
  rw [Try.params4] at hA hval
  obtain ⟨v0, vs0, d0, ds0, p0, q0, hargs, rfl, rfl, h0, r0⟩ := trodAll_cons hA
  obtain ⟨rfl, rfl, rfl⟩ := trodAll_nil r0
  obtain rfl : args = #[v0] := by cases args; simp_all
  obtain ⟨rfl, rfl⟩ := trodVars_none hV
  obtain ⟨a, b, c, t, s, rfl, rfl, rfl, w0, w1, w2, w3, w4⟩ := open_quota (hval 0 30 v0 rfl rfl) h0
  clear hA0 hval0
  simp only [List.append_nil] at hW'
  refine (walk a b c t s W).mono fun e W' ⟨he, hg⟩ => ?_
  subst he
  exact ⟨_, rfl, Ev.post_closed hW' (fun _ _ _ => (trodAll_cons_mk (shut_bool Try.underlying4 _) trodAll_mk0)) (fun sp => (trodAll_cons_mk (shut_quota w0 w1 w2 w3 w4) trodAll_mk0)) (fun _ => rfl)
    hg.kept (ok_one (by kernel_rfl) rfl (okWide_bool_mk Try.underlying4 _))⟩

theorem over : Rows.tallyMayRow.holds Try.pinned (OpenSpec.ofChange Rows.tallyMaySpec) :=
  OpenClaim.holds_of_wide 4 Try.f4 rfl rfl rfl rfl rfl rfl rfl ⟨rfl, rfl, rfl, rfl, rfl⟩ rfl rfl rfl rfl rfl (by kernel_rfl) Try.func4 (by kernel_rfl)
    (of_decide_eq_true (by kernel_rfl)) (by unfold Func.isWrapper; first | (rw [if_pos (by decide +kernel)]; kernel_rfl) | (rw [if_neg (by decide +kernel)]; exact ⟨rfl, rfl⟩))
    (fun os started H enc _ => lifted os started H enc)

/-- The statement. -/
theorem proved : Rows.TallyMaySaid :=
  over
#print axioms proved
end Go.Proofs.Ytioijfmamdnhnaa.tallyMay
