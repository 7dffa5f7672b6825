/- The statement SessLives, where what it reads is of bulk at most 1048576: whatever the secret, the nonce and the three times, the call returns true and leaves all that was there as it was: the token that a login answers is the mark of the document, may be used till it is over, and not from then on, and not when it is logged out. The condition: the one package variable that its row lists holds what it lists; the card ties that to the text of the program. The runs are reckoned by the evaluator of the texts Ev*, which is shown to be followed by the model; the marks are those of the program's Mac, whose value is known of any key and text. -/
import Derived.Test.YthakldccngojaaaDoorRows
import Derived.Test.YthakldccngojaaaDoorEvZ
import Derived.Test.YthakldccngojaaaDoorSessB
import Derived.Test.YthakldccngojaaaDoorShaWi
import Derived.Test.YthakldccngojaaaDoorShaWj
import Derived.Test.YthakldccngojaaaDoorCards
import Derived.Test.YthakldccngojaaaDoorTie
import Derived.SevenTiedAt
import Derived.WalkKit
import Derived.ProofKit
import Derived.OpenShut
import Derived.ChangeMaps5
import Derived.Deep.Grids
import Derived.Deep.DeepHandedRow
import Derived.Deep.DeepWitnessRowRef
set_option maxRecDepth 100000
namespace Go.Proofs.YthakldccngojaaaDoor.sessLives
open Go Go.ChangeShapes Go.WideShapes Go.ChangeAt Go.RowKit Go.ChangeMaps
open Ev shaW

theorem own : ownKnob Tryd.prog.godebug = none := by kernel_rfl

theorem in_arr3 {H : Type} {enc : TypeId × Value → H} {w : World} {b0 : Nat} {v : Value} {d : DataW H} {ps : List MemPlace} (hv : Value.okWide P w .any b0 23 v) (h : DataW.Trod enc P w 0 (fun _ => true) true 23 v d ps) :
    ∃ b : Nat → Int, (∀ i, 0 ≤ b i ∧ b i ≤ 18446744073709551615) ∧ v = .agg (((List.range 3).map fun i => Value.int .u64 (b i)).toArray) := by
  have u23 : P.underlying 23 = some (.array 3 22) := by kernel_rfl
  have c23 : P.cellsOf 23 = 3 := by kernel_rfl
  have c22 : P.cellsOf 22 = 1 := by kernel_rfl
  have u22 : P.underlying 22 = some (.int .u64) := by kernel_rfl
  unfold Value.okWide at hv
  rw [u23] at hv
  obtain ⟨⟨l⟩, rfl, hl, _⟩ := hv
  rw [c23] at hl
  have hl : l.length = 3 := hl
  obtain ⟨fuel, h⟩ := h
  obtain ⟨xs, m, rfl, hx, hlen, hxl, hel⟩ := DataW.trod_array u23 h
  have key : ∀ i, i < 3 → ∃ n : Int, l[i]? = some (.int .u64 n) ∧ 0 ≤ n ∧ n ≤ 18446744073709551615 := by
    intro i hi
    have hxi : i < xs.length := by omega
    have hci : i < l.length := by omega
    have h : DataW.trod enc P w 0 (fun _ => true) true m 22 ((l.drop (i * P.cellsOf 22)).take (P.cellsOf 22)) = xs[i]? := hel i hi
    have hone : (l.drop (i * P.cellsOf 22)).take (P.cellsOf 22) = [l[i]] := by
      rw [c22, Nat.mul_one, List.drop_eq_getElem_cons hci]
      rfl
    rw [hone, List.getElem?_eq_getElem hxi] at h
    obtain ⟨n, h1, _, h2⟩ := DataW.trod_int u22 h
    simp only [List.cons.injEq, and_true] at h1
    have := bounds_u64 h2
    exact ⟨n, by rw [List.getElem?_eq_getElem hci, h1], by omega, by omega⟩
  refine ⟨fun i => if hi : i < 3 then (key i hi).choose else 0, fun i => ?_, ?_⟩
  · show 0 ≤ (if hi : i < 3 then (key i hi).choose else 0) ∧ (if hi : i < 3 then (key i hi).choose else 0) ≤ 18446744073709551615
    split
    · rename_i hi
      exact (key i hi).choose_spec.2
    · omega
  · have e : l = (List.range 3).map fun i => Value.int .u64 (if hi : i < 3 then (key i hi).choose else 0) := by
      apply List.ext_getElem?
      intro i
      by_cases hi : i < 3
      · rw [(key i hi).choose_spec.1, List.getElem?_map, List.getElem?_range hi, Option.map_some, dif_pos hi]
      · rw [List.getElem?_eq_none (by omega), List.getElem?_eq_none (by simp; omega)]
    exact congrArg (fun l => Value.agg ⟨l⟩) e

/-! ### The row's step -/
theorem reads (os : Os) {H : Type} (enc : TypeId × Value → H) : ∃ places, DataW.whole enc Tryd.prog ((World.doorLaid Tryd.prog 400 os).forCall (fun _ _ => 0) ⟨#[], #[.string .empty, .string .empty, .agg #[.int .u64 0, .int .u64 0, .int .u64 0]], []⟩).memory Tryd.f3.params.toList Rows.sessLivesSpec.vars false #[.string .empty, .string .empty, .agg #[.int .u64 0, .int .u64 0, .int .u64 0]].toList 8 = some ([.lit (.string []), .lit (.string []), .agg [.lit (.int .u64 0), .lit (.int .u64 0), .lit (.int .u64 0)]], [], places) :=
  ⟨[], by kernel_rfl⟩

set_option maxRecDepth 100000 in
theorem lifted (os : Os) (started : os.Started) (H : Type) (enc : TypeId × Value → H) (F : Stop.Interp) :
    ReturnsInHanded {} Tryd.checked os 3 .any ((Rows.OpenSpec.upto Rows.sessLivesSpec).preRow enc Tryd.prog Tryd.f3 Rows.sessLivesUptoRow.domain false Rows.sessLivesUptoRow.laid) (((Rows.OpenSpec.upto Rows.sessLivesSpec).at F).post enc Tryd.prog Tryd.f3 false true false false) := by
  obtain ⟨places, hx⟩ := reads os enc
  refine returnsInHanded_of_row (C := Tryd.checked) (s := Rows.OpenSpec.upto Rows.sessLivesSpec) own started (by kernel_rfl) Tryd.func3
    (witness_row_atRef (enc := enc) (C := Tryd.checked) false (World.doorLaid Tryd.prog 400 os) #[.string .empty, .string .empty, .agg #[.int .u64 0, .int .u64 0, .int .u64 0]] rfl (by kernel_rfl) (by kernel_rfl) (by kernel_rfl)
      (OpenSpec.preRow_of_cond 8 hx (by kernel_rfl) (fun k hk => by cases hk; kernel_rfl) (by kernel_rfl) (door_met os _))) ?_
  intro W base args ds gs before hval0 hW _ hcond _ hL _ _
  have hval : ∀ (j : Nat) t v, Tryd.f3.params[j]? = some t → args[j]? = some v → Value.okWide Tryd.prog W .any base t v := hval0
  have hW' := hW
  have hbulk := of_decide_eq_true (hcond _ rfl)
  obtain ⟨p, q, hA0, hV, rfl, hfz, hnd⟩ := hW
  have hA : DataW.TrodAll enc Tryd.prog W 0 (fun _ => true) true Tryd.f3.params.toList args.toList ds p := hA0
  rw [Tryd.params3] at hA hval
  obtain ⟨v0, vs0, d0, ds0, p0, q0, hargs, rfl, rfl, h0, r0⟩ := trodAll_cons hA
  obtain ⟨v1, vs1, d1, ds1, p1, q1, rfl, rfl, rfl, h1, r1⟩ := trodAll_cons r0
  obtain ⟨v2, vs2, d2, ds2, p2, q2, rfl, rfl, rfl, h2, r2⟩ := trodAll_cons r1
  obtain ⟨rfl, rfl, rfl⟩ := trodAll_nil r2
  obtain rfl : args = #[v0, v1, v2] := by cases args; simp_all
  obtain ⟨rfl, rfl⟩ := trodVars_none hV
  obtain ⟨a0, rfl, rfl, rfl, w0⟩ := open_string Tryd.underlying9 (hval 0 9 v0 rfl rfl) h0
  obtain ⟨a1, rfl, rfl, rfl, w1⟩ := open_string Tryd.underlying9 (hval 1 9 v1 rfl rfl) h1
  obtain ⟨a2, w2, rfl⟩ := in_arr3 (hval 2 23 v2 rfl rfl) h2
  simp only [List.append_nil, Rows.uptoBulkAll, Rows.uptoBulk] at hbulk
  refine (walk a0 a1 a2 w2 W (by omega) (globK (globs hL))).mono fun e W' ⟨he, hg⟩ => ?_
  subst he
  exact ⟨_, rfl, Ev.post_law (by kernel_rfl) (by kernel_rfl) rfl Tryd.underlying4 rfl hW' rfl hg⟩

theorem over : Rows.sessLivesUptoRow.holds Tryd.pinned (Rows.OpenSpec.upto Rows.sessLivesSpec) :=
  OpenClaim.holds_of_cond 3 Tryd.f3 rfl rfl rfl rfl rfl rfl rfl ⟨rfl, rfl, rfl, rfl, rfl⟩ rfl rfl rfl rfl rfl (by kernel_rfl) Tryd.func3 (by kernel_rfl)
    (of_decide_eq_true (by kernel_rfl)) (by unfold Func.isWrapper; first | (rw [if_pos (by decide +kernel)]; kernel_rfl) | (rw [if_neg (by decide +kernel)]; exact ⟨rfl, rfl⟩))
    (fun os started H enc _ F => by rw [OpenClaim.pre_eq_preRow]; exact lifted os started H enc F)

/-- The statement's row. -/
theorem row : Rows.SessLivesUptoSaid :=
  over

set_option maxRecDepth 100000 in
/-- The statement, its row tied to the text of the program. -/
theorem proved : Rows.SessLivesUptoCardSaid :=
  Claim7.holds_tied_plain_at .later [] [.data] true (true, "7ac9616456832989c98e70abb23790411b4db91766a6622886fd5e4daf5c5193") false
    row (fun _ h => by cases h) (by kernel_rfl) (fun _ h => by cases h) sessLivesUpto_row_tie rfl ⟨rfl, rfl⟩ (by kernel_rfl) rfl
    (fun f fn hf hfn => by
      obtain rfl : f = 3 := Option.some.inj ((show Tryd.prog.funcNamed "lodger/lodgerlaw08.SessLives" = some 3 by kernel_rfl).symm.trans hf) |>.symm
      obtain rfl : fn = Tryd.f3 := (Option.some.inj (Tryd.func3.symm.trans hfn)).symm
      exact ⟨by kernel_rfl, fun j t ht => by
        rw [Tryd.params3] at ht
        have : t = 9 ∨ t = 23 := by
          rcases j with _ | _ | _ | j
          · exact .inl (by simpa using ht.symm)
          · exact .inl (by simpa using ht.symm)
          · exact .inr (by simpa using ht.symm)
          · simp at ht
        rcases this with rfl | rfl
        · exact (show Tryd.prog.wantsStandIn 9 = false by kernel_rfl)
        · exact (show Tryd.prog.wantsStandIn 23 = false by kernel_rfl)⟩)
    (by kernel_rfl)
#print axioms proved
end Go.Proofs.YthakldccngojaaaDoor.sessLives
