/- The statement MacIs, where what it reads is of bulk at most 1048576: whatever the key and the bytes, the call returns true and leaves all that was there as it was: the program's mark is the document's, and the chapter's row holds. The condition: the one package variable that its row lists holds what it lists; the card ties that to the text of the program. The runs are reckoned by the evaluator of the texts Ev*, which are shown to be the model's; the loops are inductions. -/
import Derived.Test.YtledohmkjgmooaaDoorRows
import Derived.Test.YtledohmkjgmooaaDoorEvZ
import Derived.Test.YtledohmkjgmooaaDoorMacWb
import Derived.Test.YtledohmkjgmooaaDoorCards
import Derived.Test.YtledohmkjgmooaaDoorTie
import Derived.SevenTiedAt
import Derived.WalkKit
import Derived.ProofKit
import Derived.OpenShut
import Derived.ChangeMaps5
import Derived.Deep.Grids
import Derived.Deep.DeepHandedRow
import Derived.Deep.DeepWitnessRowRef
set_option maxRecDepth 100000
namespace Go.Proofs.YtledohmkjgmooaaDoor.macIs
open Go Go.ChangeShapes Go.WideShapes Go.ChangeAt Go.RowKit Go.ChangeMaps
open Ev shaW

theorem own : ownKnob Tryd.prog.godebug = none := by kernel_rfl

theorem law (key s : List UInt8) (f : Nat → Int) (_K : AM → Prop) : optK (startL P 6 [.str key, .str s] [] GK) (Obl P 6 (fun v _ => v = .bool true) 0 _K [.run 9, .callv [0, 1] (sm f), .run 3, .callv [0, 1] (sm f), .res (.val (.bool true) ⟨.leaf, 0, GK⟩), .run 2, .callv [] (.bool true), .run 4, .done]) =
  ((Goal P 0 12 (fun x _ => x = sm f) (startM P 12 [.str key, .str s] GK)) ∧ (Goal P 0 13 (fun x _ => x = sm f) (startM P 13 [.str key, .str s] GK)) ∧ (valE ⟨.leaf, 0, GK⟩ (binA P ⟨.leaf, 0, GK⟩ .eql 22 false (sm f) (sm f)) = some (.val (.bool true) ⟨.leaf, 0, GK⟩)) ∧
    (Goal P 0 14 (fun x _ => x = AV.bool true) (startM P 14 [] GK)) ∧ (AV.bool true = AV.bool true)) := by kernel_rfl

theorem walk (a0 a1 : ByteArray) (w : World) (_ : a0.size ≤ maxLen) (_ : a1.size ≤ maxLen) (hb : a0.data.toList.length + a1.data.toList.length ≤ 1048576) (hG : Globs GK w) : Calls P 6 #[.string a0, .string a1] w fun r w' => r = .returned (.bool true) ∧ Old w w' := by
  have h1 : a0.data.toList.length < 2 ^ 40 - 200 := by omega
  have h2 : a1.data.toList.length < 2 ^ 40 - 400 := by omega
  let key := a0.data.toList
  let s := a1.data.toList
  exact law_ok (K := Goal P 0 6 _) mix (cast (law key s (sb (out key s)) _).symm ⟨mac_ok key s h1 h2, rmac_ok key s h1 h2, eq_ok _ _, works4_ok, rfl⟩) (fun _ h => h) (vs := [.string a0, .string a1]) hG (fun _ hx => absurd hx List.not_mem_nil) ⟨_, _, rfl, str_rel _ _, _, _, rfl, str_rel _ _, rfl⟩

/-! ### The row's step -/
theorem reads (os : Os) {H : Type} (enc : TypeId × Value → H) : ∃ places, DataW.whole enc Tryd.prog ((World.doorLaid Tryd.prog 400 os).forCall (fun _ _ => 0) ⟨#[], #[.string .empty, .string .empty], []⟩).memory Tryd.f6.params.toList Rows.macIsSpec.vars false #[.string .empty, .string .empty].toList 8 = some ([.lit (.string []), .lit (.string [])], [], places) :=
  ⟨[], by kernel_rfl⟩

set_option maxRecDepth 100000 in
theorem lifted (os : Os) (started : os.Started) (H : Type) (enc : TypeId × Value → H) (F : Stop.Interp) :
    ReturnsInHanded {} Tryd.checked os 6 .any ((Rows.OpenSpec.upto Rows.macIsSpec).preRow enc Tryd.prog Tryd.f6 Rows.macIsUptoRow.domain false Rows.macIsUptoRow.laid) (((Rows.OpenSpec.upto Rows.macIsSpec).at F).post enc Tryd.prog Tryd.f6 false true false false) := by
  obtain ⟨places, hx⟩ := reads os enc
  refine returnsInHanded_of_row (C := Tryd.checked) (s := Rows.OpenSpec.upto Rows.macIsSpec) own started (by kernel_rfl) Tryd.func6
    (witness_row_atRef (enc := enc) (C := Tryd.checked) false (World.doorLaid Tryd.prog 400 os) #[.string .empty, .string .empty] rfl (by kernel_rfl) (by kernel_rfl) (by kernel_rfl)
      (OpenSpec.preRow_of_cond 8 hx (by kernel_rfl) (fun k hk => by cases hk; kernel_rfl) (by kernel_rfl) (door_met os _))) ?_
  intro W base args ds gs before hval0 hW _ hcond _ hL _ _
  have hval : ∀ (j : Nat) t v, Tryd.f6.params[j]? = some t → args[j]? = some v → Value.okWide Tryd.prog W .any base t v := hval0
  have hW' := hW
  have hbulk := of_decide_eq_true (hcond _ rfl)
  obtain ⟨p, q, hA0, hV, rfl, hfz, hnd⟩ := hW
  have hA : DataW.TrodAll enc Tryd.prog W 0 (fun _ => true) true Tryd.f6.params.toList args.toList ds p := hA0
  rw [Tryd.params6] at hA hval
  obtain ⟨v0, vs0, d0, ds0, p0, q0, hargs, rfl, rfl, h0, r0⟩ := trodAll_cons hA
  obtain ⟨v1, vs1, d1, ds1, p1, q1, rfl, rfl, rfl, h1, r1⟩ := trodAll_cons r0
  obtain ⟨rfl, rfl, rfl⟩ := trodAll_nil r1
  obtain rfl : args = #[v0, v1] := by cases args; simp_all
  obtain ⟨rfl, rfl⟩ := trodVars_none hV
  obtain ⟨a0, rfl, rfl, rfl, w0⟩ := open_string Tryd.underlying9 (hval 0 9 v0 rfl rfl) h0
  obtain ⟨a1, rfl, rfl, rfl, w1⟩ := open_string Tryd.underlying9 (hval 1 9 v1 rfl rfl) h1
  simp only [List.append_nil, Rows.uptoBulkAll, Rows.uptoBulk] at hbulk
  refine (walk a0 a1 W w0 w1 (by omega) (globK (globs hL))).mono fun e W' ⟨he, hg⟩ => ?_
  subst he
  exact ⟨_, rfl, Ev.post_law (by kernel_rfl) (by kernel_rfl) rfl Tryd.underlying4 rfl hW' rfl hg⟩

theorem over : Rows.macIsUptoRow.holds Tryd.pinned (Rows.OpenSpec.upto Rows.macIsSpec) :=
  OpenClaim.holds_of_cond 6 Tryd.f6 rfl rfl rfl rfl rfl rfl rfl ⟨rfl, rfl, rfl, rfl, rfl⟩ rfl rfl rfl rfl rfl (by kernel_rfl) Tryd.func6 (by kernel_rfl)
    (of_decide_eq_true (by kernel_rfl)) (by unfold Func.isWrapper; first | (rw [if_pos (by decide +kernel)]; kernel_rfl) | (rw [if_neg (by decide +kernel)]; exact ⟨rfl, rfl⟩))
    (fun os started H enc _ F => by rw [OpenClaim.pre_eq_preRow]; exact lifted os started H enc F)

/-- The statement's row. -/
theorem row : Rows.MacIsUptoSaid :=
  over

set_option maxRecDepth 100000 in
/-- The statement, its row tied to the text of the program. -/
theorem proved : Rows.MacIsUptoCardSaid :=
  Claim7.holds_tied_plain_at .later [] [.data] true (true, "00a480067bf7779466c225fce9181c66be2bbf036ea5eb1f3502e139b72e3739") false
    row (fun _ h => by cases h) (by kernel_rfl) (fun _ h => by cases h) macIsUpto_row_tie rfl ⟨rfl, rfl⟩ (by kernel_rfl) rfl
    (fun f fn hf hfn => by
      obtain rfl : f = 6 := Option.some.inj ((show Tryd.prog.funcNamed "lodger/lodgerlaw04.MacIs" = some 6 by kernel_rfl).symm.trans hf) |>.symm
      obtain rfl : fn = Tryd.f6 := (Option.some.inj (Tryd.func6.symm.trans hfn)).symm
      exact ⟨by kernel_rfl, fun j t ht => by
        rw [Tryd.params6] at ht
        obtain rfl : t = 9 := by
          rcases j with _ | _ | j
          · simpa using ht.symm
          · simpa using ht.symm
          · simp at ht
        kernel_rfl⟩)
    (by kernel_rfl)
#print axioms proved
end Go.Proofs.YtledohmkjgmooaaDoor.macIs
