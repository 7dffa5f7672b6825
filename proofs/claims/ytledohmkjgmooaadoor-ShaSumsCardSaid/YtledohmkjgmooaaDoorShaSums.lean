/- The statement ShaSums: whatever the text, the call returns true and leaves all that was there as it was: the program's sum of its first 2000 bytes is the document's, and the chapter's row holds. The condition: the one package variable that its row lists holds what it lists; the card ties that to the text of the program. The runs are reckoned by the evaluator of the texts Ev*, which are shown to be the model's; the loops over words, rounds and blocks are inductions. -/
import Derived.Test.YtledohmkjgmooaaDoorRows
import Derived.Test.YtledohmkjgmooaaDoorEvZ
import Derived.Test.YtledohmkjgmooaaDoorShaWi
import Derived.Test.YtledohmkjgmooaaDoorCards
import Derived.Test.YtledohmkjgmooaaDoorTie
import Derived.SevenTiedAt
import Derived.WalkKit
import Derived.ProofKit
import Derived.OpenShut
import Derived.ChangeMaps5
import Derived.Deep.Grids
set_option maxRecDepth 100000
namespace Go.Proofs.YtledohmkjgmooaaDoor.shaSums
open Go Go.ChangeShapes Go.WideShapes Go.ChangeAt Go.RowKit Go.ChangeMaps
open Ev shaW

theorem own : ownKnob Tryd.prog.godebug = none := by kernel_rfl

def lim (n : Nat) : Int := if decide ((2000 : Int) < (n : Int)) = true then 2000 else (n : Int)

theorem lim_ok (n : Nat) : 0 ≤ lim n ∧ lim n ≤ (n : Int) ∧ lim n ≤ 2000 := by
  unfold lim
  by_cases h : (2000 : Int) < n
  · rw [if_pos (decide_eq_true h)]; omega
  · rw [if_neg (by simpa using h)]; omega

theorem law (s : List UInt8) (f : Nat → Int) (_K : AM → Prop) : optK (startL P 3 [.str s] [] GK) (Obl P 3 (fun v _ => v = .bool true) 0 _K [.run 10, .op, .run 6, .callv [0] (sm f), .run 2, .callv [0] (sm f), .res (.val (.bool true) ⟨.leaf, 0, GK⟩), .run 2, .callv [] (.bool true), .run 4, .done]) =
  ((0 ≤ lim s.length ∧ lim s.length ≤ (s.length : Int)) ∧ (Goal P 0 9 (fun x _ => x = sm f) (startM P 9 [.str (List.take ((lim s.length).toNat - 0) (List.drop 0 s))] GK)) ∧ (Goal P 0 10 (fun x _ => x = sm f) (startM P 10 [.str (List.take ((lim s.length).toNat - 0) (List.drop 0 s))] GK)) ∧
    (valE ⟨.leaf, 0, GK⟩ (binA P ⟨.leaf, 0, GK⟩ .eql 22 false (sm f) (sm f)) = some (.val (.bool true) ⟨.leaf, 0, GK⟩)) ∧ (Goal P 0 11 (fun x _ => x = AV.bool true) (startM P 11 [] GK)) ∧ (AV.bool true = AV.bool true)) := by kernel_rfl

theorem walk (a0 : ByteArray) (w : World) (_ : a0.size ≤ maxLen) (hG : Globs GK w) : Calls P 3 #[.string a0] w fun r w' => r = .returned (.bool true) ∧ Old w w' := by
  let s := a0.data.toList
  have hl := lim_ok s.length
  have ht : (List.take ((lim s.length).toNat - 0) (List.drop 0 s)).length < 2 ^ 40 - 200 := by
    rw [List.length_take]; omega
  exact law_ok (K := Goal P 0 3 _) mix (cast (law s (sb _) _).symm ⟨⟨hl.1, hl.2.1⟩, sum_sm _ ht, sumR_sm GK _ ht, eq_ok _ _, works3_ok, rfl⟩) (fun _ h => h) (vs := [.string a0]) hG (fun _ hx => absurd hx List.not_mem_nil) ⟨_, _, rfl, str_rel _ _, rfl⟩

/-! ### The row's step -/
set_option maxRecDepth 100000 in
theorem lifted (os : Os) (started : os.Started) (H : Type) (enc : TypeId × Value → H) :
    ReturnsInHanded {} Tryd.checked os 3 .any (fun w args => (Rows.shaSumsSpec.pre enc Tryd.prog Tryd.f3 [] false w args ∧ laidMetH Tryd.prog [("lodger/sha.roundWords", Rows.laid_lodger_sha_roundWords)] w) ∧ sizedMet enc Tryd.prog Tryd.f3 (OpenSpec.ofChange Rows.shaSumsSpec) false w args)
      (Rows.shaSumsSpec.post enc Tryd.prog Tryd.f3 false true false false) := by
  refine returnsInHanded_of_change_and (C := Tryd.checked) (X := fun w _ => laidMetH Tryd.prog [("lodger/sha.roundWords", Rows.laid_lodger_sha_roundWords)] w) (fun _ _ _ hh h => h.of_heap hh) own started (by kernel_rfl) Tryd.func3
    (ChangeSpec.witness_shaped (enc := enc) (C := Tryd.checked) (os := os) (X := fun w _ => laidMetH Tryd.prog [("lodger/sha.roundWords", Rows.laid_lodger_sha_roundWords)] w) false (World.doorLaid Tryd.prog 400 os) #[.string .empty] 8 rfl (World.shaped_of_RefB (by kernel_rfl) (by kernel_rfl)) (by kernel_rfl) (by kernel_rfl) (by kernel_rfl) (door_met os _)) ?_
  intro W base args ds gs before hval0 hW _ _ hL _
  have hval : ∀ (j : Nat) t v, Tryd.f3.params[j]? = some t → args[j]? = some v → Value.okWide Tryd.prog W .any base t v := hval0
  have hW' := hW
  obtain ⟨p, q, hA0, hV, rfl, hfz, hnd⟩ := hW
  have hA : DataW.TrodAll enc Tryd.prog W 0 (fun _ => true) true Tryd.f3.params.toList args.toList ds p := hA0
  rw [Tryd.params3] at hA hval
  obtain ⟨v0, vs0, d0, ds0, p0, q0, hargs, rfl, rfl, h0, r0⟩ := trodAll_cons hA
  obtain ⟨rfl, rfl, rfl⟩ := trodAll_nil r0
  obtain rfl : args = #[v0] := by cases args; simp_all
  obtain ⟨rfl, rfl⟩ := trodVars_none hV
  obtain ⟨a0, rfl, rfl, rfl, w0⟩ := open_string Tryd.underlying9 (hval 0 9 v0 rfl rfl) h0
  refine (walk a0 W w0 (globK (globs hL))).mono fun e W' ⟨he, hg⟩ => ?_
  subst he
  exact ⟨_, rfl, Ev.post_law (by kernel_rfl) (by kernel_rfl) rfl Tryd.underlying4 rfl hW' rfl hg⟩

theorem over : Rows.shaSumsRow.holds Tryd.pinned (OpenSpec.ofChange Rows.shaSumsSpec) :=
  OpenClaim.holds_of_wide 3 Tryd.f3 rfl rfl rfl rfl rfl rfl rfl ⟨rfl, rfl, rfl, rfl, rfl⟩ rfl rfl rfl rfl rfl (by kernel_rfl) Tryd.func3 (by kernel_rfl)
    (of_decide_eq_true (by kernel_rfl)) (by unfold Func.isWrapper; first | (rw [if_pos (by decide +kernel)]; kernel_rfl) | (rw [if_neg (by decide +kernel)]; exact ⟨rfl, rfl⟩))
    (fun os started H enc _ => lifted os started H enc)

/-- The statement's row. -/
theorem row : Rows.ShaSumsSaid :=
  over

set_option maxRecDepth 100000 in
/-- The statement, its row tied to the text of the program. -/
theorem proved : Rows.ShaSumsCardSaid :=
  Claim7.holds_tied_plain_at .later [] [.data] true (true, "00a480067bf7779466c225fce9181c66be2bbf036ea5eb1f3502e139b72e3739") false
    row (fun _ h => by cases h) (by kernel_rfl) (fun _ h => by cases h) shaSums_row_tie rfl ⟨rfl, rfl⟩ (by kernel_rfl) rfl
    (fun f fn hf hfn => by
      obtain rfl : f = 3 := Option.some.inj ((show Tryd.prog.funcNamed "lodger/lodgerlaw03.ShaSums" = some 3 by kernel_rfl).symm.trans hf) |>.symm
      obtain rfl : fn = Tryd.f3 := (Option.some.inj (Tryd.func3.symm.trans hfn)).symm
      exact ⟨by kernel_rfl, fun j t ht => by
        rw [Tryd.params3] at ht
        obtain rfl : t = 9 := by
          rcases j with _ | j
          · simpa using ht.symm
          · simp at ht
        kernel_rfl⟩)
    (by kernel_rfl)
#print axioms proved
end Go.Proofs.YtledohmkjgmooaaDoor.shaSums
