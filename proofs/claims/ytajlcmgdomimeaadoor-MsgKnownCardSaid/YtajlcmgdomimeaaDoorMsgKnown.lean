/- The statement MsgKnown: the call, which takes nothing, returns true and leaves all that was there as it was. The condition: the one package variable that its row lists holds what it lists; the card ties that to the text of the program. The call is run by the evaluator of the texts Ev*, whose runs are shown to be the model's, and the kernel reckons the run. -/
import Derived.Test.YtajlcmgdomimeaaDoorRows
import Derived.Test.YtajlcmgdomimeaaDoorEvZ
import Derived.Test.YtajlcmgdomimeaaDoorMsgKnownG
import Derived.Test.YtajlcmgdomimeaaDoorMsgKnownK2
import Derived.Test.YtajlcmgdomimeaaDoorCards
import Derived.Test.YtajlcmgdomimeaaDoorTie
import Derived.SevenTiedAt
import Derived.WalkKit
import Derived.ProofKit
import Derived.OpenShut
namespace Go.Proofs.YtajlcmgdomimeaaDoor.msgKnown
open Go.ChangeShapes Go.WideShapes Go.ChangeAt Go.RowKit

theorem own : ownKnob Tryd.prog.godebug = none := by kernel_rfl

theorem mix : Tryd.prog.follows .mixedOrders = true := Checked.mixed Tryd.checked

/-- The run, or its last part, reckoned. -/
theorem ran : Ev.runA Tryd.prog 8 27323 m2 = some (.bool true) := by kernel_rfl

theorem walk (w : World) (hG : Ev.Globs glob w) : Calls Tryd.prog 8 #[] w fun e w' => e = .returned (.bool true) ∧ Ev.Old w w' :=
  Ev.reaches_calls mix c1 p1 (Ev.reaches_part mix c2 p2 (Ev.reaches_last mix ran)) w hG

/-! ### The row's step -/
set_option maxRecDepth 100000 in
theorem lifted (os : Os) (started : os.Started) (H : Type) (enc : TypeId × Value → H) :
    ReturnsInHanded {} Tryd.checked os 8 .any (fun w args => (Rows.msgKnownSpec.pre enc Tryd.prog Tryd.f8 [] false w args ∧ laidMetH Tryd.prog [("lodger/diag.words", Rows.laid_lodger_diag_words)] w) ∧ sizedMet enc Tryd.prog Tryd.f8 (OpenSpec.ofChange Rows.msgKnownSpec) false w args)
      (Rows.msgKnownSpec.post enc Tryd.prog Tryd.f8 false true false false) := by
  refine returnsInHanded_of_change_and (C := Tryd.checked) (X := fun w _ => laidMetH Tryd.prog [("lodger/diag.words", Rows.laid_lodger_diag_words)] w) (fun _ _ _ hh h => h.of_heap hh) own started (by kernel_rfl) Tryd.func8
    (ChangeSpec.witness_shaped (enc := enc) (C := Tryd.checked) (os := os) (X := fun w _ => laidMetH Tryd.prog [("lodger/diag.words", Rows.laid_lodger_diag_words)] w) false (World.doorLaid Tryd.prog 400 os) #[] 8 rfl (World.shaped_of_RefB (by kernel_rfl) (by kernel_rfl)) (by kernel_rfl) (by kernel_rfl) (by kernel_rfl) (door_met os _)) ?_
  intro W base args ds gs before hval0 hW _ _ hL _
  have hval : ∀ (j : Nat) t v, Tryd.f8.params[j]? = some t → args[j]? = some v → Value.okWide Tryd.prog W .any base t v := hval0
  have hW' := hW
  obtain ⟨p, q, hA0, hV, rfl, hfz, hnd⟩ := hW
  have hA : DataW.TrodAll enc Tryd.prog W 0 (fun _ => true) true Tryd.f8.params.toList args.toList ds p := hA0
  rw [Tryd.params8] at hA hval
  obtain ⟨rfl, rfl, rfl⟩ := trodAll_none hA
  obtain ⟨rfl, rfl⟩ := trodVars_none hV
  clear hA0 hval0
  simp only [List.append_nil] at hW'
  refine (walk W (globs hL)).mono fun e W' ⟨he, hg⟩ => ?_
  subst he
  exact ⟨_, rfl, Ev.post_closed hW' (fun _ _ _ => (trodAll_cons_mk (shut_bool Tryd.underlying4 _) trodAll_mk0)) (fun _ => rfl) (fun _ => rfl)
    hg.kept (ok_one (by kernel_rfl) rfl (okWide_bool_mk Tryd.underlying4 _))⟩

theorem over : Rows.msgKnownRow.holds Tryd.pinned (OpenSpec.ofChange Rows.msgKnownSpec) :=
  OpenClaim.holds_of_wide 8 Tryd.f8 rfl rfl rfl rfl rfl rfl rfl ⟨rfl, rfl, rfl, rfl, rfl⟩ rfl rfl rfl rfl rfl (by kernel_rfl) Tryd.func8 (by kernel_rfl)
    (of_decide_eq_true (by kernel_rfl)) (by unfold Func.isWrapper; first | (rw [if_pos (by decide +kernel)]; kernel_rfl) | (rw [if_neg (by decide +kernel)]; exact ⟨rfl, rfl⟩))
    (fun os started H enc _ => lifted os started H enc)

/-- The statement's row. -/
theorem row : Rows.MsgKnownSaid :=
  over

set_option maxRecDepth 100000 in
/-- The statement, its row tied to the text of the program. -/
theorem proved : Rows.MsgKnownCardSaid :=
  Claim7.holds_tied_plain_at .later [] [.data] true (true, "ee3abc4dde728694211ca2e4be3537806c184b590c587b1650cfd93f5753903c") false
    row (fun _ h => by cases h) (by kernel_rfl) (fun _ h => by cases h) msgKnown_row_tie rfl ⟨rfl, rfl⟩ (by kernel_rfl) rfl
    (fun f fn hf hfn => by
      obtain rfl : f = 8 := Option.some.inj ((show Tryd.prog.funcNamed "lodger/lodgerlaw27.MsgKnown" = some 8 by kernel_rfl).symm.trans hf) |>.symm
      obtain rfl : fn = Tryd.f8 := (Option.some.inj (Tryd.func8.symm.trans hfn)).symm
      exact ⟨by kernel_rfl, fun j t ht => by
        rw [Tryd.params8] at ht
        simp at ht⟩)
    (by kernel_rfl)
#print axioms proved
end Go.Proofs.YtajlcmgdomimeaaDoor.msgKnown
