/- The statement MacKnown: the call, which takes nothing, returns true and leaves all that was there as it was. The condition: the package variables that its row lists hold what it lists; the card ties that to the text of the program. The call is run by the evaluator of the texts Ev*, whose runs are shown to be the model's, and the kernel reckons the run. -/
import Derived.Test.YtaamnbmoieckcaaDoorRows
import Derived.Test.YtaamnbmoieckcaaDoorEvZ
import Derived.Test.YtaamnbmoieckcaaDoorMacKn
import Derived.Test.YtaamnbmoieckcaaDoorEvSc
import Derived.Test.YtaamnbmoieckcaaDoorCards
import Derived.Test.YtaamnbmoieckcaaDoorTie
import Derived.SevenTiedAt
import Derived.WalkKit
import Derived.ProofKit
import Derived.OpenShut
set_option maxRecDepth 100000
namespace Go.Proofs.YtaamnbmoieckcaaDoor.macKnown
open Go Ev shaW
open Go.ChangeShapes Go.WideShapes Go.ChangeAt Go.RowKit

theorem own : ownKnob Tryd.prog.godebug = none := by kernel_rfl

theorem wk (R : AV → Prop) (_K : AM → Prop) : Obl P 4 (fun v _ => R v) 0 _K [.run 7, .callv [0, 1] (.agg [.int .u8 91, .int .u8 220, .int .u8 193, .int .u8 70, .int .u8 191, .int .u8 96, .int .u8 117, .int .u8 78, .int .u8 106, .int .u8 4, .int .u8 36, .int .u8 38, .int .u8 8, .int .u8 149, .int .u8 117, .int .u8 199, .int .u8 90, .int .u8 0, .int .u8 63, .int .u8 8, .int .u8 157, .int .u8 39, .int .u8 57, .int .u8 131, .int .u8 157, .int .u8 236, .int .u8 88, .int .u8 185, .int .u8 100, .int .u8 236, .int .u8 56, .int .u8 67]), .run 1576, .done] (startM P 4 [] GK) =
  ((Goal P 0 6 (fun x _ => x = (.agg [.int .u8 91, .int .u8 220, .int .u8 193, .int .u8 70, .int .u8 191, .int .u8 96, .int .u8 117, .int .u8 78, .int .u8 106, .int .u8 4, .int .u8 36, .int .u8 38, .int .u8 8, .int .u8 149, .int .u8 117, .int .u8 199, .int .u8 90, .int .u8 0, .int .u8 63, .int .u8 8, .int .u8 157, .int .u8 39, .int .u8 57, .int .u8 131, .int .u8 157, .int .u8 236, .int .u8 88, .int .u8 185, .int .u8 100, .int .u8 236, .int .u8 56, .int .u8 67])) (startM P 6 [(.str [74, 101, 102, 101]), (.str [119, 104, 97, 116, 32, 100, 111, 32, 121, 97, 32, 119, 97, 110, 116, 32, 102, 111, 114, 32, 110, 111, 116, 104, 105, 110, 103, 63])] GK)) ∧ R (.bool true)) := by kernel_rfl

theorem wk_ok : Goal P 0 4 (fun x _ => x = .bool true) (startM P 4 [] GK) :=
  Obl.goal (K := fun _ => False) mix (fun _ h => h.elim) (cast (wk (fun v => v = .bool true) _).symm ⟨c0_mac, rfl⟩)

theorem law (_K : AM → Prop) : optK (startL P 3 [] [] GK) (Obl P 3 (fun v _ => v = .bool true) 0 _K [.run 5641, .callv [] (.bool true), .run 4, .callv [0, 1] (.agg [.int .u8 176, .int .u8 52, .int .u8 76, .int .u8 97, .int .u8 216, .int .u8 219, .int .u8 56, .int .u8 83, .int .u8 92, .int .u8 168, .int .u8 175, .int .u8 206, .int .u8 175, .int .u8 11, .int .u8 241, .int .u8 43, .int .u8 136, .int .u8 29, .int .u8 194, .int .u8 0, .int .u8 201, .int .u8 131, .int .u8 61, .int .u8 167, .int .u8 38, .int .u8 233, .int .u8 55, .int .u8 108, .int .u8 46, .int .u8 50, .int .u8 207, .int .u8 247]), .run 1289, .callv [0, 1] (.agg [.int .u8 119, .int .u8 62, .int .u8 169, .int .u8 30, .int .u8 54, .int .u8 128, .int .u8 14, .int .u8 70, .int .u8 133, .int .u8 77, .int .u8 184, .int .u8 235, .int .u8 208, .int .u8 145, .int .u8 129, .int .u8 167, .int .u8 41, .int .u8 89, .int .u8 9, .int .u8 139, .int .u8 62, .int .u8 248, .int .u8 193, .int .u8 34, .int .u8 217, .int .u8 99, .int .u8 85, .int .u8 20, .int .u8 206, .int .u8 213, .int .u8 101, .int .u8 254]), .run 1287, .callv [0, 1] (.agg [.int .u8 96, .int .u8 228, .int .u8 49, .int .u8 89, .int .u8 30, .int .u8 224, .int .u8 182, .int .u8 127, .int .u8 13, .int .u8 138, .int .u8 38, .int .u8 170, .int .u8 203, .int .u8 245, .int .u8 183, .int .u8 127, .int .u8 142, .int .u8 11, .int .u8 198, .int .u8 33, .int .u8 55, .int .u8 40, .int .u8 197, .int .u8 20, .int .u8 5, .int .u8 70, .int .u8 4, .int .u8 15, .int .u8 14, .int .u8 227, .int .u8 127, .int .u8 84]), .run 1287, .callv [0, 1] (.agg [.int .u8 182, .int .u8 19, .int .u8 103, .int .u8 154, .int .u8 8, .int .u8 20, .int .u8 217, .int .u8 236, .int .u8 119, .int .u8 47, .int .u8 149, .int .u8 215, .int .u8 120, .int .u8 195, .int .u8 95, .int .u8 197, .int .u8 255, .int .u8 22, .int .u8 151, .int .u8 196, .int .u8 147, .int .u8 113, .int .u8 86, .int .u8 83, .int .u8 198, .int .u8 199, .int .u8 18, .int .u8 20, .int .u8 66, .int .u8 146, .int .u8 197, .int .u8 173]), .run 1, .callv [0, 1] (.agg [.int .u8 182, .int .u8 19, .int .u8 103, .int .u8 154, .int .u8 8, .int .u8 20, .int .u8 217, .int .u8 236, .int .u8 119, .int .u8 47, .int .u8 149, .int .u8 215, .int .u8 120, .int .u8 195, .int .u8 95, .int .u8 197, .int .u8 255, .int .u8 22, .int .u8 151, .int .u8 196, .int .u8 147, .int .u8 113, .int .u8 86, .int .u8 83, .int .u8 198, .int .u8 199, .int .u8 18, .int .u8 20, .int .u8 66, .int .u8 146, .int .u8 197, .int .u8 173]), .run 140, .done]) =
  ((Goal P 0 4 (fun x _ => x = (.bool true)) (startM P 4 [] GK)) ∧ (Goal P 0 6 (fun x _ => x = (.agg [.int .u8 176, .int .u8 52, .int .u8 76, .int .u8 97, .int .u8 216, .int .u8 219, .int .u8 56, .int .u8 83, .int .u8 92, .int .u8 168, .int .u8 175, .int .u8 206, .int .u8 175, .int .u8 11, .int .u8 241, .int .u8 43, .int .u8 136, .int .u8 29, .int .u8 194, .int .u8 0, .int .u8 201, .int .u8 131, .int .u8 61, .int .u8 167, .int .u8 38, .int .u8 233, .int .u8 55, .int .u8 108, .int .u8 46, .int .u8 50, .int .u8 207, .int .u8 247])) (startM P 6 [(.str [11, 11, 11, 11, 11, 11, 11, 11, 11, 11, 11, 11, 11, 11, 11, 11, 11, 11, 11, 11]), (.str [72, 105, 32, 84, 104, 101, 114, 101])] GK)) ∧ (Goal P 0 6 (fun x _ => x = (.agg [.int .u8 119, .int .u8 62, .int .u8 169, .int .u8 30, .int .u8 54, .int .u8 128, .int .u8 14, .int .u8 70, .int .u8 133, .int .u8 77, .int .u8 184, .int .u8 235, .int .u8 208, .int .u8 145, .int .u8 129, .int .u8 167, .int .u8 41, .int .u8 89, .int .u8 9, .int .u8 139, .int .u8 62, .int .u8 248, .int .u8 193, .int .u8 34, .int .u8 217, .int .u8 99, .int .u8 85, .int .u8 20, .int .u8 206, .int .u8 213, .int .u8 101, .int .u8 254])) (startM P 6 [(.str [170, 170, 170, 170, 170, 170, 170, 170, 170, 170, 170, 170, 170, 170, 170, 170, 170, 170, 170, 170]), (.str [221, 221, 221, 221, 221, 221, 221, 221, 221, 221, 221, 221, 221, 221, 221, 221, 221, 221, 221, 221, 221, 221, 221, 221, 221, 221, 221, 221, 221, 221, 221, 221, 221, 221, 221, 221, 221, 221, 221, 221, 221, 221, 221, 221, 221, 221, 221, 221, 221, 221])] GK)) ∧ (Goal P 0 6 (fun x _ => x = (.agg [.int .u8 96, .int .u8 228, .int .u8 49, .int .u8 89, .int .u8 30, .int .u8 224, .int .u8 182, .int .u8 127, .int .u8 13, .int .u8 138, .int .u8 38, .int .u8 170, .int .u8 203, .int .u8 245, .int .u8 183, .int .u8 127, .int .u8 142, .int .u8 11, .int .u8 198, .int .u8 33, .int .u8 55, .int .u8 40, .int .u8 197, .int .u8 20, .int .u8 5, .int .u8 70, .int .u8 4, .int .u8 15, .int .u8 14, .int .u8 227, .int .u8 127, .int .u8 84])) (startM P 6 [(.str [170, 170, 170, 170, 170, 170, 170, 170, 170, 170, 170, 170, 170, 170, 170, 170, 170, 170, 170, 170, 170, 170, 170, 170, 170, 170, 170, 170, 170, 170, 170, 170, 170, 170, 170, 170, 170, 170, 170, 170, 170, 170, 170, 170, 170, 170, 170, 170, 170, 170, 170, 170, 170, 170, 170, 170, 170, 170, 170, 170, 170, 170, 170, 170, 170, 170, 170, 170, 170, 170, 170, 170, 170, 170, 170, 170, 170, 170, 170, 170, 170, 170, 170, 170, 170, 170, 170, 170, 170, 170, 170, 170, 170, 170, 170, 170, 170, 170, 170, 170, 170, 170, 170, 170, 170, 170, 170, 170, 170, 170, 170, 170, 170, 170, 170, 170, 170, 170, 170, 170, 170, 170, 170, 170, 170, 170, 170, 170, 170, 170, 170]), (.str [84, 101, 115, 116, 32, 85, 115, 105, 110, 103, 32, 76, 97, 114, 103, 101, 114, 32, 84, 104, 97, 110, 32, 66, 108, 111, 99, 107, 45, 83, 105, 122, 101, 32, 75, 101, 121, 32, 45, 32, 72, 97, 115, 104, 32, 75, 101, 121, 32, 70, 105, 114, 115, 116])] GK)) ∧ (Goal P 0 6 (fun x _ => x = (.agg [.int .u8 182, .int .u8 19, .int .u8 103, .int .u8 154, .int .u8 8, .int .u8 20, .int .u8 217, .int .u8 236, .int .u8 119, .int .u8 47, .int .u8 149, .int .u8 215, .int .u8 120, .int .u8 195, .int .u8 95, .int .u8 197, .int .u8 255, .int .u8 22, .int .u8 151, .int .u8 196, .int .u8 147, .int .u8 113, .int .u8 86, .int .u8 83, .int .u8 198, .int .u8 199, .int .u8 18, .int .u8 20, .int .u8 66, .int .u8 146, .int .u8 197, .int .u8 173])) (startM P 6 [(.str []), (.str [])] GK)) ∧ (some (AV.str [0, 0, 0, 0, 0, 0, 0, 0, 0, 0, 0, 0, 0, 0, 0, 0, 0, 0, 0, 0, 0, 0, 0, 0, 0, 0, 0, 0, 0, 0, 0, 0, 0, 0, 0, 0, 0, 0, 0, 0, 0, 0, 0, 0, 0, 0, 0, 0, 0, 0, 0, 0, 0, 0, 0, 0, 0, 0, 0, 0, 0, 0, 0, 0]) = some (AV.str [0, 0, 0, 0, 0, 0, 0, 0, 0, 0, 0, 0, 0, 0, 0, 0, 0, 0, 0, 0, 0, 0, 0, 0, 0, 0, 0, 0, 0, 0, 0, 0, 0, 0, 0, 0, 0, 0, 0, 0, 0, 0, 0, 0, 0, 0, 0, 0, 0, 0, 0, 0, 0, 0, 0, 0, 0, 0, 0, 0, 0, 0, 0, 0])) ∧ (Goal P 0 6 (fun x _ => x = (.agg [.int .u8 182, .int .u8 19, .int .u8 103, .int .u8 154, .int .u8 8, .int .u8 20, .int .u8 217, .int .u8 236, .int .u8 119, .int .u8 47, .int .u8 149, .int .u8 215, .int .u8 120, .int .u8 195, .int .u8 95, .int .u8 197, .int .u8 255, .int .u8 22, .int .u8 151, .int .u8 196, .int .u8 147, .int .u8 113, .int .u8 86, .int .u8 83, .int .u8 198, .int .u8 199, .int .u8 18, .int .u8 20, .int .u8 66, .int .u8 146, .int .u8 197, .int .u8 173])) (startM P 6 [(.str [0, 0, 0, 0, 0, 0, 0, 0, 0, 0, 0, 0, 0, 0, 0, 0, 0, 0, 0, 0, 0, 0, 0, 0, 0, 0, 0, 0, 0, 0, 0, 0, 0, 0, 0, 0, 0, 0, 0, 0, 0, 0, 0, 0, 0, 0, 0, 0, 0, 0, 0, 0, 0, 0, 0, 0, 0, 0, 0, 0, 0, 0, 0, 0]), (.str [])] GK)) ∧ (AV.bool true = AV.bool true)) := by kernel_rfl

theorem walk (w : World) (hG : Globs GK w) : Calls P 3 #[] w fun r w' => r = .returned (.bool true) ∧ Old w w' :=
  law_ok (K := Goal P 0 3 _) mix (cast (law _).symm ⟨wk_ok, c1_mac, c2_mac, c3_mac, c4_mac, rfl, c5_mac, rfl⟩) (fun _ h => h) (vs := []) hG (fun _ hx => absurd hx List.not_mem_nil) rfl

/-! ### The row's step -/
set_option maxRecDepth 100000 in
theorem lifted (os : Os) (started : os.Started) (H : Type) (enc : TypeId × Value → H) :
    ReturnsInHanded {} Tryd.checked os 3 .any (fun w args => (Rows.macKnownSpec.pre enc Tryd.prog Tryd.f3 [] false w args ∧ laidMetH Tryd.prog [("lodger/sha.roundWords", Rows.laid_lodger_sha_roundWords)] w) ∧ sizedMet enc Tryd.prog Tryd.f3 (OpenSpec.ofChange Rows.macKnownSpec) false w args)
      (Rows.macKnownSpec.post enc Tryd.prog Tryd.f3 false true false false) := by
  refine returnsInHanded_of_change_and (C := Tryd.checked) (X := fun w _ => laidMetH Tryd.prog [("lodger/sha.roundWords", Rows.laid_lodger_sha_roundWords)] w) (fun _ _ _ hh h => h.of_heap hh) own started (by kernel_rfl) Tryd.func3
    (ChangeSpec.witness_shaped (enc := enc) (C := Tryd.checked) (os := os) (X := fun w _ => laidMetH Tryd.prog [("lodger/sha.roundWords", Rows.laid_lodger_sha_roundWords)] w) false (World.doorLaid Tryd.prog 400 os) #[] 8 rfl (World.shaped_of_RefB (by kernel_rfl) (by kernel_rfl)) (by kernel_rfl) (by kernel_rfl) (by kernel_rfl) (door_met os _)) ?_
  intro W base args ds gs before hval0 hW _ _ hL _
  have hval : ∀ (j : Nat) t v, Tryd.f3.params[j]? = some t → args[j]? = some v → Value.okWide Tryd.prog W .any base t v := hval0
  have hW' := hW
  obtain ⟨p, q, hA0, hV, rfl, hfz, hnd⟩ := hW
  have hA : DataW.TrodAll enc Tryd.prog W 0 (fun _ => true) true Tryd.f3.params.toList args.toList ds p := hA0
  rw [Tryd.params3] at hA hval
  obtain ⟨rfl, rfl, rfl⟩ := trodAll_none hA
  obtain ⟨rfl, rfl⟩ := trodVars_none hV
  clear hA0 hval0
  simp only [List.append_nil] at hW'
  refine (walk W (globK (globs hL))).mono fun e W' ⟨he, hg⟩ => ?_
  subst he
  exact ⟨_, rfl, Ev.post_closed hW' (fun _ _ _ => (trodAll_cons_mk (shut_bool Tryd.underlying4 _) trodAll_mk0)) (fun _ => rfl) (fun _ => rfl)
    hg.kept (ok_one (by kernel_rfl) rfl (okWide_bool_mk Tryd.underlying4 _))⟩

theorem over : Rows.macKnownRow.holds Tryd.pinned (OpenSpec.ofChange Rows.macKnownSpec) :=
  OpenClaim.holds_of_wide 3 Tryd.f3 rfl rfl rfl rfl rfl rfl rfl ⟨rfl, rfl, rfl, rfl, rfl⟩ rfl rfl rfl rfl rfl (by kernel_rfl) Tryd.func3 (by kernel_rfl)
    (of_decide_eq_true (by kernel_rfl)) (by unfold Func.isWrapper; first | (rw [if_pos (by decide +kernel)]; kernel_rfl) | (rw [if_neg (by decide +kernel)]; exact ⟨rfl, rfl⟩))
    (fun os started H enc _ => lifted os started H enc)

/-- The statement's row. -/
theorem row : Rows.MacKnownSaid :=
  over

set_option maxRecDepth 100000 in
/-- The statement, its row tied to the text of the program. -/
theorem proved : Rows.MacKnownCardSaid :=
  Claim7.holds_tied_plain_at .later [] [.data] true (true, "14cb0f5f70361d68edcf04f259dc8c6396e167634821e42171dbbd073824f2c3") false
    row (fun _ h => by cases h) (by kernel_rfl) (fun _ h => by cases h) macKnown_row_tie rfl ⟨rfl, rfl⟩ (by kernel_rfl) rfl
    (fun f fn hf hfn => by
      obtain rfl : f = 3 := Option.some.inj ((show Tryd.prog.funcNamed "lodger/lodgerlaw04.MacKnown" = some 3 by kernel_rfl).symm.trans hf) |>.symm
      obtain rfl : fn = Tryd.f3 := (Option.some.inj (Tryd.func3.symm.trans hfn)).symm
      exact ⟨by kernel_rfl, fun j t ht => by
        rw [Tryd.params3] at ht
        simp at ht⟩)
    (by kernel_rfl)
#print axioms proved
end Go.Proofs.YtaamnbmoieckcaaDoor.macKnown
