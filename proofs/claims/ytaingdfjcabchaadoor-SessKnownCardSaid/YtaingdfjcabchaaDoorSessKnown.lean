/- The statement SessKnown: the call, which takes nothing, returns true and leaves all that was there as it was. The condition: the package variables that its row lists hold what it lists; the card ties that to the text of the program. The call is run by the evaluator of the texts Ev*, whose runs are shown to be the model's, and the kernel reckons the run. -/
import Derived.Test.YtaingdfjcabchaaDoorRows
import Derived.Test.YtaingdfjcabchaaDoorEvZ
import Derived.Test.YtaingdfjcabchaaDoorMacKn
import Derived.Test.YtaingdfjcabchaaDoorEvSc
import Derived.Test.YtaingdfjcabchaaDoorSessKnownG
import Derived.Test.YtaingdfjcabchaaDoorCards
import Derived.Test.YtaingdfjcabchaaDoorTie
import Derived.SevenTiedAt
import Derived.WalkKit
import Derived.ProofKit
import Derived.OpenShut
set_option maxRecDepth 100000
namespace Go.Proofs.YtaingdfjcabchaaDoor.sessKnown
open Go Ev shaW
open Go.ChangeShapes Go.WideShapes Go.ChangeAt Go.RowKit

theorem own : ownKnob Tryd.prog.godebug = none := by kernel_rfl

theorem law (_K : AM → Prop) : optK (startL P 3 [] [] GK) (Obl P 3 (fun v _ => v = .bool true) 0 _K [.run 531, .callv [0, 1] (.agg [.int .u8 164, .int .u8 161, .int .u8 28, .int .u8 229, .int .u8 251, .int .u8 232, .int .u8 249, .int .u8 107, .int .u8 243, .int .u8 2, .int .u8 128, .int .u8 53, .int .u8 40, .int .u8 108, .int .u8 44, .int .u8 146, .int .u8 116, .int .u8 205, .int .u8 66, .int .u8 89, .int .u8 203, .int .u8 194, .int .u8 36, .int .u8 227, .int .u8 122, .int .u8 115, .int .u8 217, .int .u8 113, .int .u8 146, .int .u8 57, .int .u8 3, .int .u8 211]), .run 4112, .callv [0, 1] (.agg [.int .u8 160, .int .u8 45, .int .u8 24, .int .u8 2, .int .u8 121, .int .u8 105, .int .u8 181, .int .u8 237, .int .u8 45, .int .u8 81, .int .u8 189, .int .u8 223, .int .u8 111, .int .u8 24, .int .u8 93, .int .u8 200, .int .u8 53, .int .u8 220, .int .u8 74, .int .u8 8, .int .u8 79, .int .u8 79, .int .u8 193, .int .u8 10, .int .u8 164, .int .u8 158, .int .u8 2, .int .u8 213, .int .u8 41, .int .u8 216, .int .u8 245, .int .u8 146]), .run 4339, .callv [0, 1] (.agg [.int .u8 160, .int .u8 45, .int .u8 24, .int .u8 2, .int .u8 121, .int .u8 105, .int .u8 181, .int .u8 237, .int .u8 45, .int .u8 81, .int .u8 189, .int .u8 223, .int .u8 111, .int .u8 24, .int .u8 93, .int .u8 200, .int .u8 53, .int .u8 220, .int .u8 74, .int .u8 8, .int .u8 79, .int .u8 79, .int .u8 193, .int .u8 10, .int .u8 164, .int .u8 158, .int .u8 2, .int .u8 213, .int .u8 41, .int .u8 216, .int .u8 245, .int .u8 146]), .run 1932, .callv [0, 1] (.agg [.int .u8 219, .int .u8 90, .int .u8 14, .int .u8 164, .int .u8 191, .int .u8 231, .int .u8 248, .int .u8 32, .int .u8 41, .int .u8 175, .int .u8 204, .int .u8 159, .int .u8 223, .int .u8 47, .int .u8 220, .int .u8 183, .int .u8 24, .int .u8 248, .int .u8 102, .int .u8 195, .int .u8 250, .int .u8 158, .int .u8 208, .int .u8 179, .int .u8 244, .int .u8 102, .int .u8 81, .int .u8 80, .int .u8 166, .int .u8 48, .int .u8 132, .int .u8 167]), .run 2033, .callv [0, 1] (.agg [.int .u8 245, .int .u8 34, .int .u8 173, .int .u8 209, .int .u8 164, .int .u8 241, .int .u8 36, .int .u8 102, .int .u8 38, .int .u8 33, .int .u8 227, .int .u8 211, .int .u8 163, .int .u8 70, .int .u8 166, .int .u8 239, .int .u8 249, .int .u8 248, .int .u8 87, .int .u8 97, .int .u8 222, .int .u8 67, .int .u8 144, .int .u8 25, .int .u8 125, .int .u8 32, .int .u8 147, .int .u8 49, .int .u8 39, .int .u8 131, .int .u8 111, .int .u8 254]), .run 1916, .callv [0, 1] (.agg [.int .u8 106, .int .u8 31, .int .u8 10, .int .u8 250, .int .u8 94, .int .u8 183, .int .u8 38, .int .u8 38, .int .u8 16, .int .u8 200, .int .u8 254, .int .u8 151, .int .u8 197, .int .u8 250, .int .u8 254, .int .u8 136, .int .u8 182, .int .u8 196, .int .u8 232, .int .u8 129, .int .u8 38, .int .u8 128, .int .u8 187, .int .u8 71, .int .u8 28, .int .u8 214, .int .u8 153, .int .u8 84, .int .u8 253, .int .u8 157, .int .u8 0, .int .u8 217]), .run 16628, .done]) =
  ((Goal P 0 20 (fun x _ => x = (.agg [.int .u8 164, .int .u8 161, .int .u8 28, .int .u8 229, .int .u8 251, .int .u8 232, .int .u8 249, .int .u8 107, .int .u8 243, .int .u8 2, .int .u8 128, .int .u8 53, .int .u8 40, .int .u8 108, .int .u8 44, .int .u8 146, .int .u8 116, .int .u8 205, .int .u8 66, .int .u8 89, .int .u8 203, .int .u8 194, .int .u8 36, .int .u8 227, .int .u8 122, .int .u8 115, .int .u8 217, .int .u8 113, .int .u8 146, .int .u8 57, .int .u8 3, .int .u8 211])) (startM P 20 [(.str []), (.str [0, 0, 0, 0, 0, 0, 0, 1])] GK)) ∧ (some (AV.slc 5 0 0 64 64) = some (AV.slc 5 0 0 64 64)) ∧ (Goal P 0 20 (fun x _ => x = (.agg [.int .u8 160, .int .u8 45, .int .u8 24, .int .u8 2, .int .u8 121, .int .u8 105, .int .u8 181, .int .u8 237, .int .u8 45, .int .u8 81, .int .u8 189, .int .u8 223, .int .u8 111, .int .u8 24, .int .u8 93, .int .u8 200, .int .u8 53, .int .u8 220, .int .u8 74, .int .u8 8, .int .u8 79, .int .u8 79, .int .u8 193, .int .u8 10, .int .u8 164, .int .u8 158, .int .u8 2, .int .u8 213, .int .u8 41, .int .u8 216, .int .u8 245, .int .u8 146])) (startM P 20 [(.str [107]), (.str [0, 0, 0, 0, 0, 0, 0, 1])] GK)) ∧ (some (AV.slc 22 0 0 64 64) = some (AV.slc 22 0 0 64 64)) ∧ (Goal P 0 20 (fun x _ => x = (.agg [.int .u8 160, .int .u8 45, .int .u8 24, .int .u8 2, .int .u8 121, .int .u8 105, .int .u8 181, .int .u8 237, .int .u8 45, .int .u8 81, .int .u8 189, .int .u8 223, .int .u8 111, .int .u8 24, .int .u8 93, .int .u8 200, .int .u8 53, .int .u8 220, .int .u8 74, .int .u8 8, .int .u8 79, .int .u8 79, .int .u8 193, .int .u8 10, .int .u8 164, .int .u8 158, .int .u8 2, .int .u8 213, .int .u8 41, .int .u8 216, .int .u8 245, .int .u8 146])) (startM P 20 [(.str [107]), (.str [0, 0, 0, 0, 0, 0, 0, 1])] GK)) ∧ (some (AV.slc 42 0 0 64 64) = some (AV.slc 42 0 0 64 64)) ∧ (Goal P 0 20 (fun x _ => x = (.agg [.int .u8 219, .int .u8 90, .int .u8 14, .int .u8 164, .int .u8 191, .int .u8 231, .int .u8 248, .int .u8 32, .int .u8 41, .int .u8 175, .int .u8 204, .int .u8 159, .int .u8 223, .int .u8 47, .int .u8 220, .int .u8 183, .int .u8 24, .int .u8 248, .int .u8 102, .int .u8 195, .int .u8 250, .int .u8 158, .int .u8 208, .int .u8 179, .int .u8 244, .int .u8 102, .int .u8 81, .int .u8 80, .int .u8 166, .int .u8 48, .int .u8 132, .int .u8 167])) (startM P 20 [(.str [107]), (.str [0, 0, 0, 0, 0, 0, 0, 2])] GK)) ∧ (some (AV.slc 53 0 0 64 64) = some (AV.slc 53 0 0 64 64)) ∧ (Goal P 0 20 (fun x _ => x = (.agg [.int .u8 245, .int .u8 34, .int .u8 173, .int .u8 209, .int .u8 164, .int .u8 241, .int .u8 36, .int .u8 102, .int .u8 38, .int .u8 33, .int .u8 227, .int .u8 211, .int .u8 163, .int .u8 70, .int .u8 166, .int .u8 239, .int .u8 249, .int .u8 248, .int .u8 87, .int .u8 97, .int .u8 222, .int .u8 67, .int .u8 144, .int .u8 25, .int .u8 125, .int .u8 32, .int .u8 147, .int .u8 49, .int .u8 39, .int .u8 131, .int .u8 111, .int .u8 254])) (startM P 20 [(.str [115]), (.str [110, 0, 0, 0, 0, 0, 0, 0, 1])] GK)) ∧ (some (AV.slc 63 0 0 64 64) = some (AV.slc 63 0 0 64 64)) ∧ (Goal P 0 20 (fun x _ => x = (.agg [.int .u8 106, .int .u8 31, .int .u8 10, .int .u8 250, .int .u8 94, .int .u8 183, .int .u8 38, .int .u8 38, .int .u8 16, .int .u8 200, .int .u8 254, .int .u8 151, .int .u8 197, .int .u8 250, .int .u8 254, .int .u8 136, .int .u8 182, .int .u8 196, .int .u8 232, .int .u8 129, .int .u8 38, .int .u8 128, .int .u8 187, .int .u8 71, .int .u8 28, .int .u8 214, .int .u8 153, .int .u8 84, .int .u8 253, .int .u8 157, .int .u8 0, .int .u8 217])) (startM P 20 [(.str [115]), (.str [110, 0, 0, 0, 0, 0, 0, 0, 2])] GK)) ∧ (some (AV.slc 74 0 0 64 64) = some (AV.slc 74 0 0 64 64)) ∧ (AV.bool true = AV.bool true)) := by kernel_rfl

theorem walk (w : World) (hG : Globs GK w) : Calls P 3 #[] w fun r w' => r = .returned (.bool true) ∧ Old w w' :=
  law_ok (K := Goal P 0 3 _) mix (cast (law _).symm ⟨c0_mac, rfl, c1_mac, rfl, c1_mac, rfl, c2_mac, rfl, c3_mac, rfl, c4_mac, rfl, rfl⟩) (fun _ h => h) (vs := []) hG (fun _ hx => absurd hx List.not_mem_nil) rfl

/-! ### The row's step -/
set_option maxRecDepth 100000 in
theorem lifted (os : Os) (started : os.Started) (H : Type) (enc : TypeId × Value → H) :
    ReturnsInHanded {} Tryd.checked os 3 .any (fun w args => (Rows.sessKnownSpec.pre enc Tryd.prog Tryd.f3 [] false w args ∧ laidMetH Tryd.prog [("lodger/sha.roundWords", Rows.laid_lodger_sha_roundWords)] w) ∧ sizedMet enc Tryd.prog Tryd.f3 (OpenSpec.ofChange Rows.sessKnownSpec) false w args)
      (Rows.sessKnownSpec.post enc Tryd.prog Tryd.f3 false true false false) := by
  refine returnsInHanded_of_change_and (C := Tryd.checked) (X := fun w _ => laidMetH Tryd.prog [("lodger/sha.roundWords", Rows.laid_lodger_sha_roundWords)] w) (fun _ _ _ hh h => h.of_heap hh) own started (by kernel_rfl) Tryd.func3
    (ChangeSpec.witness_shaped (enc := enc) (C := Tryd.checked) (os := os) (X := fun w _ => laidMetH Tryd.prog [("lodger/sha.roundWords", Rows.laid_lodger_sha_roundWords)] w) false (doorW os) #[] 8 (doorW_os os) (World.shaped_of_ZipB (by kernel_rfl) (by kernel_rfl)) (by kernel_rfl) (by kernel_rfl) (by kernel_rfl) (door_met os _)) ?_
  intro W base args ds gs before hval0 hW _ _ hL _
  have hval : ∀ (j : Nat) t v, Tryd.f3.params[j]? = some t → args[j]? = some v → Value.okWide Tryd.prog W .any base t v := hval0
  have hW' := hW
  obtain ⟨p, q, hA0, hV, rfl, hfz, hnd⟩ := hW
  have hA : DataW.TrodAll enc Tryd.prog W 0 (fun _ => true) true Tryd.f3.params.toList args.toList ds p := hA0
  rw [Tryd.params3] at hA hval
  obtain ⟨rfl, rfl, rfl⟩ := trodAll_none hA
  obtain ⟨rfl, rfl⟩ := trodVars_none hV
  clear hA0 hval0
  simp only [List.append_nil] at hW'
  refine (walk W (globK (shaW.globs hL))).mono fun e W' ⟨he, hg⟩ => ?_
  subst he
  exact ⟨_, rfl, Ev.post_closed hW' (fun _ _ _ => (trodAll_cons_mk (shut_bool Tryd.underlying4 _) trodAll_mk0)) (fun _ => rfl) (fun _ => rfl)
    hg.kept (ok_one (by kernel_rfl) rfl (okWide_bool_mk Tryd.underlying4 _))⟩

theorem over : Rows.sessKnownRow.holds Tryd.pinned (OpenSpec.ofChange Rows.sessKnownSpec) :=
  OpenClaim.holds_of_wide 3 Tryd.f3 rfl rfl rfl rfl rfl rfl rfl ⟨rfl, rfl, rfl, rfl, rfl⟩ rfl rfl rfl rfl rfl (by kernel_rfl) Tryd.func3 (by kernel_rfl)
    (of_decide_eq_true (by kernel_rfl)) (by unfold Func.isWrapper; first | (rw [if_pos (by decide +kernel)]; kernel_rfl) | (rw [if_neg (by decide +kernel)]; exact ⟨rfl, rfl⟩))
    (fun os started H enc _ => lifted os started H enc)

/-- The statement's row. -/
theorem row : Rows.SessKnownSaid :=
  over

set_option maxRecDepth 100000 in
/-- The statement, its row tied to the text of the program. -/
theorem proved : Rows.SessKnownCardSaid :=
  Claim7.holds_tied_plain_at .later [] [.data] true (true, "e4ba29362446c03b83919f5f219618d7e3b1c9a4f9e70b005601e3cd137d407b") false
    row (fun _ h => by cases h) (by kernel_rfl) (fun _ h => by cases h) sessKnown_row_tie rfl ⟨rfl, rfl⟩ (by kernel_rfl) rfl
    (fun f fn hf hfn => by
      obtain rfl : f = 3 := Option.some.inj ((show Tryd.prog.funcNamed "lodger/lodgerlaw08.SessKnown" = some 3 by kernel_rfl).symm.trans hf) |>.symm
      obtain rfl : fn = Tryd.f3 := (Option.some.inj (Tryd.func3.symm.trans hfn)).symm
      exact ⟨by kernel_rfl, fun j t ht => by
        rw [Tryd.params3] at ht
        simp at ht⟩)
    (by kernel_rfl)
#print axioms proved
end Go.Proofs.YtaingdfjcabchaaDoor.sessKnown
