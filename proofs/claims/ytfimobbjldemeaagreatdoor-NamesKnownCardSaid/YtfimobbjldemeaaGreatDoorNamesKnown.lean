/- The statement NamesKnown: the call, which takes nothing, returns true and leaves all that was there as it was. The condition: the package variables that its row lists hold what it lists; the card ties that to the text of the program. The call is run by the evaluator of the texts Ev*, whose runs are shown to be the model's, and the kernel reckons the run. -/
import Derived.Test.YtfimobbjldemeaaGreatDoorRows
import Derived.Test.YtfimobbjldemeaaGreatDoorEvZ
import Derived.Test.YtfimobbjldemeaaGreatDoorX
import Derived.Test.YtfimobbjldemeaaGreatDoorNamesKnownG
import Derived.Test.YtfimobbjldemeaaGreatDoorNamesKnownK1
import Derived.Test.YtfimobbjldemeaaGreatDoorNamesKnownK2
import Derived.Test.YtfimobbjldemeaaGreatDoorNamesKnownK3
import Derived.Test.YtfimobbjldemeaaGreatDoorNamesKnownK4
import Derived.Test.YtfimobbjldemeaaGreatDoorNamesKnownK5
import Derived.Test.YtfimobbjldemeaaGreatDoorNamesKnownK6
import Derived.Test.YtfimobbjldemeaaGreatDoorNamesKnownK7
import Derived.Test.YtfimobbjldemeaaGreatDoorNamesKnownK8
import Derived.Test.YtfimobbjldemeaaGreatDoorNamesKnownK9
import Derived.Test.YtfimobbjldemeaaGreatDoorCards
import Derived.Test.YtfimobbjldemeaaGreatDoorTie
import Derived.SevenTiedAt
import Derived.WalkKit
import Derived.ProofKit
import Derived.OpenShut
namespace Go.Proofs.YtfimobbjldemeaaGreatDoor.namesKnown
open Go.ChangeShapes Go.WideShapes Go.ChangeAt Go.RowKit

theorem own : ownKnob Tryz.prog.godebug = none := by kernel_rfl

theorem mix : Tryz.prog.follows .mixedOrders = true := Checked.mixed Tryz.checked

/-- The run, or its last part, reckoned. -/
theorem ran : Ev.runA Tryz.prog 3 22765 m25 = some (.bool true) := by kernel_rfl

theorem walk (w : World) (hG : Ev.Globs glob w) : Calls Tryz.prog 3 #[] w fun e w' => e = .returned (.bool true) ∧ Ev.Old w w' :=
  Ev.reaches_callsD mix c1 p1 (Ev.reaches_partD mix c2 p2 (Ev.reaches_partD mix c3 p3 (Ev.reaches_partD mix c4 p4 (Ev.reaches_partD mix c5 p5 (Ev.reaches_partD mix c6 p6 (Ev.reaches_partD mix c7 p7 (Ev.reaches_partD mix c8 p8 (Ev.reaches_partD mix c9 p9 (Ev.reaches_partD mix c10 p10 (Ev.reaches_partD mix c11 p11 (Ev.reaches_partD mix c12 p12 (Ev.reaches_partD mix c13 p13 (Ev.reaches_partD mix c14 p14 (Ev.reaches_partD mix c15 p15 (Ev.reaches_partD mix c16 p16 (Ev.reaches_partD mix c17 p17 (Ev.reaches_partD mix c18 p18 (Ev.reaches_partD mix c19 p19 (Ev.reaches_partD mix c20 p20 (Ev.reaches_partD mix c21 p21 (Ev.reaches_partD mix c22 p22 (Ev.reaches_partD mix c23 p23 (Ev.reaches_partD mix c24 p24 (Ev.reaches_partD mix c25 p25 (Ev.reaches_last mix ran))))))))))))))))))))))))) w hG

/-! ### The row's step -/
set_option maxRecDepth 100000 in
theorem lifted (os : Os) (started : os.Started) (H : Type) (enc : TypeId × Value → H) :
    ReturnsInHanded {} Tryz.checked os 3 .any (fun w args => (Rows.namesKnownSpec.pre enc Tryz.prog Tryz.f3 [] false w args ∧ laidMetH Tryz.prog [("math/bits.deBruijn32tab", Rows.laid_math_bits_deBruijn32tab), ("math/bits.deBruijn64tab", Rows.laid_math_bits_deBruijn64tab), ("internal/strconv.uint64pow10", Rows.laid_internal_strconv_uint64pow10), ("unicode/utf8.acceptRanges", Rows.laid_unicode_utf8_acceptRanges), ("strconv.ErrRange", Rows.laid_strconv_ErrRange), ("strconv.ErrSyntax", Rows.laid_strconv_ErrSyntax), ("unicode.White_Space", Rows.laid_unicode_White_Space), ("strings.asciiSpace", Rows.laid_strings_asciiSpace), ("unicode/utf8.first", Rows.laid_unicode_utf8_first)] w) ∧ sizedMet enc Tryz.prog Tryz.f3 (OpenSpec.ofChange Rows.namesKnownSpec) false w args)
      (Rows.namesKnownSpec.post enc Tryz.prog Tryz.f3 false true false false) := by
  refine returnsInHanded_of_change_and (C := Tryz.checked) (X := fun w _ => laidMetH Tryz.prog [("math/bits.deBruijn32tab", Rows.laid_math_bits_deBruijn32tab), ("math/bits.deBruijn64tab", Rows.laid_math_bits_deBruijn64tab), ("internal/strconv.uint64pow10", Rows.laid_internal_strconv_uint64pow10), ("unicode/utf8.acceptRanges", Rows.laid_unicode_utf8_acceptRanges), ("strconv.ErrRange", Rows.laid_strconv_ErrRange), ("strconv.ErrSyntax", Rows.laid_strconv_ErrSyntax), ("unicode.White_Space", Rows.laid_unicode_White_Space), ("strings.asciiSpace", Rows.laid_strings_asciiSpace), ("unicode/utf8.first", Rows.laid_unicode_utf8_first)] w) (fun _ _ _ hh h => h.of_heap hh) own started (by kernel_rfl) Tryz.func3
    (ChangeSpec.witness_shaped (enc := enc) (C := Tryz.checked) (os := os) (X := fun w _ => laidMetH Tryz.prog [("math/bits.deBruijn32tab", Rows.laid_math_bits_deBruijn32tab), ("math/bits.deBruijn64tab", Rows.laid_math_bits_deBruijn64tab), ("internal/strconv.uint64pow10", Rows.laid_internal_strconv_uint64pow10), ("unicode/utf8.acceptRanges", Rows.laid_unicode_utf8_acceptRanges), ("strconv.ErrRange", Rows.laid_strconv_ErrRange), ("strconv.ErrSyntax", Rows.laid_strconv_ErrSyntax), ("unicode.White_Space", Rows.laid_unicode_White_Space), ("strings.asciiSpace", Rows.laid_strings_asciiSpace), ("unicode/utf8.first", Rows.laid_unicode_utf8_first)] w) false (doorW os) #[] 8 (doorW_os os) (World.shaped_of_ZipB (by kernel_rfl) (by kernel_rfl)) (by kernel_rfl) (by kernel_rfl) (by kernel_rfl) (door_met os _)) ?_
  intro W base args ds gs before hval0 hW _ _ hL _
  have hval : ∀ (j : Nat) t v, Tryz.f3.params[j]? = some t → args[j]? = some v → Value.okWide Tryz.prog W .any base t v := hval0
  have hW' := hW
  obtain ⟨p, q, hA0, hV, rfl, hfz, hnd⟩ := hW
  have hA : DataW.TrodAll enc Tryz.prog W 0 (fun _ => true) true Tryz.f3.params.toList args.toList ds p := hA0
  rw [Tryz.params3] at hA hval
  obtain ⟨rfl, rfl, rfl⟩ := trodAll_none hA
  obtain ⟨rfl, rfl⟩ := trodVars_none hV
  clear hA0 hval0
  simp only [List.append_nil] at hW'
  refine (walk W (globs hL)).mono fun e W' ⟨he, hg⟩ => ?_
  subst he
  exact ⟨_, rfl, Ev.post_closed hW' (fun _ _ _ => (trodAll_cons_mk (shut_bool Tryz.underlying4 _) trodAll_mk0)) (fun _ => rfl) (fun _ => rfl)
    hg.kept (ok_one (by kernel_rfl) rfl (okWide_bool_mk Tryz.underlying4 _))⟩

theorem over : Rows.namesKnownRow.holds Tryz.pinned (OpenSpec.ofChange Rows.namesKnownSpec) :=
  OpenClaim.holds_of_wide 3 Tryz.f3 rfl rfl rfl rfl rfl rfl rfl ⟨rfl, rfl, rfl, rfl, rfl⟩ rfl rfl rfl rfl rfl (by kernel_rfl) Tryz.func3 (by kernel_rfl)
    (of_decide_eq_true (by kernel_rfl)) (by unfold Func.isWrapper; first | (rw [if_pos (by decide +kernel)]; kernel_rfl) | (rw [if_neg (by decide +kernel)]; exact ⟨rfl, rfl⟩))
    (fun os started H enc _ => lifted os started H enc)

/-- The statement's row. -/
theorem row : Rows.NamesKnownSaid :=
  over

set_option maxRecDepth 100000 in
/-- The statement, its row tied to the text of the program. -/
theorem proved : Rows.NamesKnownCardSaid :=
  Claim7.holds_tied_plain_at .later [] [.data, .data, .data, .data, .sentinel, .sentinel, .listed, .data, .pinned] true (true, "dbe259081191202cd078b8893ec9f6456e6535db85044b5ef1d2645fd0d561b1") true
    row (fun _ h => by cases h) (by kernel_rfl) (fun _ h => by cases h) namesKnown_row_tie rfl ⟨rfl, rfl⟩ (by kernel_rfl) rfl
    (fun f fn hf hfn => by
      obtain rfl : f = 3 := Option.some.inj ((show Tryz.prog.funcNamed "lodger/lodgerlaw16.NamesKnown" = some 3 by kernel_rfl).symm.trans hf) |>.symm
      obtain rfl : fn = Tryz.f3 := (Option.some.inj (Tryz.func3.symm.trans hfn)).symm
      exact ⟨by kernel_rfl, fun j t ht => by
        rw [Tryz.params3] at ht
        simp at ht⟩)
    (by kernel_rfl)
#print axioms proved
end Go.Proofs.YtfimobbjldemeaaGreatDoor.namesKnown
