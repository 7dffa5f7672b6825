/- The statement PrintKnown: the call, which takes nothing, returns true and leaves all that was there as it was. The condition: the package variables that its row lists hold what it lists; the card ties that to the text of the program. The call is run by the evaluator of the texts Ev*, whose runs are shown to be the model's, and the kernel reckons the run. -/
import Derived.Test.YtaeeepmjghgflaaGreatDoorRows
import Derived.Test.YtaeeepmjghgflaaGreatDoorEvZ
import Derived.Test.YtaeeepmjghgflaaGreatDoorPrintKnownG
import Derived.Test.YtaeeepmjghgflaaGreatDoorPrintKnownK1
import Derived.Test.YtaeeepmjghgflaaGreatDoorPrintKnownK3
import Derived.Test.YtaeeepmjghgflaaGreatDoorPrintKnownK5
import Derived.Test.YtaeeepmjghgflaaGreatDoorPrintKnownK7
import Derived.Test.YtaeeepmjghgflaaGreatDoorPrintKnownK9
import Derived.Test.YtaeeepmjghgflaaGreatDoorPrintKnownK11
import Derived.Test.YtaeeepmjghgflaaGreatDoorPrintKnownK13
import Derived.Test.YtaeeepmjghgflaaGreatDoorPrintKnownK15
import Derived.Test.YtaeeepmjghgflaaGreatDoorPrintKnownK16
import Derived.Test.YtaeeepmjghgflaaGreatDoorPrintKnownK17
import Derived.Test.YtaeeepmjghgflaaGreatDoorPrintKnownK18
import Derived.Test.YtaeeepmjghgflaaGreatDoorPrintKnownK19
import Derived.Test.YtaeeepmjghgflaaGreatDoorPrintKnownK20
import Derived.Test.YtaeeepmjghgflaaGreatDoorCards
import Derived.Test.YtaeeepmjghgflaaGreatDoorTie
import Derived.SevenTiedAt
import Derived.WalkKit
import Derived.ProofKit
import Derived.OpenShut
namespace Go.Proofs.YtaeeepmjghgflaaGreatDoor.printKnown
open Go.ChangeShapes Go.WideShapes Go.ChangeAt Go.RowKit

theorem own : ownKnob Tryz.prog.godebug = none := by kernel_rfl

theorem mix : Tryz.prog.follows .mixedOrders = true := Checked.mixed Tryz.checked

/-- The run, or its last part, reckoned. -/
theorem ran : Ev.runA Tryz.prog 3 13010 m58 = some (.bool true) := by kernel_rfl

theorem walk (w : World) (hG : Ev.Globs glob w) : Calls Tryz.prog 3 #[] w fun e w' => e = .returned (.bool true) ∧ Ev.Old w w' :=
  Ev.reaches_callsD mix c1 p1 (Ev.reaches_partD mix c2 p2 (Ev.reaches_partD mix c3 p3 (Ev.reaches_partD mix c4 p4 (Ev.reaches_partD mix c5 p5 (Ev.reaches_partD mix c6 p6 (Ev.reaches_partD mix c7 p7 (Ev.reaches_partD mix c8 p8 (Ev.reaches_partD mix c9 p9 (Ev.reaches_partD mix c10 p10 (Ev.reaches_partD mix c11 p11 (Ev.reaches_partD mix c12 p12 (Ev.reaches_partD mix c13 p13 (Ev.reaches_partD mix c14 p14 (Ev.reaches_partD mix c15 p15 (Ev.reaches_partD mix c16 p16 (Ev.reaches_partD mix c17 p17 (Ev.reaches_partD mix c18 p18 (Ev.reaches_partD mix c19 p19 (Ev.reaches_partD mix c20 p20 (Ev.reaches_partD mix c21 p21 (Ev.reaches_partD mix c22 p22 (Ev.reaches_partD mix c23 p23 (Ev.reaches_partD mix c24 p24 (Ev.reaches_partD mix c25 p25 (Ev.reaches_partD mix c26 p26 (Ev.reaches_partD mix c27 p27 (Ev.reaches_partD mix c28 p28 (Ev.reaches_partD mix c29 p29 (Ev.reaches_partD mix c30 p30 (Ev.reaches_partD mix c31 p31 (Ev.reaches_partD mix c32 p32 (Ev.reaches_partD mix c33 p33 (Ev.reaches_partD mix c34 p34 (Ev.reaches_partD mix c35 p35 (Ev.reaches_partD mix c36 p36 (Ev.reaches_partD mix c37 p37 (Ev.reaches_partD mix c38 p38 (Ev.reaches_partD mix c39 p39 (Ev.reaches_partD mix c40 p40 (Ev.reaches_partD mix c41 p41 (Ev.reaches_partD mix c42 p42 (Ev.reaches_partD mix c43 p43 (Ev.reaches_partD mix c44 p44 (Ev.reaches_partD mix c45 p45 (Ev.reaches_partD mix c46 p46 (Ev.reaches_partD mix c47 p47 (Ev.reaches_partD mix c48 p48 (Ev.reaches_partD mix c49 p49 (Ev.reaches_partD mix c50 p50 (Ev.reaches_partD mix c51 p51 (Ev.reaches_partD mix c52 p52 (Ev.reaches_partD mix c53 p53 (Ev.reaches_partD mix c54 p54 (Ev.reaches_partD mix c55 p55 (Ev.reaches_partD mix c56 p56 (Ev.reaches_partD mix c57 p57 (Ev.reaches_partD mix c58 p58 (Ev.reaches_last mix ran)))))))))))))))))))))))))))))))))))))))))))))))))))))))))) w hG

/-! ### The row's step -/
set_option maxRecDepth 100000 in
theorem lifted (os : Os) (started : os.Started) (H : Type) (enc : TypeId × Value → H) :
    ReturnsInHanded {} Tryz.checked os 3 .any (fun w args => (Rows.printKnownSpec.pre enc Tryz.prog Tryz.f3 [] false w args ∧ laidMetH Tryz.prog [("math/bits.deBruijn32tab", Rows.laid_math_bits_deBruijn32tab), ("math/bits.deBruijn64tab", Rows.laid_math_bits_deBruijn64tab), ("internal/strconv.uint64pow10", Rows.laid_internal_strconv_uint64pow10), ("unicode/utf8.acceptRanges", Rows.laid_unicode_utf8_acceptRanges), ("strconv.ErrRange", Rows.laid_strconv_ErrRange), ("strconv.ErrSyntax", Rows.laid_strconv_ErrSyntax), ("unicode.White_Space", Rows.laid_unicode_White_Space), ("strings.asciiSpace", Rows.laid_strings_asciiSpace), ("unicode/utf8.first", Rows.laid_unicode_utf8_first)] w) ∧ sizedMet enc Tryz.prog Tryz.f3 (OpenSpec.ofChange Rows.printKnownSpec) false w args)
      (Rows.printKnownSpec.post enc Tryz.prog Tryz.f3 false true false false) := by
  refine returnsInHanded_of_change_and (C := Tryz.checked) (X := fun w _ => laidMetH Tryz.prog [("math/bits.deBruijn32tab", Rows.laid_math_bits_deBruijn32tab), ("math/bits.deBruijn64tab", Rows.laid_math_bits_deBruijn64tab), ("internal/strconv.uint64pow10", Rows.laid_internal_strconv_uint64pow10), ("unicode/utf8.acceptRanges", Rows.laid_unicode_utf8_acceptRanges), ("strconv.ErrRange", Rows.laid_strconv_ErrRange), ("strconv.ErrSyntax", Rows.laid_strconv_ErrSyntax), ("unicode.White_Space", Rows.laid_unicode_White_Space), ("strings.asciiSpace", Rows.laid_strings_asciiSpace), ("unicode/utf8.first", Rows.laid_unicode_utf8_first)] w) (fun _ _ _ hh h => h.of_heap hh) own started (by kernel_rfl) Tryz.func3
    (ChangeSpec.witness_shaped (enc := enc) (C := Tryz.checked) (os := os) (X := fun w _ => laidMetH Tryz.prog [("math/bits.deBruijn32tab", Rows.laid_math_bits_deBruijn32tab), ("math/bits.deBruijn64tab", Rows.laid_math_bits_deBruijn64tab), ("internal/strconv.uint64pow10", Rows.laid_internal_strconv_uint64pow10), ("unicode/utf8.acceptRanges", Rows.laid_unicode_utf8_acceptRanges), ("strconv.ErrRange", Rows.laid_strconv_ErrRange), ("strconv.ErrSyntax", Rows.laid_strconv_ErrSyntax), ("unicode.White_Space", Rows.laid_unicode_White_Space), ("strings.asciiSpace", Rows.laid_strings_asciiSpace), ("unicode/utf8.first", Rows.laid_unicode_utf8_first)] w) false (doorW os) #[] 8 (doorW_os os) (World.shaped_of_ZipB (by kernel_rfl) (by kernel_rfl)) (by kernel_rfl) (by kernel_rfl) (by kernel_rfl) (door_met os _)) ?_
  intro W base args ds gs before hval0 hW _ _ hL _
  have hval : ∀ (j : Nat) t v, Tryz.f3.params[j]? = some t → args[j]? = some v → Value.okWide Tryz.prog W .any base t v := hval0
  have hW' := hW
  obtain ⟨p, q, hA0, hV, rfl, hfz, hnd⟩ := hW
  have hA : DataW.TrodAll enc Tryz.prog W 0 (fun _ => true) true Tryz.f3.params.toList args.toList ds p := hA0
  rw [Tryz.params3] at hA hval
  obtain ⟨rfl, rfl, rfl⟩ := trodAll_none hA
  obtain ⟨rfl, rfl⟩ := trodVars_none hV
  clear hA0 hval0
  simp only [List.append_nil] at hW'
  refine (walk W (globs hL)).mono fun e W' ⟨he, hg⟩ => ?_
  subst he
  exact ⟨_, rfl, Ev.post_closed hW' (fun _ _ _ => (trodAll_cons_mk (shut_bool Tryz.underlying4 _) trodAll_mk0)) (fun _ => rfl) (fun _ => rfl)
    hg.kept (ok_one (by kernel_rfl) rfl (okWide_bool_mk Tryz.underlying4 _))⟩

theorem over : Rows.printKnownRow.holds Tryz.pinned (OpenSpec.ofChange Rows.printKnownSpec) :=
  OpenClaim.holds_of_wide 3 Tryz.f3 rfl rfl rfl rfl rfl rfl rfl ⟨rfl, rfl, rfl, rfl, rfl⟩ rfl rfl rfl rfl rfl (by kernel_rfl) Tryz.func3 (by kernel_rfl)
    (of_decide_eq_true (by kernel_rfl)) (by unfold Func.isWrapper; first | (rw [if_pos (by decide +kernel)]; kernel_rfl) | (rw [if_neg (by decide +kernel)]; exact ⟨rfl, rfl⟩))
    (fun os started H enc _ => lifted os started H enc)

/-- The statement's row. -/
theorem row : Rows.PrintKnownSaid :=
  over

set_option maxRecDepth 100000 in
/-- The statement, its row tied to the text of the program. -/
theorem proved : Rows.PrintKnownCardSaid :=
  Claim7.holds_tied_plain_at .later [] [.data, .data, .data, .data, .sentinel, .sentinel, .listed, .data, .pinned] true (true, "83f6054fb10cf923be29ecf78184ff697b40464979a6873d96efbea7f553c1b7") true
    row (fun _ h => by cases h) (by kernel_rfl) (fun _ h => by cases h) printKnown_row_tie rfl ⟨rfl, rfl⟩ (by kernel_rfl) rfl
    (fun f fn hf hfn => by
      obtain rfl : f = 3 := Option.some.inj ((show Tryz.prog.funcNamed "lodger/lodgerlaw11.PrintKnown" = some 3 by kernel_rfl).symm.trans hf) |>.symm
      obtain rfl : fn = Tryz.f3 := (Option.some.inj (Tryz.func3.symm.trans hfn)).symm
      exact ⟨by kernel_rfl, fun j t ht => by
        rw [Tryz.params3] at ht
        simp at ht⟩)
    (by kernel_rfl)
#print axioms proved
end Go.Proofs.YtaeeepmjghgflaaGreatDoor.printKnown
