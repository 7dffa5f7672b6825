/- The statement ParseBinds: whatever the two numbers, the call returns true and leaves all that was there as it was: of two signs the stronger one takes the operand between, the left one if both are as strong, and the chapter's rows hold. The numbers choose among nine signs each: the 81 runs are reckoned one by one. The condition: the package variables that its row lists hold what it lists; the card ties that to the text of the program. -/
import Derived.Test.YtnocdpnbafhmfaaGreatDoorRows
import Derived.Test.YtnocdpnbafhmfaaGreatDoorEvZ
import Derived.Test.YtnocdpnbafhmfaaGreatDoorEvSc
import Derived.Test.YtnocdpnbafhmfaaGreatDoorParseBindsR0
import Derived.Test.YtnocdpnbafhmfaaGreatDoorParseBindsR1
import Derived.Test.YtnocdpnbafhmfaaGreatDoorParseBindsR2
import Derived.Test.YtnocdpnbafhmfaaGreatDoorParseBindsR3
import Derived.Test.YtnocdpnbafhmfaaGreatDoorParseBindsR4
import Derived.Test.YtnocdpnbafhmfaaGreatDoorParseBindsR5
import Derived.Test.YtnocdpnbafhmfaaGreatDoorParseBindsR6
import Derived.Test.YtnocdpnbafhmfaaGreatDoorCards
import Derived.Test.YtnocdpnbafhmfaaGreatDoorTie
import Derived.SevenTiedAt
import Derived.WalkKit
import Derived.ProofKit
import Derived.OpenShut
import Derived.ChangeMaps5
import Derived.Deep.Grids
set_option maxRecDepth 100000
namespace Go.Proofs.YtnocdpnbafhmfaaGreatDoor.parseBinds
open Go Go.ChangeShapes Go.WideShapes Go.ChangeAt Go.RowKit Go.ChangeMaps
open Ev

theorem own : ownKnob Tryz.prog.godebug = none := by kernel_rfl

theorem u8_range {a : Int} (h : (Lit.int .u8 a).wf = true) : 0 ≤ a ∧ a ≤ 255 := by
  simp only [Lit.wf, Bool.and_eq_true, decide_eq_true_eq] at h
  exact h

theorem own9 {a : Int} (h : 0 ≤ a ∧ a ≤ 255) : 0 ≤ no a ∧ no a < 9 := by
  have e : no a = a % 9 := by
    unfold no
    rw [Int.tmod_eq_emod_of_nonneg h.1]
    exact Ev.wrap_small (by omega) (by omega)
  rw [e]
  omega

theorem nine {x : Int} (h : 0 ≤ x ∧ x < 9) : x = 0 ∨ x = 1 ∨ x = 2 ∨ x = 3 ∨ x = 4 ∨ x = 5 ∨ x = 6 ∨ x = 7 ∨ x = 8 := by omega

theorem row0 (a b : Int) (ha : no a = 0) (hb : 0 ≤ no b ∧ no b < 9) (w : World) (hG : Globs glob w) : Calls P 3 #[.int .u8 a, .int .u8 b] w fun r w' => r = .returned (.bool true) ∧ Old w w' := by
  rcases nine hb with h | h | h | h | h | h | h | h | h
  · exact w00 a b ha h w hG
  · exact w01 a b ha h w hG
  · exact w02 a b ha h w hG
  · exact w03 a b ha h w hG
  · exact w04 a b ha h w hG
  · exact w05 a b ha h w hG
  · exact w06 a b ha h w hG
  · exact w07 a b ha h w hG
  · exact w08 a b ha h w hG

theorem row1 (a b : Int) (ha : no a = 1) (hb : 0 ≤ no b ∧ no b < 9) (w : World) (hG : Globs glob w) : Calls P 3 #[.int .u8 a, .int .u8 b] w fun r w' => r = .returned (.bool true) ∧ Old w w' := by
  rcases nine hb with h | h | h | h | h | h | h | h | h
  · exact w10 a b ha h w hG
  · exact w11 a b ha h w hG
  · exact w12 a b ha h w hG
  · exact w13 a b ha h w hG
  · exact w14 a b ha h w hG
  · exact w15 a b ha h w hG
  · exact w16 a b ha h w hG
  · exact w17 a b ha h w hG
  · exact w18 a b ha h w hG

theorem row2 (a b : Int) (ha : no a = 2) (hb : 0 ≤ no b ∧ no b < 9) (w : World) (hG : Globs glob w) : Calls P 3 #[.int .u8 a, .int .u8 b] w fun r w' => r = .returned (.bool true) ∧ Old w w' := by
  rcases nine hb with h | h | h | h | h | h | h | h | h
  · exact w20 a b ha h w hG
  · exact w21 a b ha h w hG
  · exact w22 a b ha h w hG
  · exact w23 a b ha h w hG
  · exact w24 a b ha h w hG
  · exact w25 a b ha h w hG
  · exact w26 a b ha h w hG
  · exact w27 a b ha h w hG
  · exact w28 a b ha h w hG

theorem row3 (a b : Int) (ha : no a = 3) (hb : 0 ≤ no b ∧ no b < 9) (w : World) (hG : Globs glob w) : Calls P 3 #[.int .u8 a, .int .u8 b] w fun r w' => r = .returned (.bool true) ∧ Old w w' := by
  rcases nine hb with h | h | h | h | h | h | h | h | h
  · exact w30 a b ha h w hG
  · exact w31 a b ha h w hG
  · exact w32 a b ha h w hG
  · exact w33 a b ha h w hG
  · exact w34 a b ha h w hG
  · exact w35 a b ha h w hG
  · exact w36 a b ha h w hG
  · exact w37 a b ha h w hG
  · exact w38 a b ha h w hG

theorem row4 (a b : Int) (ha : no a = 4) (hb : 0 ≤ no b ∧ no b < 9) (w : World) (hG : Globs glob w) : Calls P 3 #[.int .u8 a, .int .u8 b] w fun r w' => r = .returned (.bool true) ∧ Old w w' := by
  rcases nine hb with h | h | h | h | h | h | h | h | h
  · exact w40 a b ha h w hG
  · exact w41 a b ha h w hG
  · exact w42 a b ha h w hG
  · exact w43 a b ha h w hG
  · exact w44 a b ha h w hG
  · exact w45 a b ha h w hG
  · exact w46 a b ha h w hG
  · exact w47 a b ha h w hG
  · exact w48 a b ha h w hG

theorem row5 (a b : Int) (ha : no a = 5) (hb : 0 ≤ no b ∧ no b < 9) (w : World) (hG : Globs glob w) : Calls P 3 #[.int .u8 a, .int .u8 b] w fun r w' => r = .returned (.bool true) ∧ Old w w' := by
  rcases nine hb with h | h | h | h | h | h | h | h | h
  · exact w50 a b ha h w hG
  · exact w51 a b ha h w hG
  · exact w52 a b ha h w hG
  · exact w53 a b ha h w hG
  · exact w54 a b ha h w hG
  · exact w55 a b ha h w hG
  · exact w56 a b ha h w hG
  · exact w57 a b ha h w hG
  · exact w58 a b ha h w hG

theorem row6 (a b : Int) (ha : no a = 6) (hb : 0 ≤ no b ∧ no b < 9) (w : World) (hG : Globs glob w) : Calls P 3 #[.int .u8 a, .int .u8 b] w fun r w' => r = .returned (.bool true) ∧ Old w w' := by
  rcases nine hb with h | h | h | h | h | h | h | h | h
  · exact w60 a b ha h w hG
  · exact w61 a b ha h w hG
  · exact w62 a b ha h w hG
  · exact w63 a b ha h w hG
  · exact w64 a b ha h w hG
  · exact w65 a b ha h w hG
  · exact w66 a b ha h w hG
  · exact w67 a b ha h w hG
  · exact w68 a b ha h w hG

theorem row7 (a b : Int) (ha : no a = 7) (hb : 0 ≤ no b ∧ no b < 9) (w : World) (hG : Globs glob w) : Calls P 3 #[.int .u8 a, .int .u8 b] w fun r w' => r = .returned (.bool true) ∧ Old w w' := by
  rcases nine hb with h | h | h | h | h | h | h | h | h
  · exact w70 a b ha h w hG
  · exact w71 a b ha h w hG
  · exact w72 a b ha h w hG
  · exact w73 a b ha h w hG
  · exact w74 a b ha h w hG
  · exact w75 a b ha h w hG
  · exact w76 a b ha h w hG
  · exact w77 a b ha h w hG
  · exact w78 a b ha h w hG

theorem row8 (a b : Int) (ha : no a = 8) (hb : 0 ≤ no b ∧ no b < 9) (w : World) (hG : Globs glob w) : Calls P 3 #[.int .u8 a, .int .u8 b] w fun r w' => r = .returned (.bool true) ∧ Old w w' := by
  rcases nine hb with h | h | h | h | h | h | h | h | h
  · exact w80 a b ha h w hG
  · exact w81 a b ha h w hG
  · exact w82 a b ha h w hG
  · exact w83 a b ha h w hG
  · exact w84 a b ha h w hG
  · exact w85 a b ha h w hG
  · exact w86 a b ha h w hG
  · exact w87 a b ha h w hG
  · exact w88 a b ha h w hG

theorem walk (a b : Int) (w : World) (wa : (Lit.int .u8 a).wf = true) (wb : (Lit.int .u8 b).wf = true) (hG : Globs glob w) : Calls P 3 #[.int .u8 a, .int .u8 b] w fun r w' => r = .returned (.bool true) ∧ Old w w' := by
  have ha := u8_range wa
  have hb := u8_range wb
  rcases nine (own9 ha) with h | h | h | h | h | h | h | h | h
  · exact row0 a b h (own9 hb) w hG
  · exact row1 a b h (own9 hb) w hG
  · exact row2 a b h (own9 hb) w hG
  · exact row3 a b h (own9 hb) w hG
  · exact row4 a b h (own9 hb) w hG
  · exact row5 a b h (own9 hb) w hG
  · exact row6 a b h (own9 hb) w hG
  · exact row7 a b h (own9 hb) w hG
  · exact row8 a b h (own9 hb) w hG


/-! ### The row's step -/
set_option maxRecDepth 100000 in
theorem lifted (os : Os) (started : os.Started) (H : Type) (enc : TypeId × Value → H) :
    ReturnsInHanded {} Tryz.checked os 3 .any (fun w args => (Rows.parseBindsSpec.pre enc Tryz.prog Tryz.f3 [] false w args ∧ laidMetH Tryz.prog [("math/bits.deBruijn32tab", Rows.laid_math_bits_deBruijn32tab), ("math/bits.deBruijn64tab", Rows.laid_math_bits_deBruijn64tab), ("internal/strconv.uint64pow10", Rows.laid_internal_strconv_uint64pow10), ("unicode/utf8.acceptRanges", Rows.laid_unicode_utf8_acceptRanges), ("errors.errorType", Rows.laid_errors_errorType), ("strconv.ErrRange", Rows.laid_strconv_ErrRange), ("strconv.ErrSyntax", Rows.laid_strconv_ErrSyntax), ("unicode.White_Space", Rows.laid_unicode_White_Space), ("strings.asciiSpace", Rows.laid_strings_asciiSpace), ("unicode/utf8.first", Rows.laid_unicode_utf8_first)] w) ∧ sizedMet enc Tryz.prog Tryz.f3 (OpenSpec.ofChange Rows.parseBindsSpec) false w args)
      (Rows.parseBindsSpec.post enc Tryz.prog Tryz.f3 false true false false) := by
  refine returnsInHanded_of_change_and (C := Tryz.checked) (X := fun w _ => laidMetH Tryz.prog [("math/bits.deBruijn32tab", Rows.laid_math_bits_deBruijn32tab), ("math/bits.deBruijn64tab", Rows.laid_math_bits_deBruijn64tab), ("internal/strconv.uint64pow10", Rows.laid_internal_strconv_uint64pow10), ("unicode/utf8.acceptRanges", Rows.laid_unicode_utf8_acceptRanges), ("errors.errorType", Rows.laid_errors_errorType), ("strconv.ErrRange", Rows.laid_strconv_ErrRange), ("strconv.ErrSyntax", Rows.laid_strconv_ErrSyntax), ("unicode.White_Space", Rows.laid_unicode_White_Space), ("strings.asciiSpace", Rows.laid_strings_asciiSpace), ("unicode/utf8.first", Rows.laid_unicode_utf8_first)] w) (fun _ _ _ hh h => h.of_heap hh) own started (by kernel_rfl) Tryz.func3
    (ChangeSpec.witness_shaped (enc := enc) (C := Tryz.checked) (os := os) (X := fun w _ => laidMetH Tryz.prog [("math/bits.deBruijn32tab", Rows.laid_math_bits_deBruijn32tab), ("math/bits.deBruijn64tab", Rows.laid_math_bits_deBruijn64tab), ("internal/strconv.uint64pow10", Rows.laid_internal_strconv_uint64pow10), ("unicode/utf8.acceptRanges", Rows.laid_unicode_utf8_acceptRanges), ("errors.errorType", Rows.laid_errors_errorType), ("strconv.ErrRange", Rows.laid_strconv_ErrRange), ("strconv.ErrSyntax", Rows.laid_strconv_ErrSyntax), ("unicode.White_Space", Rows.laid_unicode_White_Space), ("strings.asciiSpace", Rows.laid_strings_asciiSpace), ("unicode/utf8.first", Rows.laid_unicode_utf8_first)] w) false (doorW os) #[.int .u8 0, .int .u8 0] 8 (doorW_os os) (World.shaped_of_ZipB (by kernel_rfl) (by kernel_rfl)) (by kernel_rfl) (by kernel_rfl) (by kernel_rfl) (door_met os _)) ?_
  intro W base args ds gs before hval0 hW _ _ hL _
  have hval : ∀ (j : Nat) t v, Tryz.f3.params[j]? = some t → args[j]? = some v → Value.okWide Tryz.prog W .any base t v := hval0
  have hW' := hW
  obtain ⟨p, q, hA0, hV, rfl, hfz, hnd⟩ := hW
  have hA : DataW.TrodAll enc Tryz.prog W 0 (fun _ => true) true Tryz.f3.params.toList args.toList ds p := hA0
  rw [Tryz.params3] at hA hval
  obtain ⟨v0, vs0, d0, ds0, p0, q0, hargs, rfl, rfl, h0, r0⟩ := trodAll_cons hA
  obtain ⟨v1, vs1, d1, ds1, p1, q1, rfl, rfl, rfl, h1, r1⟩ := trodAll_cons r0
  obtain ⟨rfl, rfl, rfl⟩ := trodAll_nil r1
  obtain rfl : args = #[v0, v1] := by cases args; simp_all
  obtain ⟨rfl, rfl⟩ := trodVars_none hV
  obtain ⟨a0, rfl, rfl, rfl, w0⟩ := open_int Tryz.underlying5 (hval 0 5 v0 rfl rfl) h0
  obtain ⟨a1, rfl, rfl, rfl, w1⟩ := open_int Tryz.underlying5 (hval 1 5 v1 rfl rfl) h1
  refine (walk a0 a1 W w0 w1 (globs hL)).mono fun e W' ⟨he, hg⟩ => ?_
  subst he
  exact ⟨_, rfl, Ev.post_law (by kernel_rfl) (by kernel_rfl) rfl Tryz.underlying4 rfl hW' rfl hg⟩

theorem over : Rows.parseBindsRow.holds Tryz.pinned (OpenSpec.ofChange Rows.parseBindsSpec) :=
  OpenClaim.holds_of_wide 3 Tryz.f3 rfl rfl rfl rfl rfl rfl rfl ⟨rfl, rfl, rfl, rfl, rfl⟩ rfl rfl rfl rfl rfl (by kernel_rfl) Tryz.func3 (by kernel_rfl)
    (of_decide_eq_true (by kernel_rfl)) (by unfold Func.isWrapper; first | (rw [if_pos (by decide +kernel)]; kernel_rfl) | (rw [if_neg (by decide +kernel)]; exact ⟨rfl, rfl⟩))
    (fun os started H enc _ => lifted os started H enc)

/-- The statement's row. -/
theorem row : Rows.ParseBindsSaid :=
  over

set_option maxRecDepth 100000 in
/-- The statement, its row tied to the text of the program. -/
theorem proved : Rows.ParseBindsCardSaid :=
  Claim7.holds_tied_plain_at .later [] [.data, .data, .data, .data, .handle, .sentinel, .sentinel, .listed, .data, .pinned] true (true, "cd1dfc374c533db310108a31aa74e5a42d92d3c182f154969ecbab5c84bfa557") true
    row (fun _ h => by cases h) (by kernel_rfl) (fun _ h => by cases h) parseBinds_row_tie rfl ⟨rfl, rfl⟩ (by kernel_rfl) rfl
    (fun f fn hf hfn => by
      obtain rfl : f = 3 := Option.some.inj ((show Tryz.prog.funcNamed "lodger/lodgerlaw10.ParseBinds" = some 3 by kernel_rfl).symm.trans hf) |>.symm
      obtain rfl : fn = Tryz.f3 := (Option.some.inj (Tryz.func3.symm.trans hfn)).symm
      exact ⟨by kernel_rfl, fun j t ht => by
        rw [Tryz.params3] at ht
        obtain rfl : t = 5 := by
          rcases j with _ | _ | j
          · simpa using ht.symm
          · simpa using ht.symm
          · simp at ht
        kernel_rfl⟩)
    (by kernel_rfl)
#print axioms proved
end Go.Proofs.YtnocdpnbafhmfaaGreatDoor.parseBinds
