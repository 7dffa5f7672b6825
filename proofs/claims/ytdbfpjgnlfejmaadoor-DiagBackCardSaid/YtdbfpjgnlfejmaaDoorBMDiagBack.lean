/- The statement DiagBack: whatever list of diagnostics and whatever bytes come in, the call returns true and leaves all that was there as it was: a list comes back from its bytes, sorted, and bytes that are taken are laid again just so; with the condition that the package variable of the words holds what its own initialiser lays. -/
import Derived.Test.YtdbfpjgnlfejmaaDoorRows
import Derived.Test.YtdbfpjgnlfejmaaDoorCards
import Derived.Test.YtdbfpjgnlfejmaaDoorTie
import Derived.SevenTiedAt
import Derived.WalkKit
import Derived.ProofKit
import Derived.OpenShut
import Derived.ChangeMaps5
import Derived.Deep.Grids
import Derived.IntWalk
import Derived.Laws.IdiomStrings
import Derived.Laws.Externs
import Derived.Lib.Bytealg
import Derived.Lib.MakeNoZero
import Derived.Lib.UnsafeStr
import GoSem.Dispatch
import GoSem.Step
import Derived.Laws.Strings
import Derived.Laws.World
import Derived.Below
import Derived.Carry
import Derived.ChangeSlices
import Derived.SliceStrings
import Derived.Deep.Slices
import Derived.Orders
import Derived.Shelf.SlSortCmp.WholeK
import Derived.Ground.SlsfProg
import Derived.Test.YtdbfpjgnlfejmaaDoorProg
import Derived.Sort.Statements
import Derived.Shelf.SlSortCmp.Insertion
import Derived.Deep.Strs
import Derived.MakeChecks
import Derived.LaidMore
import Derived.Stop.Joined
import Derived.Laws.Sem
import Derived.FnData
import Derived.Calls
import Derived.Test.YtdbfpjgnlfejmaaDoorB00
import Derived.Test.YtdbfpjgnlfejmaaDoorB01
import Derived.Test.YtdbfpjgnlfejmaaDoorB02
import Derived.Test.YtdbfpjgnlfejmaaDoorB03
import Derived.Test.YtdbfpjgnlfejmaaDoorB04
import Derived.Test.YtdbfpjgnlfejmaaDoorB05
import Derived.Test.YtdbfpjgnlfejmaaDoorB06
import Derived.Test.YtdbfpjgnlfejmaaDoorB07
import Derived.Test.YtdbfpjgnlfejmaaDoorB08
set_option maxRecDepth 100000
namespace Go.Proofs.YtdbfpjgnlfejmaaDoor.diagBack
open Go Go.ChangeShapes Go.WideShapes Go.ChangeAt Go.RowKit Go.ChangeMaps
open Ev dg
open mq (GW globs door_met)

theorem own : ownKnob Tryd.prog.godebug = none := by kernel_rfl

theorem str_rel (R : Bij) (b : ByteArray) : VRel R (.str b.data.toList) (.string b) := by
  show Value.string b = .string ⟨b.data.toList.toArray⟩
  rw [Array.toArray_toList]

theorem walk (v : Value) (t : ByteArray) (w : World) (hv : v = .slice none 0 0 ∨ (∃ a, v = .slice (some a) 0 0) ∨ ∃ (b off len cap : Nat) (f : Nat → Dg), v = .slice (some ⟨b, off, none⟩) len cap ∧ len ≤ cap ∧ (Inp.mk true b (.fn fun j => some (elo f off j)) off (off + cap * 3)).holds w) (hG : Globs GW w) :
    Calls P 5 #[v, .string t] w fun r w' => r = .returned (.bool true) ∧ Old w w' := by
  rcases hv with rfl | ⟨a, rfl⟩ | ⟨b, off, len, cap, f, rfl, hl, hi⟩
  · exact law_calls (a := _) (l := []) (args := [.nils 0 0, .str t.data.toList]) (vs := [.slice none 0 0, .string t]) rfl hG (fun _ hx => absurd hx List.not_mem_nil) ⟨_, _, rfl, rfl, _, _, rfl, str_rel _ _, rfl⟩ (back_nil _)
  · exact law_calls (a := _) (l := []) (args := [.sle, .str t.data.toList]) (vs := [.slice (some a) 0 0, .string t]) rfl hG (fun _ hx => absurd hx List.not_mem_nil) ⟨_, _, rfl, ⟨a, rfl⟩, _, _, rfl, str_rel _ _, rfl⟩ (back_sle _)
  · exact law_calls (a := _) (l := [Inp.mk true b (.fn fun j => some (elo f off j)) off (off + cap * 3)]) (args := [.slc 0 0 off len cap, .str t.data.toList]) (vs := [.slice (some ⟨b, off, none⟩) len cap, .string t]) rfl hG
      (fun x hx => by rw [List.mem_singleton.1 hx]; exact hi) ⟨_, _, rfl, ⟨⟨b, 0, 0⟩, rfl, Nat.zero_le _, rfl⟩, _, _, rfl, str_rel _ _, rfl⟩
      (back_ok (n := len) (cp := cap) (z := off + cap * 3) (f := f) (by omega) hl)

/-! ### The row's step -/
set_option maxRecDepth 100000 in
theorem lifted (os : Os) (started : os.Started) (H : Type) (enc : TypeId × Value → H) :
    ReturnsInHanded {} Tryd.checked os 5 .any (fun w args => (Rows.diagBackSpec.pre enc Tryd.prog Tryd.f5 [] false w args ∧ laidMetH Tryd.prog [("lodger/diag.words", Rows.laid_lodger_diag_words)] w) ∧ sizedMet enc Tryd.prog Tryd.f5 (OpenSpec.ofChange Rows.diagBackSpec) false w args)
      (Rows.diagBackSpec.post enc Tryd.prog Tryd.f5 false true false false) := by
  refine returnsInHanded_of_change_and (C := Tryd.checked) (X := fun w _ => laidMetH Tryd.prog [("lodger/diag.words", Rows.laid_lodger_diag_words)] w) (fun _ _ _ hh h => h.of_heap hh) own started (by kernel_rfl) Tryd.func5
    (ChangeSpec.witness_shaped (enc := enc) (C := Tryd.checked) (os := os) (X := fun w _ => laidMetH Tryd.prog [("lodger/diag.words", Rows.laid_lodger_diag_words)] w) false (World.doorLaid Tryd.prog 400 os) #[.slice none 0 0, .string .empty] 8 rfl (World.shaped_of_RefB (by kernel_rfl) (by kernel_rfl)) (by kernel_rfl) (by kernel_rfl) (by kernel_rfl) (door_met os _)) ?_
  intro W base args ds gs before hval0 hW _ _ hL _
  have hval : ∀ (j : Nat) t v, Tryd.f5.params[j]? = some t → args[j]? = some v → Value.okWide Tryd.prog W .any base t v := hval0
  have hW' := hW
  obtain ⟨p, q, hA0, hV, rfl, hfz, hnd⟩ := hW
  have hA : DataW.TrodAll enc Tryd.prog W 0 (fun _ => true) true Tryd.f5.params.toList args.toList ds p := hA0
  rw [Tryd.params5] at hA hval
  obtain ⟨v0, vs0, d0, ds0, p0, q0, hargs, rfl, rfl, h0, r0⟩ := trodAll_cons hA
  obtain ⟨v1, vs1, d1, ds1, p1, q1, rfl, rfl, rfl, h1, r1⟩ := trodAll_cons r0
  obtain ⟨rfl, rfl, rfl⟩ := trodAll_nil r1
  obtain rfl : args = #[v0, v1] := by cases args; simp_all
  obtain ⟨rfl, rfl⟩ := trodVars_none hV
  obtain ⟨a1, rfl, rfl, rfl, w1⟩ := open_string Tryd.underlying9 (hval 1 9 v1 rfl rfl) h1
  refine (walk v0 a1 W (diags_form (in_diags (hval 0 22 v0 rfl rfl) h0)) (globs hL)).mono fun e W' ⟨he, hg⟩ => ?_
  subst he
  exact ⟨_, rfl, Ev.post_law (by kernel_rfl) (by kernel_rfl) rfl Tryd.underlying4 rfl hW' rfl hg⟩

theorem over : Rows.diagBackRow.holds Tryd.pinned (OpenSpec.ofChange Rows.diagBackSpec) :=
  OpenClaim.holds_of_wide 5 Tryd.f5 rfl rfl rfl rfl rfl rfl rfl ⟨rfl, rfl, rfl, rfl, rfl⟩ rfl rfl rfl rfl rfl (by kernel_rfl) Tryd.func5 (by kernel_rfl)
    (of_decide_eq_true (by kernel_rfl)) (by unfold Func.isWrapper; first | (rw [if_pos (by decide +kernel)]; kernel_rfl) | (rw [if_neg (by decide +kernel)]; exact ⟨rfl, rfl⟩))
    (fun os started H enc _ => lifted os started H enc)

/-- The statement's row. -/
theorem row : Rows.DiagBackSaid :=
  over

set_option maxRecDepth 100000 in
/-- The statement, its row tied to the text of the program. -/
theorem proved : Rows.DiagBackCardSaid :=
  Claim7.holds_tied_plain_at .later [] [.data] true (true, "a7bebf9a0ed2280a856f9b17a72e71a0ed185be35e8fe28c10c7a8eb0fd3d898") false
    row (fun _ h => by cases h) (by kernel_rfl) (fun _ h => by cases h) diagBack_row_tie rfl ⟨rfl, rfl⟩ (by kernel_rfl) rfl
    (fun f fn hf hfn => by
      obtain rfl : f = 5 := Option.some.inj ((show Tryd.prog.funcNamed "lodger/lodgerlaw26.DiagBack" = some 5 by kernel_rfl).symm.trans hf) |>.symm
      obtain rfl : fn = Tryd.f5 := (Option.some.inj (Tryd.func5.symm.trans hfn)).symm
      exact ⟨by kernel_rfl, fun j t ht => by
        rw [Tryd.params5] at ht
        have : t = 9 ∨ t = 22 := by
          rcases j with _ | _ | j
          · exact (.inr (by simpa using ht.symm))
          · exact (.inl (by simpa using ht.symm))
          · simp at ht
        rcases this with rfl | rfl
        · exact (show Tryd.prog.wantsStandIn 9 = false by kernel_rfl)
        · exact (show Tryd.prog.wantsStandIn 22 = false by kernel_rfl)⟩)
    (by kernel_rfl)
#print axioms proved
end Go.Proofs.YtdbfpjgnlfejmaaDoor.diagBack
