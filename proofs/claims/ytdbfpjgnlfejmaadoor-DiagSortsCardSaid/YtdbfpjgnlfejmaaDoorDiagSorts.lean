/- The statement DiagSorts: whatever list of diagnostics comes in and whatever code, the call returns true and leaves all that was there as it was: the order, the bytes and the words are those that the document gives; with the condition that the package variable of the words holds what its own initialiser lays. -/
import Derived.Test.YtdbfpjgnlfejmaaDoorRows
import Derived.Test.YtdbfpjgnlfejmaaDoorEvZ
import Derived.Test.YtdbfpjgnlfejmaaDoorDgH
import Derived.Test.YtdbfpjgnlfejmaaDoorCards
import Derived.Test.YtdbfpjgnlfejmaaDoorTie
import Derived.SevenTiedAt
import Derived.WalkKit
import Derived.ProofKit
import Derived.OpenShut
import Derived.ChangeMaps5
import Derived.Deep.Grids
set_option maxRecDepth 100000
namespace Go.Proofs.YtdbfpjgnlfejmaaDoor.diagSorts
open Go Go.ChangeShapes Go.WideShapes Go.ChangeAt Go.RowKit Go.ChangeMaps
open Ev dg
open mq (GW globs door_met)

theorem own : ownKnob Tryd.prog.godebug = none := by kernel_rfl

theorem walk (v : Value) (t : Int) (w : World) (hv : v = .slice none 0 0 ∨ (∃ a, v = .slice (some a) 0 0) ∨ ∃ (b off len cap : Nat) (f : Nat → Dg), v = .slice (some ⟨b, off, none⟩) len cap ∧ len ≤ cap ∧ (Inp.mk true b (.fn fun j => some (elo f off j)) off (off + cap * 3)).holds w) (hG : Globs GW w) :
    Calls P 3 #[v, .int .i64 t] w fun r w' => r = .returned (.bool true) ∧ Old w w' := by
  rcases hv with rfl | ⟨a, rfl⟩ | ⟨b, off, len, cap, f, rfl, hl, hi⟩
  · exact law_calls (a := _) (l := []) (args := [.nils 0 0, .int .i64 t]) (vs := [.slice none 0 0, .int .i64 t]) rfl hG (fun _ hx => absurd hx List.not_mem_nil) ⟨_, _, rfl, rfl, _, _, rfl, rfl, rfl⟩ sorts_nil
  · exact law_calls (a := _) (l := []) (args := [.sle, .int .i64 t]) (vs := [.slice (some a) 0 0, .int .i64 t]) rfl hG (fun _ hx => absurd hx List.not_mem_nil) ⟨_, _, rfl, ⟨a, rfl⟩, _, _, rfl, rfl, rfl⟩ sorts_sle
  · exact law_calls (a := _) (l := [Inp.mk true b (.fn fun j => some (elo f off j)) off (off + cap * 3)]) (args := [.slc 0 0 off len cap, .int .i64 t]) (vs := [.slice (some ⟨b, off, none⟩) len cap, .int .i64 t]) rfl hG
      (fun x hx => by rw [List.mem_singleton.1 hx]; exact hi) ⟨_, _, rfl, ⟨⟨b, 0, 0⟩, rfl, Nat.zero_le _, rfl⟩, _, _, rfl, rfl, rfl⟩
      (sorts_ok (n := len) (cp := cap) (z := off + cap * 3) (f := f) (by omega) hl)

/-! ### The row's step -/
set_option maxRecDepth 100000 in
theorem lifted (os : Os) (started : os.Started) (H : Type) (enc : TypeId × Value → H) :
    ReturnsInHanded {} Tryd.checked os 3 .any (fun w args => (Rows.diagSortsSpec.pre enc Tryd.prog Tryd.f3 [] false w args ∧ laidMetH Tryd.prog [("lodger/diag.words", Rows.laid_lodger_diag_words)] w) ∧ sizedMet enc Tryd.prog Tryd.f3 (OpenSpec.ofChange Rows.diagSortsSpec) false w args)
      (Rows.diagSortsSpec.post enc Tryd.prog Tryd.f3 false true false false) := by
  refine returnsInHanded_of_change_and (C := Tryd.checked) (X := fun w _ => laidMetH Tryd.prog [("lodger/diag.words", Rows.laid_lodger_diag_words)] w) (fun _ _ _ hh h => h.of_heap hh) own started (by kernel_rfl) Tryd.func3
    (ChangeSpec.witness_shaped (enc := enc) (C := Tryd.checked) (os := os) (X := fun w _ => laidMetH Tryd.prog [("lodger/diag.words", Rows.laid_lodger_diag_words)] w) false (World.doorLaid Tryd.prog 400 os) #[.slice none 0 0, .int .i64 0] 8 rfl (World.shaped_of_RefB (by kernel_rfl) (by kernel_rfl)) (by kernel_rfl) (by kernel_rfl) (by kernel_rfl) (door_met os _)) ?_
  intro W base args ds gs before hval0 hW _ _ hL _
  have hval : ∀ (j : Nat) t v, Tryd.f3.params[j]? = some t → args[j]? = some v → Value.okWide Tryd.prog W .any base t v := hval0
  have hW' := hW
  obtain ⟨p, q, hA0, hV, rfl, hfz, hnd⟩ := hW
  have hA : DataW.TrodAll enc Tryd.prog W 0 (fun _ => true) true Tryd.f3.params.toList args.toList ds p := hA0
  rw [Tryd.params3] at hA hval
  obtain ⟨v0, vs0, d0, ds0, p0, q0, hargs, rfl, rfl, h0, r0⟩ := trodAll_cons hA
  obtain ⟨v1, vs1, d1, ds1, p1, q1, rfl, rfl, rfl, h1, r1⟩ := trodAll_cons r0
  obtain ⟨rfl, rfl, rfl⟩ := trodAll_nil r1
  obtain rfl : args = #[v0, v1] := by cases args; simp_all
  obtain ⟨rfl, rfl⟩ := trodVars_none hV
  obtain ⟨a1, rfl, rfl, rfl, w1⟩ := open_int Tryd.underlying3 (hval 1 3 v1 rfl rfl) h1
  refine (walk v0 a1 W (diags_form (in_diags (hval 0 22 v0 rfl rfl) h0)) (globs hL)).mono fun e W' ⟨he, hg⟩ => ?_
  subst he
  exact ⟨_, rfl, Ev.post_law (by kernel_rfl) (by kernel_rfl) rfl Tryd.underlying4 rfl hW' rfl hg⟩

theorem over : Rows.diagSortsRow.holds Tryd.pinned (OpenSpec.ofChange Rows.diagSortsSpec) :=
  OpenClaim.holds_of_wide 3 Tryd.f3 rfl rfl rfl rfl rfl rfl rfl ⟨rfl, rfl, rfl, rfl, rfl⟩ rfl rfl rfl rfl rfl (by kernel_rfl) Tryd.func3 (by kernel_rfl)
    (of_decide_eq_true (by kernel_rfl)) (by unfold Func.isWrapper; first | (rw [if_pos (by decide +kernel)]; kernel_rfl) | (rw [if_neg (by decide +kernel)]; exact ⟨rfl, rfl⟩))
    (fun os started H enc _ => lifted os started H enc)

/-- The statement's row. -/
theorem row : Rows.DiagSortsSaid :=
  over

set_option maxRecDepth 100000 in
/-- The statement, its row tied to the text of the program. -/
theorem proved : Rows.DiagSortsCardSaid :=
  Claim7.holds_tied_plain_at .later [] [.data] true (true, "a7bebf9a0ed2280a856f9b17a72e71a0ed185be35e8fe28c10c7a8eb0fd3d898") false
    row (fun _ h => by cases h) (by kernel_rfl) (fun _ h => by cases h) diagSorts_row_tie rfl ⟨rfl, rfl⟩ (by kernel_rfl) rfl
    (fun f fn hf hfn => by
      obtain rfl : f = 3 := Option.some.inj ((show Tryd.prog.funcNamed "lodger/lodgerlaw26.DiagSorts" = some 3 by kernel_rfl).symm.trans hf) |>.symm
      obtain rfl : fn = Tryd.f3 := (Option.some.inj (Tryd.func3.symm.trans hfn)).symm
      exact ⟨by kernel_rfl, fun j t ht => by
        rw [Tryd.params3] at ht
        have : t = 3 ∨ t = 22 := by
          rcases j with _ | _ | j
          · exact (.inr (by simpa using ht.symm))
          · exact (.inl (by simpa using ht.symm))
          · simp at ht
        rcases this with rfl | rfl
        · exact (show Tryd.prog.wantsStandIn 3 = false by kernel_rfl)
        · exact (show Tryd.prog.wantsStandIn 22 = false by kernel_rfl)⟩)
    (by kernel_rfl)
#print axioms proved
end Go.Proofs.YtdbfpjgnlfejmaaDoor.diagSorts
