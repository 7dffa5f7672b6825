/- The statement FrameCuts: whatever is fed, in whatever pieces, the frames that come, and whether it is broken, are as the document's answer says. No condition: it is shown of all arguments and every world. -/
import Derived.Test.YtfgaadhnplccpaaFrJ
import Derived.WalkKit
import Derived.ProofKit
import Derived.OpenShut
import Derived.ChangeMaps5
set_option maxRecDepth 100000
namespace Go.Proofs.Ytfgaadhnplccpaa.frameCuts
open Go Go.ChangeShapes Go.WideShapes Go.ChangeAt Go.RowKit Go.ChangeMaps
open Ev frm

theorem str_rel (R : Bij) (b : ByteArray) : VRel R (.str b.data.toList) (.string b) := by
  show Value.string b = .string ⟨b.data.toList.toArray⟩
  rw [Array.toArray_toList]

theorem walk (v0 : Value) (w : World)
    (hv : v0 = .slice none 0 0 ∨ ∃ (a : Addr) (len cap : Nat) (zs : List ByteArray), v0 = .slice (some a) len cap ∧ len ≤ cap ∧ cap ≤ maxLen ∧ zs.length = cap ∧ (∀ i, i < zs.length → w.cell? (a.add i) = some (.string (zs.getD i .empty))) ∧ (∀ s ∈ zs, s.size ≤ maxLen)) :
    Calls P 3 #[v0] w fun r w' => r = .returned (.bool true) ∧ Old w w' := by
  have hG : Globs .leaf w := fun g c e => by cases e
  rcases hv with rfl | ⟨a, len, cap, zs, rfl, hlc, hcm, hzl, hc, _⟩
  · refine law_ok (K := fun _ => False) mix (cast (nil0 0 .leaf _).symm ⟨works_ok, rfl⟩) (fun _ h => h.elim) (vs := [.slice none 0 0]) hG (fun x hx => ?_) ⟨_, _, rfl, rfl, rfl⟩
    rcases List.mem_cons.1 hx with rfl | hx
    · exact fun h => by cases h
    · exact absurd hx List.not_mem_nil
  · by_cases h0 : cap = 0
    · subst h0
      obtain rfl : len = 0 := by omega
      refine law_ok (K := fun _ => False) mix (cast (nil1 0 .leaf _).symm ⟨works_ok, rfl⟩) (fun _ h => h.elim) (vs := [.slice (some a) 0 0]) hG (fun x hx => ?_) ⟨_, _, rfl, ⟨a, rfl⟩, rfl⟩
      rcases List.mem_cons.1 hx with rfl | hx
      · exact fun h => by cases h
      · exact absurd hx List.not_mem_nil
    · obtain ⟨b, off, rfl, hold⟩ := inp_at (w := w) (a := a) (n := cap) (f := fun i => .string (zs.getD i .empty)) (g := fun i => .str (zs.getD i .empty).data.toList) (fun i hi => hc i (by omega)) (fun i _ => str_rel _ _) (by omega)
      refine law_ok (K := Goal P 0 3 Q) mix (cast (cuts0 b off len cap (fun j => (zs.getD (j - off) .empty).data.toList) _).symm ?_) (fun _ h => h) (vs := [.slice (some ⟨b, off, none⟩) len cap]) hG (fun x hx => ?_) ⟨_, _, rfl, ⟨⟨b, 0, 0⟩, by simp [inpBij], Nat.zero_le _, rfl⟩, rfl⟩
      · refine rounds (off := off) (f := fun j => (zs.getD (j - off) .empty).data.toList) hlc 60 0 [] _ rfl (Nat.zero_le _) ?_
        have := Head.none (off := off) (len := len) (cap := cap) (f := fun j => (zs.getD (j - off) .empty).data.toList) (i := 0) (S := []) rfl rfl
        exact this
      · rcases List.mem_cons.1 hx with rfl | hx
        · exact hold
        · exact absurd hx List.not_mem_nil

theorem own : ownKnob Try.prog.godebug = none := by kernel_rfl

/-! ### The row's step -/
theorem lifted (os : Os) (started : os.Started) (H : Type) (enc : TypeId × Value → H) :
    ReturnsInHanded {} Try.checked os 3 .any (Rows.frameCutsSpec.pre6 enc Try.prog Try.f3 Rows.frameCutsRow.domain false) (Rows.frameCutsSpec.post enc Try.prog Try.f3 false true false false) := by
  refine returnsInHanded_of_change (C := Try.checked) own started (by kernel_rfl) Try.func3
    (ChangeSpec.witness6 (enc := enc) (C := Try.checked) false ⟨#[], #[.slice none 0 0], []⟩ 8 (by kernel_rfl) (by kernel_rfl) (by kernel_rfl) (by kernel_rfl)) ?_
  intro W base args ds gs before hval0 hW hcnd _
  have hval : ∀ (j : Nat) t v, Try.f3.params[j]? = some t → args[j]? = some v → Value.okWide Try.prog W .any base t v := hval0
  have hW' := hW
  obtain ⟨p, q, hA0, hV, rfl, hfz, hnd⟩ := hW
  have hA : DataW.TrodAll enc Try.prog W 0 (fun _ => true) true Try.f3.params.toList args.toList ds p := hA0
  rw [Try.params3] at hA hval
  obtain ⟨v0, vs0, d0, ds0, p0, q0, hargs, rfl, rfl, h0, r0⟩ := trodAll_cons hA
  obtain ⟨rfl, rfl, rfl⟩ := trodAll_nil r0
  obtain rfl : args = #[v0] := by cases args; simp_all
  obtain ⟨rfl, rfl⟩ := trodVars_none hV
  refine (walk v0 W (Ev.in_strings Try.underlying22 Try.underlying9 (by kernel_rfl) (hval 0 22 v0 rfl rfl) h0)).mono fun e W' ⟨he, hg⟩ => ?_
  subst he
  exact ⟨_, rfl, Ev.post_law (by kernel_rfl) (by kernel_rfl) rfl Try.underlying4 rfl hW' rfl hg⟩

theorem held : Rows.frameCutsRow.holds Try.pinned (OpenSpec.ofChange Rows.frameCutsSpec) :=
  OpenClaim.holds_of_wide 3 Try.f3 rfl rfl rfl rfl rfl rfl rfl ⟨rfl, rfl, rfl, rfl, rfl⟩ rfl rfl rfl rfl rfl (by kernel_rfl) Try.func3 (by kernel_rfl)
    (of_decide_eq_true (by kernel_rfl)) (by unfold Func.isWrapper; first | (rw [if_pos (by decide +kernel)]; kernel_rfl) | (rw [if_neg (by decide +kernel)]; exact ⟨rfl, rfl⟩))
    (fun os started H enc _ => lifted os started H enc)

/-- The statement. -/
theorem proved : Rows.FrameCutsSaid :=
  held
#print axioms proved
end Go.Proofs.Ytfgaadhnplccpaa.frameCuts
