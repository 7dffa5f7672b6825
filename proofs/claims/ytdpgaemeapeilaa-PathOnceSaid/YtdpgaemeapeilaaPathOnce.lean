/- The statement PathOnce: what was cleaned is a path, and cleaned once more it is itself; a text is a path just if it is what it is cleaned to. No condition: it is shown of all arguments and every world. The runs are reckoned by the evaluator of the texts Ev*, which is shown to be followed by the model. -/
import Derived.Test.YtdpgaemeapeilaaPaK
import Derived.WalkKit
import Derived.ProofKit
import Derived.OpenShut
import Derived.ChangeMaps5
set_option maxRecDepth 100000
namespace Go.Proofs.Ytdpgaemeapeilaa.pathOnce
open Go Go.ChangeShapes Go.WideShapes Go.ChangeAt Go.RowKit Go.ChangeMaps
open Ev pth

theorem str_rel (R : Bij) (b : ByteArray) : VRel R (.str b.data.toList) (.string b) := by
  show Value.string b = .string ⟨b.data.toList.toArray⟩
  rw [Array.toArray_toList]

theorem walk (b : ByteArray) (w : World) : Calls P 5 #[.string b] w fun r w' => r = .returned (.bool true) ∧ Old w w' := by
  have hG : Globs .leaf w := fun g c e => by cases e
  obtain ⟨cmds, e⟩ := once_ok (s := b.data.toList) (G := .leaf) (Goal P 0 5 fun v _ => v = .bool true)
  exact law_ok mix e (fun _ h => h) (vs := [.string b]) hG (fun x hx => absurd hx List.not_mem_nil) ⟨_, _, rfl, str_rel _ b, rfl⟩

theorem own : ownKnob Try.prog.godebug = none := by kernel_rfl

/-! ### The row's step -/
theorem lifted (os : Os) (started : os.Started) (H : Type) (enc : TypeId × Value → H) :
    ReturnsInHanded {} Try.checked os 5 .any (Rows.pathOnceSpec.pre6 enc Try.prog Try.f5 Rows.pathOnceRow.domain false) (Rows.pathOnceSpec.post enc Try.prog Try.f5 false true false false) := by
  refine returnsInHanded_of_change (C := Try.checked) own started (by kernel_rfl) Try.func5
    (ChangeSpec.witness6 (enc := enc) (C := Try.checked) false ⟨#[], #[.string ⟨#[]⟩], []⟩ 8 (by kernel_rfl) (by kernel_rfl) (by kernel_rfl) (by kernel_rfl)) ?_
  intro W base args ds gs before hval0 hW hcnd _
  have hval : ∀ (j : Nat) t v, Try.f5.params[j]? = some t → args[j]? = some v → Value.okWide Try.prog W .any base t v := hval0
  have hW' := hW
  obtain ⟨p, q, hA0, hV, rfl, hfz, hnd⟩ := hW
  have hA : DataW.TrodAll enc Try.prog W 0 (fun _ => true) true Try.f5.params.toList args.toList ds p := hA0
  rw [Try.params5] at hA hval
  obtain ⟨v0, vs0, d0, ds0, p0, q0, hargs, rfl, rfl, h0, r0⟩ := trodAll_cons hA
  obtain ⟨rfl, rfl, rfl⟩ := trodAll_nil r0
  obtain rfl : args = #[v0] := by cases args; simp_all
  obtain ⟨rfl, rfl⟩ := trodVars_none hV
  obtain ⟨a0, rfl, rfl, rfl, w0⟩ := open_string Try.underlying9 (hval 0 9 v0 rfl rfl) h0
  refine (walk a0 W).mono fun e W' ⟨he, hg⟩ => ?_
  subst he
  exact ⟨_, rfl, Ev.post_law (by kernel_rfl) (by kernel_rfl) rfl Try.underlying4 rfl hW' rfl hg⟩

theorem held : Rows.pathOnceRow.holds Try.pinned (OpenSpec.ofChange Rows.pathOnceSpec) :=
  OpenClaim.holds_of_wide 5 Try.f5 rfl rfl rfl rfl rfl rfl rfl ⟨rfl, rfl, rfl, rfl, rfl⟩ rfl rfl rfl rfl rfl (by kernel_rfl) Try.func5 (by kernel_rfl)
    (of_decide_eq_true (by kernel_rfl)) (by unfold Func.isWrapper; first | (rw [if_pos (by decide +kernel)]; kernel_rfl) | (rw [if_neg (by decide +kernel)]; exact ⟨rfl, rfl⟩))
    (fun os started H enc _ => lifted os started H enc)

/-- The statement. -/
theorem proved : Rows.PathOnceSaid :=
  held
#print axioms proved
end Go.Proofs.Ytdpgaemeapeilaa.pathOnce
