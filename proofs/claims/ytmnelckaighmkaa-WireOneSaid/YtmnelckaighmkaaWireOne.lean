/- The statement WireOne: a number's row has one to nine bytes; the next number's is above it, and no shorter; bytes ahead of which a number is read begin with its row. No condition: it is shown of all arguments and every world. -/
import Derived.Test.YtmnelckaighmkaaWireOneL
import Derived.WalkKit
import Derived.ProofKit
import Derived.OpenShut
import Derived.ChangeMaps5
set_option maxRecDepth 100000
namespace Go.Proofs.Ytmnelckaighmkaa.wireOne
open Go Go.ChangeShapes Go.WideShapes Go.ChangeAt Go.RowKit Go.ChangeMaps
open Ev wireR

theorem begins (n : Int) (s : List UInt8) (K : AM → Prop) : optK (startL P 6 [.int .u64 n, .str s] [] .leaf) (Obl P 6 Q 0 K []) = K (startM P 6 [.int .u64 n, .str s] .leaf) := by kernel_rfl

theorem walk (n : Int) (b : ByteArray) (hn : (Lit.int .u64 n).wf = true) (w : World) : Calls P 6 #[.int .u64 n, .string b] w fun r w' => r = .returned (.bool true) ∧ Old w w' := by
  obtain ⟨h0, h1⟩ := bounds_u64 hn
  refine law_ok (K := Goal P 0 6 Q) mix (cast (begins n b.data.toList _).symm (start n h0 h1 _)) (fun _ h => h) (vs := [.int .u64 n, .string b]) (fun g c e => by cases e) (fun x hx => absurd hx List.not_mem_nil) ⟨_, _, rfl, rfl, _, _, rfl, ?_, rfl⟩
  show Value.string b = .string ⟨b.data.toList.toArray⟩
  rw [Array.toArray_toList]

theorem own : ownKnob Try.prog.godebug = none := by kernel_rfl

/-! ### The row's step -/
theorem lifted (os : Os) (started : os.Started) (H : Type) (enc : TypeId × Value → H) :
    ReturnsInHanded {} Try.checked os 6 .any (Rows.wireOneSpec.pre6 enc Try.prog Try.f6 Rows.wireOneRow.domain false) (Rows.wireOneSpec.post enc Try.prog Try.f6 false true false false) := by
  refine returnsInHanded_of_change (C := Try.checked) own started (by kernel_rfl) Try.func6
    (ChangeSpec.witness6 (enc := enc) (C := Try.checked) false ⟨#[], #[.int .u64 0, .string .empty], []⟩ 8 (by kernel_rfl) (by kernel_rfl) (by kernel_rfl) (by kernel_rfl)) ?_
  intro W base args ds gs before hval0 hW hcnd _
  have hval : ∀ (j : Nat) t v, Try.f6.params[j]? = some t → args[j]? = some v → Value.okWide Try.prog W .any base t v := hval0
  have hW' := hW
  obtain ⟨p, q, hA0, hV, rfl, hfz, hnd⟩ := hW
  have hA : DataW.TrodAll enc Try.prog W 0 (fun _ => true) true Try.f6.params.toList args.toList ds p := hA0
  rw [Try.params6] at hA hval
  obtain ⟨v0, vs0, d0, ds0, p0, q0, hargs, rfl, rfl, h0, r0⟩ := trodAll_cons hA
  obtain ⟨v1, vs1, d1, ds1, p1, q1, rfl, rfl, rfl, h1, r1⟩ := trodAll_cons r0
  obtain ⟨rfl, rfl, rfl⟩ := trodAll_nil r1
  obtain rfl : args = #[v0, v1] := by cases args; simp_all
  obtain ⟨rfl, rfl⟩ := trodVars_none hV
  obtain ⟨a0, rfl, rfl, rfl, w0⟩ := open_int Try.underlying25 (hval 0 25 v0 rfl rfl) h0
  obtain ⟨a1, rfl, rfl, rfl, w1⟩ := open_string Try.underlying9 (hval 1 9 v1 rfl rfl) h1
  refine (walk a0 a1 w0 W).mono fun e W' ⟨he, hg⟩ => ?_
  subst he
  exact ⟨_, rfl, Ev.post_law (by kernel_rfl) (by kernel_rfl) rfl Try.underlying4 rfl hW' rfl hg⟩

theorem held : Rows.wireOneRow.holds Try.pinned (OpenSpec.ofChange Rows.wireOneSpec) :=
  OpenClaim.holds_of_wide 6 Try.f6 rfl rfl rfl rfl rfl rfl rfl ⟨rfl, rfl, rfl, rfl, rfl⟩ rfl rfl rfl rfl rfl (by kernel_rfl) Try.func6 (by kernel_rfl)
    (of_decide_eq_true (by kernel_rfl)) (by unfold Func.isWrapper; first | (rw [if_pos (by decide +kernel)]; kernel_rfl) | (rw [if_neg (by decide +kernel)]; exact ⟨rfl, rfl⟩))
    (fun os started H enc _ => lifted os started H enc)

/-- The statement. -/
theorem proved : Rows.WireOneSaid :=
  held
#print axioms proved
end Go.Proofs.Ytmnelckaighmkaa.wireOne
