/- The statement WireReads: of any bytes what each reading answers, and whether the reader is spent, is as the document's answer says. No condition: it is shown of all arguments and every world. -/
import Derived.Test.YtmnelckaighmkaaWireReadsL
import Derived.WalkKit
import Derived.ProofKit
import Derived.OpenShut
import Derived.ChangeMaps5
import Derived.Deep.Grids
set_option maxRecDepth 100000
namespace Go.Proofs.Ytmnelckaighmkaa.wireReads
open Go Go.ChangeShapes Go.WideShapes Go.ChangeAt Go.RowKit Go.ChangeMaps
open Ev wireR

theorem str_rel (R : Bij) (b : ByteArray) : VRel R (.str b.data.toList) (.string b) := by
  show Value.string b = .string ⟨b.data.toList.toArray⟩
  rw [Array.toArray_toList]

/-- A slice of truth values that comes in. -/
theorem in_bools {H : Type} {enc : TypeId × Value → H} {w : World} {b0 : Nat} {t e : TypeId} {v : Value} {d : DataW H} {ps : List MemPlace} (ht : P.underlying t = some (.slice e)) (he : P.underlying e = some .bool) (hc : P.cellsOf e = 1)
    (hv : Value.okWide P w .any b0 t v) (h : DataW.Trod enc P w 0 (fun _ => true) true t v d ps) :
    v = .slice none 0 0 ∨ ∃ (a : Addr) (len cap : Nat) (z : Nat → Bool), v = .slice (some a) len cap ∧ len ≤ cap ∧ cap ≤ maxLen ∧ ∀ i, i < cap → w.cell? (a.add i) = some (.bool (z i)) := by
  obtain ⟨a, l, c, rfl⟩ := okWide_slice ht hv
  obtain ⟨fuel, h⟩ := h
  rcases Go.Deep.open_bools ht he hc h with ⟨hcs, _⟩ | ⟨a, len, cap, z, hcs, _, hl, hm, _, hc⟩
  · simp only [Value.cells, List.cons.injEq, and_true] at hcs
    exact .inl hcs
  · simp only [Value.cells, List.cons.injEq, and_true] at hcs
    exact .inr ⟨a, len, cap, z, hcs, hl, hm, hc⟩

theorem walk (s : ByteArray) (v : Value) (w : World) (hv : v = .slice none 0 0 ∨ ∃ (a : Addr) (len cap : Nat) (z : Nat → Bool), v = .slice (some a) len cap ∧ len ≤ cap ∧ cap ≤ maxLen ∧ ∀ i, i < cap → w.cell? (a.add i) = some (.bool (z i))) :
    Calls P 4 #[.string s, v] w fun r w' => r = .returned (.bool true) ∧ Old w w' := by
  have hG : Globs .leaf w := fun g c e => by cases e
  have hl := lim_len s.data.toList
  have hg := lim_ge s.data.toList.length
  rcases hv with rfl | ⟨a, len, cap, z, rfl, hlc, hcm, hc⟩
  · exact law_ok (K := Goal P 0 4 Q) mix (cast (startN s.data.toList 0 _).symm ⟨hg, plain_yy _, newr_ok 0 _, reads (.inl rfl) _ hl⟩) (fun _ h => h) (vs := [.string s, .slice none 0 0]) hG (fun x hx => by
      rcases List.mem_cons.1 hx with rfl | hx
      · exact fun h => by cases h
      · exact absurd hx List.not_mem_nil) ⟨_, _, rfl, str_rel _ _, _, _, rfl, rfl, rfl⟩
  · by_cases h0 : cap = 0
    · subst h0
      obtain rfl : len = 0 := by omega
      exact law_ok (K := Goal P 0 4 Q) mix (cast (startE s.data.toList 0 _).symm ⟨hg, plain_yy _, newr_ok 0 _, reads (.inr (.inl rfl)) _ hl⟩) (fun _ h => h) (vs := [.string s, .slice (some a) 0 0]) hG (fun x hx => by
        rcases List.mem_cons.1 hx with rfl | hx
        · exact fun h => by cases h
        · exact absurd hx List.not_mem_nil) ⟨_, _, rfl, str_rel _ _, _, _, rfl, ⟨a, rfl⟩, rfl⟩
    · obtain ⟨b, off, rfl, hold⟩ := inp_at (w := w) (a := a) (n := cap) (f := fun i => .bool (z i)) (g := fun i => .bool (z i)) (fun i hi => hc i (by omega)) (fun i _ => rfl) (by omega)
      exact law_ok (K := Goal P 0 4 Q) mix (cast (startS s.data.toList b off len cap (fun j => z (j - off)) _).symm ⟨hg, plain_yy _, newr_ok 0 _, reads (.inr (.inr ⟨off, len, cap, fun j => z (j - off), hlc, rfl, rfl⟩)) _ hl⟩) (fun _ h => h) (vs := [.string s, .slice (some ⟨b, off, none⟩) len cap]) hG (fun x hx => by
        rcases List.mem_cons.1 hx with rfl | hx
        · exact hold
        · exact absurd hx List.not_mem_nil) ⟨_, _, rfl, str_rel _ _, _, _, rfl, ⟨⟨b, 0, 0⟩, by simp [inpBij], Nat.zero_le _, rfl⟩, rfl⟩

theorem own : ownKnob Try.prog.godebug = none := by kernel_rfl

/-! ### The row's step -/
theorem lifted (os : Os) (started : os.Started) (H : Type) (enc : TypeId × Value → H) :
    ReturnsInHanded {} Try.checked os 4 .any (Rows.wireReadsSpec.pre6 enc Try.prog Try.f4 Rows.wireReadsRow.domain false) (Rows.wireReadsSpec.post enc Try.prog Try.f4 false true false false) := by
  refine returnsInHanded_of_change (C := Try.checked) own started (by kernel_rfl) Try.func4
    (ChangeSpec.witness6 (enc := enc) (C := Try.checked) false ⟨#[], #[.string .empty, .slice none 0 0], []⟩ 8 (by kernel_rfl) (by kernel_rfl) (by kernel_rfl) (by kernel_rfl)) ?_
  intro W base args ds gs before hval0 hW hcnd _
  have hval : ∀ (j : Nat) t v, Try.f4.params[j]? = some t → args[j]? = some v → Value.okWide Try.prog W .any base t v := hval0
  have hW' := hW
  obtain ⟨p, q, hA0, hV, rfl, hfz, hnd⟩ := hW
  have hA : DataW.TrodAll enc Try.prog W 0 (fun _ => true) true Try.f4.params.toList args.toList ds p := hA0
  rw [Try.params4] at hA hval
  obtain ⟨v0, vs0, d0, ds0, p0, q0, hargs, rfl, rfl, h0, r0⟩ := trodAll_cons hA
  obtain ⟨v1, vs1, d1, ds1, p1, q1, rfl, rfl, rfl, h1, r1⟩ := trodAll_cons r0
  obtain ⟨rfl, rfl, rfl⟩ := trodAll_nil r1
  obtain rfl : args = #[v0, v1] := by cases args; simp_all
  obtain ⟨rfl, rfl⟩ := trodVars_none hV
  obtain ⟨a0, rfl, rfl, rfl, w0⟩ := open_string Try.underlying9 (hval 0 9 v0 rfl rfl) h0
  refine (walk a0 v1 W (in_bools Try.underlying29 Try.underlying4 (by kernel_rfl) (hval 1 29 v1 rfl rfl) h1)).mono fun e W' ⟨he, hg⟩ => ?_
  subst he
  exact ⟨_, rfl, Ev.post_law (by kernel_rfl) (by kernel_rfl) rfl Try.underlying4 rfl hW' rfl hg⟩

theorem held : Rows.wireReadsRow.holds Try.pinned (OpenSpec.ofChange Rows.wireReadsSpec) :=
  OpenClaim.holds_of_wide 4 Try.f4 rfl rfl rfl rfl rfl rfl rfl ⟨rfl, rfl, rfl, rfl, rfl⟩ rfl rfl rfl rfl rfl (by kernel_rfl) Try.func4 (by kernel_rfl)
    (of_decide_eq_true (by kernel_rfl)) (by unfold Func.isWrapper; first | (rw [if_pos (by decide +kernel)]; kernel_rfl) | (rw [if_neg (by decide +kernel)]; exact ⟨rfl, rfl⟩))
    (fun os started H enc _ => lifted os started H enc)

/-- The statement. -/
theorem proved : Rows.WireReadsSaid :=
  held
#print axioms proved
end Go.Proofs.Ytmnelckaighmkaa.wireReads
