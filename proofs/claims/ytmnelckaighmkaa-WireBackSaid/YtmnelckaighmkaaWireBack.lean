/- The statement WireBack: two rows of things, put one behind the other, are the row of all, and are read as if they had been put at once. No condition: it is shown of all arguments and every world. -/
import Derived.Test.YtmnelckaighmkaaWireBackL
import Derived.WalkKit
import Derived.ProofKit
import Derived.OpenShut
import Derived.ChangeMaps5
set_option maxRecDepth 100000
namespace Go.Proofs.Ytmnelckaighmkaa.wireBack
open Go Go.ChangeShapes Go.WideShapes Go.ChangeAt Go.RowKit Go.ChangeMaps
open Ev wireR

theorem str_rel (R : Bij) (b : ByteArray) : VRel R (.str b.data.toList) (.string b) := by
  show Value.string b = .string ⟨b.data.toList.toArray⟩
  rw [Array.toArray_toList]

/-- Numbers as they come in. -/
theorem ints_form {w : World} {v : Value} (hv : v = .slice none 0 0 ∨ ∃ (a : Addr) (len cap : Nat) (zs : List Int), v = .slice (some a) len cap ∧ len ≤ cap ∧ cap ≤ maxLen ∧ zs.length = cap ∧ (∀ i, i < zs.length → w.cell? (a.add i) = some (.int .u64 (zs.getD i 0))) ∧ (∀ n ∈ zs, (Lit.int .u64 n).wf = true)) :
    ∃ (F : Form Int) (b : Nat), okNums F ∧ (F.inp (fun n => .int .u64 n) b).holds w ∧ ∀ (id : Nat) (l : List Inp), l[id]? = some (F.inp (fun n => .int .u64 n) b) → VRel (inpBij l) (F.av id) v := by
  rcases hv with rfl | ⟨a, len, cap, zs, rfl, hlc, hcm, hzl, hc, hwf⟩
  · exact ⟨.nil, 0, trivial, (fun h => by cases h), fun _ _ _ => rfl⟩
  · by_cases h0 : cap = 0
    · subst h0
      obtain rfl : len = 0 := by omega
      exact ⟨.empty, 0, trivial, (fun h => by cases h), fun _ _ _ => ⟨a, rfl⟩⟩
    · obtain ⟨b, off, rfl, hold⟩ := inp_at (w := w) (a := a) (n := cap) (f := fun i => .int .u64 (zs.getD i 0)) (g := fun i => .int .u64 (zs.getD i 0)) (fun i hi => hc i (by omega)) (fun i _ => rfl) (by omega)
      refine ⟨.row off len cap (fun j => zs.getD (j - off) 0), b, ⟨hlc, fun j hj => ?_⟩, hold, fun id l hl => ⟨⟨b, 0, 0⟩, by simp [inpBij, hl, Form.inp], Nat.zero_le _, rfl⟩⟩
      have hjz : j < zs.length := by omega
      simp only [Nat.add_sub_cancel_left]
      rw [List.getD_eq_getElem?_getD, List.getElem?_eq_getElem hjz]
      exact bounds_u64 (hwf _ (List.getElem_mem hjz))

/-- Texts as they come in. -/
theorem strs_form {w : World} {v : Value} (hv : v = .slice none 0 0 ∨ ∃ (a : Addr) (len cap : Nat) (zs : List ByteArray), v = .slice (some a) len cap ∧ len ≤ cap ∧ cap ≤ maxLen ∧ zs.length = cap ∧ (∀ i, i < zs.length → w.cell? (a.add i) = some (.string (zs.getD i .empty))) ∧ (∀ s ∈ zs, s.size ≤ maxLen)) :
    ∃ (F : Form (List UInt8)) (b : Nat), okTexts F ∧ (F.inp (fun s => .str s) b).holds w ∧ ∀ (id : Nat) (l : List Inp), l[id]? = some (F.inp (fun s => .str s) b) → VRel (inpBij l) (F.av id) v := by
  rcases hv with rfl | ⟨a, len, cap, zs, rfl, hlc, hcm, hzl, hc, _⟩
  · exact ⟨.nil, 0, trivial, (fun h => by cases h), fun _ _ _ => rfl⟩
  · by_cases h0 : cap = 0
    · subst h0
      obtain rfl : len = 0 := by omega
      exact ⟨.empty, 0, trivial, (fun h => by cases h), fun _ _ _ => ⟨a, rfl⟩⟩
    · obtain ⟨b, off, rfl, hold⟩ := inp_at (w := w) (a := a) (n := cap) (f := fun i => .string (zs.getD i .empty)) (g := fun i => .str (zs.getD i .empty).data.toList) (fun i hi => hc i (by omega)) (fun i _ => str_rel _ _) (by omega)
      exact ⟨.row off len cap (fun j => (zs.getD (j - off) .empty).data.toList), b, hlc, hold, fun id l hl => ⟨⟨b, 0, 0⟩, by simp [inpBij, hl, Form.inp], Nat.zero_le _, rfl⟩⟩

theorem own : ownKnob Try.prog.godebug = none := by kernel_rfl

/-! ### The row's step -/
theorem lifted (os : Os) (started : os.Started) (H : Type) (enc : TypeId × Value → H) :
    ReturnsInHanded {} Try.checked os 5 .any (Rows.wireBackSpec.pre6 enc Try.prog Try.f5 Rows.wireBackRow.domain false) (Rows.wireBackSpec.post enc Try.prog Try.f5 false true false false) := by
  refine returnsInHanded_of_change (C := Try.checked) own started (by kernel_rfl) Try.func5
    (ChangeSpec.witness6 (enc := enc) (C := Try.checked) false ⟨#[], #[.slice none 0 0, .slice none 0 0, .slice none 0 0], []⟩ 8 (by kernel_rfl) (by kernel_rfl) (by kernel_rfl) (by kernel_rfl)) ?_
  intro W base args ds gs before hval0 hW hcnd _
  have hval : ∀ (j : Nat) t v, Try.f5.params[j]? = some t → args[j]? = some v → Value.okWide Try.prog W .any base t v := hval0
  have hW' := hW
  obtain ⟨p, q, hA0, hV, rfl, hfz, hnd⟩ := hW
  have hA : DataW.TrodAll enc Try.prog W 0 (fun _ => true) true Try.f5.params.toList args.toList ds p := hA0
  rw [Try.params5] at hA hval
  obtain ⟨v0, vs0, d0, ds0, p0, q0, hargs, rfl, rfl, h0, r0⟩ := trodAll_cons hA
  obtain ⟨v1, vs1, d1, ds1, p1, q1, rfl, rfl, rfl, h1, r1⟩ := trodAll_cons r0
  obtain ⟨v2, vs2, d2, ds2, p2, q2, rfl, rfl, rfl, h2, r2⟩ := trodAll_cons r1
  obtain ⟨rfl, rfl, rfl⟩ := trodAll_nil r2
  obtain rfl : args = #[v0, v1, v2] := by cases args; simp_all
  obtain ⟨rfl, rfl⟩ := trodVars_none hV
  obtain ⟨F0, b0, o0, u0, e0⟩ := ints_form (Ev.in_ints Try.underlying22 Try.underlying25 (by kernel_rfl) (hval 0 22 v0 rfl rfl) h0)
  obtain ⟨F1, b1, o1, u1, e1⟩ := ints_form (Ev.in_ints Try.underlying22 Try.underlying25 (by kernel_rfl) (hval 1 22 v1 rfl rfl) h1)
  obtain ⟨F2, b2, o2, u2, e2⟩ := strs_form (Ev.in_strings Try.underlying23 Try.underlying9 (by kernel_rfl) (hval 2 23 v2 rfl rfl) h2)
  obtain ⟨cmds, hs⟩ := starts F0 F1 F2 b0 b1 b2 o0 o1 o2
  have walk : Calls P 5 #[v0, v1, v2] W fun r w' => r = .returned (.bool true) ∧ Old W w' :=
    law_ok (K := Goal P 0 5 Q) mix hs (fun _ h => h) (vs := [v0, v1, v2]) (fun g c e => by cases e) (fun x hx => by
      rcases List.mem_cons.1 hx with rfl | hx
      · exact u0
      · rcases List.mem_cons.1 hx with rfl | hx
        · exact u1
        · rcases List.mem_cons.1 hx with rfl | hx
          · exact u2
          · exact absurd hx List.not_mem_nil) ⟨_, _, rfl, e0 0 _ rfl, _, _, rfl, e1 1 _ rfl, _, _, rfl, e2 2 _ rfl, rfl⟩
  refine walk.mono fun e W' ⟨he, hg⟩ => ?_
  subst he
  exact ⟨_, rfl, Ev.post_law (by kernel_rfl) (by kernel_rfl) rfl Try.underlying4 rfl hW' rfl hg⟩

theorem held : Rows.wireBackRow.holds Try.pinned (OpenSpec.ofChange Rows.wireBackSpec) :=
  OpenClaim.holds_of_wide 5 Try.f5 rfl rfl rfl rfl rfl rfl rfl ⟨rfl, rfl, rfl, rfl, rfl⟩ rfl rfl rfl rfl rfl (by kernel_rfl) Try.func5 (by kernel_rfl)
    (of_decide_eq_true (by kernel_rfl)) (by unfold Func.isWrapper; first | (rw [if_pos (by decide +kernel)]; kernel_rfl) | (rw [if_neg (by decide +kernel)]; exact ⟨rfl, rfl⟩))
    (fun os started H enc _ => lifted os started H enc)

/-- The statement. -/
theorem proved : Rows.WireBackSaid :=
  held
#print axioms proved
end Go.Proofs.Ytmnelckaighmkaa.wireBack
