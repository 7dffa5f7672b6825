/- The statement WirePuts: any numbers' rows, and then any texts', behind one another, are as the document's answer says. No condition: it is shown of all arguments and every world. -/
import Derived.Test.YtmnelckaighmkaaWireL
import Derived.WalkKit
import Derived.ProofKit
import Derived.OpenShut
import Derived.ChangeMaps5
set_option maxRecDepth 100000
namespace Go.Proofs.Ytmnelckaighmkaa.wirePuts
open Go Go.ChangeShapes Go.WideShapes Go.ChangeAt Go.RowKit Go.ChangeMaps
open Ev wireR

theorem str_rel (R : Bij) (b : ByteArray) : VRel R (.str b.data.toList) (.string b) := by
  show Value.string b = .string ⟨b.data.toList.toArray⟩
  rw [Array.toArray_toList]

/-- The second argument. -/
theorem second_in {w : World} {v : Value} (hv : v = .slice none 0 0 ∨ ∃ (a : Addr) (len cap : Nat) (zs : List ByteArray), v = .slice (some a) len cap ∧ len ≤ cap ∧ cap ≤ maxLen ∧ zs.length = cap ∧ (∀ i, i < zs.length → w.cell? (a.add i) = some (.string (zs.getD i .empty))) ∧ (∀ s ∈ zs, s.size ≤ maxLen)) :
    ∃ (A2 : AV) (I2 : Inp), Second A2 I2.obj ∧ I2.holds w ∧ ∀ (I1 : Inp), VRel (inpBij [I2, I1]) A2 v := by
  rcases hv with rfl | ⟨a, len, cap, zs, rfl, hlc, hcm, hzl, hc, _⟩
  · exact ⟨.nils 0 0, ⟨false, 0, .leaf, 0, 0⟩, .inl rfl, (fun h => by cases h), fun _ => rfl⟩
  · by_cases h0 : cap = 0
    · subst h0
      obtain rfl : len = 0 := by omega
      exact ⟨.sle, ⟨false, 0, .leaf, 0, 0⟩, .inr (.inl rfl), (fun h => by cases h), fun _ => ⟨a, rfl⟩⟩
    · obtain ⟨b, off, rfl, hold⟩ := inp_at (w := w) (a := a) (n := cap) (f := fun i => .string (zs.getD i .empty)) (g := fun i => .str (zs.getD i .empty).data.toList) (fun i hi => hc i (by omega)) (fun i _ => str_rel _ _) (by omega)
      unfold maxLen at hcm
      exact ⟨.slc 0 0 off len cap, _, .inr (.inr ⟨off, len, cap, fun j => (zs.getD (j - off) .empty).data.toList, by omega, hlc, rfl, rfl⟩), hold, fun _ => ⟨⟨b, 0, 0⟩, by simp [inpBij], Nat.zero_le _, rfl⟩⟩

theorem objE (I : Inp) : (Bool.rec ((fun _ => none) ()) (some (AObj.ro I.cells I.lo I.n)) I.there : Option AObj) = I.obj := by
  obtain ⟨t, b, c, lo, n⟩ := I
  cases t <;> rfl

theorem walk (v0 v1 : Value) (w : World)
    (hv : v0 = .slice none 0 0 ∨ ∃ (a : Addr) (len cap : Nat) (zs : List Int), v0 = .slice (some a) len cap ∧ len ≤ cap ∧ cap ≤ maxLen ∧ zs.length = cap ∧ (∀ i, i < zs.length → w.cell? (a.add i) = some (.int .u64 (zs.getD i 0))) ∧ (∀ n ∈ zs, (Lit.int .u64 n).wf = true))
    (hv1 : v1 = .slice none 0 0 ∨ ∃ (a : Addr) (len cap : Nat) (zs : List ByteArray), v1 = .slice (some a) len cap ∧ len ≤ cap ∧ cap ≤ maxLen ∧ zs.length = cap ∧ (∀ i, i < zs.length → w.cell? (a.add i) = some (.string (zs.getD i .empty))) ∧ (∀ s ∈ zs, s.size ≤ maxLen)) :
    Calls P 3 #[v0, v1] w fun r w' => r = .returned (.bool true) ∧ Old w w' := by
  have hG : Globs .leaf w := fun g c e => by cases e
  obtain ⟨A2, I2, h2, hold2, hrel2⟩ := second_in hv1
  rcases hv with rfl | ⟨a, len, cap, zs, rfl, hlc, hcm, hzl, hc, hwf⟩
  · refine law_ok (K := Goal P 0 3 Q) mix (cast (startNil A2 I2 0 .leaf _).symm (by rw [objE]; exact second h2 none [] (by simp))) (fun _ h => h) (vs := [.slice none 0 0, v1]) hG (fun x hx => ?_) ⟨_, _, rfl, rfl, _, _, rfl, hrel2 _, rfl⟩
    rcases List.mem_cons.1 hx with rfl | hx
    · exact hold2
    · rcases List.mem_cons.1 hx with rfl | hx
      · exact fun h => by cases h
      · exact absurd hx List.not_mem_nil
  · by_cases h0 : cap = 0
    · subst h0
      obtain rfl : len = 0 := by omega
      refine law_ok (K := Goal P 0 3 Q) mix (cast (startSle A2 I2 0 .leaf _).symm (by rw [objE]; exact second h2 none [] (by simp))) (fun _ h => h) (vs := [.slice (some a) 0 0, v1]) hG (fun x hx => ?_) ⟨_, _, rfl, ⟨a, rfl⟩, _, _, rfl, hrel2 _, rfl⟩
      rcases List.mem_cons.1 hx with rfl | hx
      · exact hold2
      · rcases List.mem_cons.1 hx with rfl | hx
        · exact fun h => by cases h
        · exact absurd hx List.not_mem_nil
    · obtain ⟨b, off, rfl, hold⟩ := inp_at (w := w) (a := a) (n := cap) (f := fun i => .int .u64 (zs.getD i 0)) (g := fun i => .int .u64 (zs.getD i 0)) (fun i hi => hc i (by omega)) (fun i _ => rfl) (by omega)
      unfold maxLen at hcm
      refine law_ok (K := Goal P 0 3 Q) mix (cast (start A2 I2 b off len cap (fun j => zs.getD (j - off) 0) _).symm ?_) (fun _ h => h) (vs := [.slice (some ⟨b, off, none⟩) len cap, v1]) hG (fun x hx => ?_) ⟨_, _, rfl, ⟨⟨b, 0, 0⟩, by simp [inpBij], Nat.zero_le _, rfl⟩, _, _, rfl, hrel2 _, rfl⟩
      · rw [objE]
        refine numbers h2 off len cap (by omega) hlc _ (fun j h1 h2 => ?_) 60 0 [] (by omega) (by omega) (by omega) (by simp)
        have hj : j - off < zs.length := by omega
        rw [List.getD_eq_getElem?_getD, List.getElem?_eq_getElem hj]
        exact bounds_u64 (hwf _ (List.getElem_mem hj))
      · rcases List.mem_cons.1 hx with rfl | hx
        · exact hold2
        · rcases List.mem_cons.1 hx with rfl | hx
          · exact hold
          · exact absurd hx List.not_mem_nil

theorem own : ownKnob Try.prog.godebug = none := by kernel_rfl

/-! ### The row's step -/
theorem lifted (os : Os) (started : os.Started) (H : Type) (enc : TypeId × Value → H) :
    ReturnsInHanded {} Try.checked os 3 .any (Rows.wirePutsSpec.pre6 enc Try.prog Try.f3 Rows.wirePutsRow.domain false) (Rows.wirePutsSpec.post enc Try.prog Try.f3 false true false false) := by
  refine returnsInHanded_of_change (C := Try.checked) own started (by kernel_rfl) Try.func3
    (ChangeSpec.witness6 (enc := enc) (C := Try.checked) false ⟨#[], #[.slice none 0 0, .slice none 0 0], []⟩ 8 (by kernel_rfl) (by kernel_rfl) (by kernel_rfl) (by kernel_rfl)) ?_
  intro W base args ds gs before hval0 hW hcnd _
  have hval : ∀ (j : Nat) t v, Try.f3.params[j]? = some t → args[j]? = some v → Value.okWide Try.prog W .any base t v := hval0
  have hW' := hW
  obtain ⟨p, q, hA0, hV, rfl, hfz, hnd⟩ := hW
  have hA : DataW.TrodAll enc Try.prog W 0 (fun _ => true) true Try.f3.params.toList args.toList ds p := hA0
  rw [Try.params3] at hA hval
  obtain ⟨v0, vs0, d0, ds0, p0, q0, hargs, rfl, rfl, h0, r0⟩ := trodAll_cons hA
  obtain ⟨v1, vs1, d1, ds1, p1, q1, rfl, rfl, rfl, h1, r1⟩ := trodAll_cons r0
  obtain ⟨rfl, rfl, rfl⟩ := trodAll_nil r1
  obtain rfl : args = #[v0, v1] := by cases args; simp_all
  obtain ⟨rfl, rfl⟩ := trodVars_none hV
  refine (walk v0 v1 W (Ev.in_ints Try.underlying22 Try.underlying25 (by kernel_rfl) (hval 0 22 v0 rfl rfl) h0) (Ev.in_strings Try.underlying23 Try.underlying9 (by kernel_rfl) (hval 1 23 v1 rfl rfl) h1)).mono fun e W' ⟨he, hg⟩ => ?_
  subst he
  exact ⟨_, rfl, Ev.post_law (by kernel_rfl) (by kernel_rfl) rfl Try.underlying4 rfl hW' rfl hg⟩

theorem held : Rows.wirePutsRow.holds Try.pinned (OpenSpec.ofChange Rows.wirePutsSpec) :=
  OpenClaim.holds_of_wide 3 Try.f3 rfl rfl rfl rfl rfl rfl rfl ⟨rfl, rfl, rfl, rfl, rfl⟩ rfl rfl rfl rfl rfl (by kernel_rfl) Try.func3 (by kernel_rfl)
    (of_decide_eq_true (by kernel_rfl)) (by unfold Func.isWrapper; first | (rw [if_pos (by decide +kernel)]; kernel_rfl) | (rw [if_neg (by decide +kernel)]; exact ⟨rfl, rfl⟩))
    (fun os started H enc _ => lifted os started H enc)

/-- The statement. -/
theorem proved : Rows.WirePutsSaid :=
  held
#print axioms proved
end Go.Proofs.Ytmnelckaighmkaa.wirePuts
