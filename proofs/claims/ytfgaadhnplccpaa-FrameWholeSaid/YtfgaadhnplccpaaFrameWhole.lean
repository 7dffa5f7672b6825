/- The statement FrameWhole: what was packed, one behind the other, comes out just so, in whatever pieces it comes. No condition: it is shown of all arguments and every world. -/
import Derived.Test.YtfgaadhnplccpaaFrR
import Derived.WalkKit
import Derived.ProofKit
import Derived.OpenShut
import Derived.ChangeMaps5
set_option maxRecDepth 100000
namespace Go.Proofs.Ytfgaadhnplccpaa.frameWhole
open Go Go.ChangeShapes Go.WideShapes Go.ChangeAt Go.RowKit Go.ChangeMaps
open Ev frm frw

theorem str_rel (R : Bij) (b : ByteArray) : VRel R (.str b.data.toList) (.string b) := by
  show Value.string b = .string ⟨b.data.toList.toArray⟩
  rw [Array.toArray_toList]

theorem nil_in (v1 : Value) (w : World)
    (hv : v1 = .slice none 0 0 ∨ ∃ (a : Addr) (len cap : Nat) (zs : List Int), v1 = .slice (some a) len cap ∧ len ≤ cap ∧ cap ≤ maxLen ∧ zs.length = cap ∧ (∀ i, i < zs.length → w.cell? (a.add i) = some (.int .u8 (zs.getD i 0))) ∧ (∀ n ∈ zs, (Lit.int .u8 n).wf = true)) :
    ∃ (A2 : AV) (I2 : Inp), I2.holds w ∧ ∀ (I1 : Inp), VRel (inpBij [I1, I2]) A2 v1 := by
  rcases hv with rfl | ⟨a, len, cap, zs, rfl, hlc, hcm, hzl, hc, _⟩
  · exact ⟨.nils 0 0, ⟨false, 0, .leaf, 0, 0⟩, (fun h => by cases h), fun _ => rfl⟩
  · by_cases h0 : cap = 0
    · subst h0
      obtain rfl : len = 0 := by omega
      exact ⟨.sle, ⟨false, 0, .leaf, 0, 0⟩, (fun h => by cases h), fun _ => ⟨a, rfl⟩⟩
    · obtain ⟨b, off, rfl, hold⟩ := inp_at (w := w) (a := a) (n := cap) (f := fun i => .int .u8 (zs.getD i 0)) (g := fun i => .int .u8 (zs.getD i 0)) (fun i hi => hc i (by omega)) (fun i _ => rfl) (by omega)
      exact ⟨.slc 1 0 off len cap, _, hold, fun _ => ⟨⟨b, 0, 0⟩, by simp [inpBij], Nat.zero_le _, rfl⟩⟩

theorem walk (v0 v1 : Value) (w : World)
    (hv : v0 = .slice none 0 0 ∨ ∃ (a : Addr) (len cap : Nat) (zs : List ByteArray), v0 = .slice (some a) len cap ∧ len ≤ cap ∧ cap ≤ maxLen ∧ zs.length = cap ∧ (∀ i, i < zs.length → w.cell? (a.add i) = some (.string (zs.getD i .empty))) ∧ (∀ s ∈ zs, s.size ≤ maxLen))
    (hv1 : v1 = .slice none 0 0 ∨ ∃ (a : Addr) (len cap : Nat) (zs : List Int), v1 = .slice (some a) len cap ∧ len ≤ cap ∧ cap ≤ maxLen ∧ zs.length = cap ∧ (∀ i, i < zs.length → w.cell? (a.add i) = some (.int .u8 (zs.getD i 0))) ∧ (∀ n ∈ zs, (Lit.int .u8 n).wf = true)) :
    Calls P 4 #[v0, v1] w fun r w' => r = .returned (.bool true) ∧ Old w w' := by
  have hG : Globs .leaf w := fun g c e => by cases e
  rcases hv with rfl | ⟨a, len, cap, zs, rfl, hlc, hcm, hzl, hc, _⟩
  · obtain ⟨A2, I2, hold2, hrel2⟩ := nil_in v1 w hv1
    refine law_ok (K := fun _ => False) mix (cast (s0 A2 I2 0 .leaf _).symm ⟨works_ok, rfl⟩) (fun _ h => h.elim) (vs := [.slice none 0 0, v1]) hG (fun x hx => ?_) ⟨_, _, rfl, rfl, _, _, rfl, hrel2 _, rfl⟩
    rcases List.mem_cons.1 hx with rfl | hx
    · exact fun h => by cases h
    · rcases List.mem_cons.1 hx with rfl | hx
      · exact hold2
      · exact absurd hx List.not_mem_nil
  by_cases h0 : cap = 0
  · subst h0
    obtain rfl : len = 0 := by omega
    obtain ⟨A2, I2, hold2, hrel2⟩ := nil_in v1 w hv1
    refine law_ok (K := fun _ => False) mix (cast (s1 A2 I2 0 .leaf _).symm ⟨works_ok, rfl⟩) (fun _ h => h.elim) (vs := [.slice (some a) 0 0, v1]) hG (fun x hx => ?_) ⟨_, _, rfl, ⟨a, rfl⟩, _, _, rfl, hrel2 _, rfl⟩
    rcases List.mem_cons.1 hx with rfl | hx
    · exact fun h => by cases h
    · rcases List.mem_cons.1 hx with rfl | hx
      · exact hold2
      · exact absurd hx List.not_mem_nil
  obtain ⟨b, off, rfl, hold⟩ := inp_at (w := w) (a := a) (n := cap) (f := fun i => .string (zs.getD i .empty)) (g := fun i => .str (zs.getD i .empty).data.toList) (fun i hi => hc i (by omega)) (fun i _ => str_rel _ _) (by omega)
  rcases hv1 with rfl | ⟨a1, len1, cap1, zs1, rfl, hlc1, hcm1, hzl1, hc1, hwf1⟩
  · refine law_ok (K := Goal P 0 4 Q) mix (cast (w0n off len cap (fun j => (zs.getD (j - off) .empty).data.toList) b 0 0 0 0 .leaf (nb []) _).symm ⟨works_ok, ?_⟩) (fun _ h => h) (vs := [.slice (some ⟨b, off, none⟩) len cap, .slice none 0 0]) hG (fun x hx => ?_) ⟨_, _, rfl, ⟨⟨b, 0, 0⟩, by simp [inpBij], Nat.zero_le _, rfl⟩, _, _, rfl, rfl, rfl⟩
    · exact first_n hlc full_n 30 0 [] [] rfl (Nat.zero_le _) (Nat.zero_le _) rfl (fun _ => rfl)
    · rcases List.mem_cons.1 hx with rfl | hx
      · exact hold
      · rcases List.mem_cons.1 hx with rfl | hx
        · exact fun h => by cases h
        · exact absurd hx List.not_mem_nil
  by_cases h1 : cap1 = 0
  · subst h1
    obtain rfl : len1 = 0 := by omega
    refine law_ok (K := Goal P 0 4 Q) mix (cast (w0e off len cap (fun j => (zs.getD (j - off) .empty).data.toList) b 0 0 0 0 .leaf (nb []) _).symm ⟨works_ok, ?_⟩) (fun _ h => h) (vs := [.slice (some ⟨b, off, none⟩) len cap, .slice (some a1) 0 0]) hG (fun x hx => ?_) ⟨_, _, rfl, ⟨⟨b, 0, 0⟩, by simp [inpBij], Nat.zero_le _, rfl⟩, _, _, rfl, ⟨a1, rfl⟩, rfl⟩
    · exact first_e hlc full_e 30 0 [] [] rfl (Nat.zero_le _) (Nat.zero_le _) rfl (fun _ => rfl)
    · rcases List.mem_cons.1 hx with rfl | hx
      · exact hold
      · rcases List.mem_cons.1 hx with rfl | hx
        · exact fun h => by cases h
        · exact absurd hx List.not_mem_nil
  obtain ⟨b1, off1, rfl, hold1⟩ := inp_at (w := w) (a := a1) (n := cap1) (f := fun i => .int .u8 (zs1.getD i 0)) (g := fun i => .int .u8 (zs1.getD i 0)) (fun i hi => hc1 i (by omega)) (fun i _ => rfl) (by omega)
  refine law_ok (K := Goal P 0 4 Q) mix (cast (w0s off len cap (fun j => (zs.getD (j - off) .empty).data.toList) b b1 off1 len1 cap1 .leaf (fun j => zs1.getD (j - off1) 0) _).symm ⟨works_ok, ?_⟩) (fun _ h => h) (vs := [.slice (some ⟨b, off, none⟩) len cap, .slice (some ⟨b1, off1, none⟩) len1 cap1]) hG (fun x hx => ?_) ⟨_, _, rfl, ⟨⟨b, 0, 0⟩, by simp [inpBij], Nat.zero_le _, rfl⟩, _, _, rfl, ⟨⟨b1, 0, 0⟩, by simp [inpBij], Nat.zero_le _, rfl⟩, rfl⟩
  · refine first_s hlc (full_s hlc1 fun i h1 h2 => ?_) 30 0 [] [] rfl (Nat.zero_le _) (Nat.zero_le _) rfl (fun _ => rfl)
    have hj : i - off1 < zs1.length := by omega
    rw [List.getD_eq_getElem?_getD, List.getElem?_eq_getElem hj]
    have := bounds_u8 (hwf1 _ (List.getElem_mem hj))
    simp only [Option.getD_some]
    omega
  · rcases List.mem_cons.1 hx with rfl | hx
    · exact hold
    · rcases List.mem_cons.1 hx with rfl | hx
      · exact hold1
      · exact absurd hx List.not_mem_nil

theorem own : ownKnob Try.prog.godebug = none := by kernel_rfl

/-! ### The row's step -/
theorem lifted (os : Os) (started : os.Started) (H : Type) (enc : TypeId × Value → H) :
    ReturnsInHanded {} Try.checked os 4 .any (Rows.frameWholeSpec.pre6 enc Try.prog Try.f4 Rows.frameWholeRow.domain false) (Rows.frameWholeSpec.post enc Try.prog Try.f4 false true false false) := by
  refine returnsInHanded_of_change (C := Try.checked) own started (by kernel_rfl) Try.func4
    (ChangeSpec.witness6 (enc := enc) (C := Try.checked) false ⟨#[], #[.slice none 0 0, .slice none 0 0], []⟩ 8 (by kernel_rfl) (by kernel_rfl) (by kernel_rfl) (by kernel_rfl)) ?_
  intro W base args ds gs before hval0 hW hcnd _
  have hval : ∀ (j : Nat) t v, Try.f4.params[j]? = some t → args[j]? = some v → Value.okWide Try.prog W .any base t v := hval0
  have hW' := hW
  obtain ⟨p, q, hA0, hV, rfl, hfz, hnd⟩ := hW
  have hA : DataW.TrodAll enc Try.prog W 0 (fun _ => true) true Try.f4.params.toList args.toList ds p := hA0
  rw [Try.params4] at hA hval
  obtain ⟨v0, vs0, d0, ds0, p0, q0, hargs, rfl, rfl, h0, r0⟩ := trodAll_cons hA
  obtain ⟨v1, vs1, d1, ds1, p1, q1, rfl, rfl, rfl, h1, r1⟩ := trodAll_cons r0
  obtain ⟨rfl, rfl, rfl⟩ := trodAll_nil r1
  obtain rfl : args = #[v0, v1] := by cases args; simp_all
  obtain ⟨rfl, rfl⟩ := trodVars_none hV
  refine (walk v0 v1 W (Ev.in_strings Try.underlying22 Try.underlying9 (by kernel_rfl) (hval 0 22 v0 rfl rfl) h0) (Ev.in_ints Try.underlying32 Try.underlying5 (by kernel_rfl) (hval 1 32 v1 rfl rfl) h1)).mono fun e W' ⟨he, hg⟩ => ?_
  subst he
  exact ⟨_, rfl, Ev.post_law (by kernel_rfl) (by kernel_rfl) rfl Try.underlying4 rfl hW' rfl hg⟩

theorem held : Rows.frameWholeRow.holds Try.pinned (OpenSpec.ofChange Rows.frameWholeSpec) :=
  OpenClaim.holds_of_wide 4 Try.f4 rfl rfl rfl rfl rfl rfl rfl ⟨rfl, rfl, rfl, rfl, rfl⟩ rfl rfl rfl rfl rfl (by kernel_rfl) Try.func4 (by kernel_rfl)
    (of_decide_eq_true (by kernel_rfl)) (by unfold Func.isWrapper; first | (rw [if_pos (by decide +kernel)]; kernel_rfl) | (rw [if_neg (by decide +kernel)]; exact ⟨rfl, rfl⟩))
    (fun os started H enc _ => lifted os started H enc)

/-- The statement. -/
theorem proved : Rows.FrameWholeSaid :=
  held
#print axioms proved
end Go.Proofs.Ytfgaadhnplccpaa.frameWhole
