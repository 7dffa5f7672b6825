/- The statement SessSlots: whatever the steps, the slots and the time to live, the call returns true and leaves all that was there as it was: after each login no more sessions live than there are slots, who is refused changes nothing that lives, and where one is over a slot is free again. The condition: the one package variable that its row lists holds what it lists; the card ties that to the text of the program. The runs are reckoned by the evaluator of the texts Ev*, which is shown to be followed by the model; lists of sessions are of any length, told by functions; the marks are those of the program's Mac, whose value is known of any key and text. -/
import Derived.Test.YtcdgbadnnodbeaaDoorRows
import Derived.Test.YtcdgbadnnodbeaaDoorEvZ
import Derived.Test.YtcdgbadnnodbeaaDoorSsC
import Derived.Test.YtcdgbadnnodbeaaDoorShaWj
import Derived.Test.YtcdgbadnnodbeaaDoorCards
import Derived.Test.YtcdgbadnnodbeaaDoorTie
import Derived.SevenTiedAt
import Derived.WalkKit
import Derived.ProofKit
import Derived.OpenShut
import Derived.ChangeMaps5
import Derived.Deep.Grids
set_option maxRecDepth 100000
namespace Go.Proofs.YtcdgbadnnodbeaaDoor.sessSlots
open Go Go.ChangeShapes Go.WideShapes Go.ChangeAt Go.RowKit Go.ChangeMaps
open Ev shaW

theorem own : ownKnob Tryd.prog.godebug = none := by kernel_rfl

theorem walk (v : Value) (a1 a2 : Int) (w : World) (w1 : (Lit.int .u8 a1).wf = true)
    (hv : v = .slice none 0 0 ∨ ∃ (a : Addr) (len cap : Nat) (zs : List Int), v = .slice (some a) len cap ∧ len ≤ cap ∧ cap ≤ maxLen ∧ zs.length = cap ∧ (∀ i, i < zs.length → w.cell? (a.add i) = some (.int .u8 (zs.getD i 0))) ∧ (∀ n ∈ zs, (Lit.int .u8 n).wf = true))
    (hG : Globs GK w) : Calls P 3 #[v, .int .u8 a1, .int .u8 a2] w fun r w' => r = .returned (.bool true) ∧ Old w w' := by
  have h1 := bounds_u8 w1
  rcases hv with rfl | ⟨a, len, cap, zs, rfl, hlc, _, hzl, hc, hwf⟩
  · exact law_ok (K := fun _ => False) mix (cast (wsNil (fun v => v = .bool true) a1 a2 GK _).symm ⟨worksS_ok, rfl⟩) (fun _ h => h.elim) (vs := [.slice none 0 0, .int .u8 a1, .int .u8 a2]) hG (fun _ hx => absurd hx List.not_mem_nil) ⟨_, _, rfl, rfl, _, _, rfl, rfl, _, _, rfl, rfl, rfl⟩
  by_cases h0 : cap = 0
  · subst h0
    obtain rfl : len = 0 := by omega
    exact law_ok (K := fun _ => False) mix (cast (wsSle (fun v => v = .bool true) a1 a2 GK _).symm ⟨worksS_ok, rfl⟩) (fun _ h => h.elim) (vs := [.slice (some a) 0 0, .int .u8 a1, .int .u8 a2]) hG (fun _ hx => absurd hx List.not_mem_nil) ⟨_, _, rfl, ⟨a, rfl⟩, _, _, rfl, rfl, _, _, rfl, rfl, rfl⟩
  obtain ⟨b, off, rfl, hold⟩ := inp_at (w := w) (a := a) (n := cap) (f := fun i => .int .u8 (zs.getD i 0)) (g := fun i => .int .u8 (zs.getD i 0)) (fun i hi => hc i (by omega)) (fun i _ => rfl) (by omega)
  have hx : ∀ j, 0 ≤ (fun j => zs.getD (j - off) 0) j ∧ (fun j => zs.getD (j - off) 0) j ≤ 255 := fun j => by
    show 0 ≤ zs.getD (j - off) 0 ∧ zs.getD (j - off) 0 ≤ 255
    rw [List.getD_eq_getElem?_getD]
    by_cases hj : j - off < zs.length
    · rw [List.getElem?_eq_getElem hj]
      have := bounds_u8 (hwf _ (List.getElem_mem hj))
      simp only [Option.getD_some]
      omega
    · rw [List.getElem?_eq_none (by omega)]
      exact ⟨by decide, by decide⟩
  have hmo : 0 ≤ IntKind.i64.wrap (a1.tmod 20) := by
    rw [Int.tmod_eq_emod_of_nonneg h1.1, IntWalk.i64_in _ (by omega)]
    omega
  exact law_ok (K := Goal P 0 3 Qt) mix (cast (wStart (fun v => v = .bool true) b off len cap a1 a2 (fun j => zs.getD (j - off) 0) GK _).symm ⟨worksS_ok, ln_loop hx hlc hmo 50 0 0 rfl (by decide) (by decide)⟩) (fun _ h => h)
    (vs := [.slice (some ⟨b, off, none⟩) len cap, .int .u8 a1, .int .u8 a2]) hG
    (fun x hx => by
      rcases List.mem_cons.1 hx with rfl | hx
      · exact hold
      · exact absurd hx List.not_mem_nil)
    ⟨_, _, rfl, ⟨⟨b, 0, 0⟩, by simp [inpBij], Nat.zero_le _, rfl⟩, _, _, rfl, rfl, _, _, rfl, rfl, rfl⟩

/-! ### The row's step -/
set_option maxRecDepth 100000 in
theorem lifted (os : Os) (started : os.Started) (H : Type) (enc : TypeId × Value → H) :
    ReturnsInHanded {} Tryd.checked os 3 .any (fun w args => (Rows.sessSlotsSpec.pre enc Tryd.prog Tryd.f3 [] false w args ∧ laidMetH Tryd.prog [("lodger/sha.roundWords", Rows.laid_lodger_sha_roundWords)] w) ∧ sizedMet enc Tryd.prog Tryd.f3 (OpenSpec.ofChange Rows.sessSlotsSpec) false w args)
      (Rows.sessSlotsSpec.post enc Tryd.prog Tryd.f3 false true false false) := by
  refine returnsInHanded_of_change_and (C := Tryd.checked) (X := fun w _ => laidMetH Tryd.prog [("lodger/sha.roundWords", Rows.laid_lodger_sha_roundWords)] w) (fun _ _ _ hh h => h.of_heap hh) own started (by kernel_rfl) Tryd.func3
    (ChangeSpec.witness_shaped (enc := enc) (C := Tryd.checked) (os := os) (X := fun w _ => laidMetH Tryd.prog [("lodger/sha.roundWords", Rows.laid_lodger_sha_roundWords)] w) false (World.doorLaid Tryd.prog 400 os) #[.slice none 0 0, .int .u8 0, .int .u8 0] 8 rfl (World.shaped_of_RefB (by kernel_rfl) (by kernel_rfl)) (by kernel_rfl) (by kernel_rfl) (by kernel_rfl) (door_met os _)) ?_
  intro W base args ds gs before hval0 hW _ _ hL _
  have hval : ∀ (j : Nat) t v, Tryd.f3.params[j]? = some t → args[j]? = some v → Value.okWide Tryd.prog W .any base t v := hval0
  have hW' := hW
  obtain ⟨p, q, hA0, hV, rfl, hfz, hnd⟩ := hW
  have hA : DataW.TrodAll enc Tryd.prog W 0 (fun _ => true) true Tryd.f3.params.toList args.toList ds p := hA0
  rw [Tryd.params3] at hA hval
  obtain ⟨v0, vs0, d0, ds0, p0, q0, hargs, rfl, rfl, h0, r0⟩ := trodAll_cons hA
  obtain ⟨v1, vs1, d1, ds1, p1, q1, rfl, rfl, rfl, h1, r1⟩ := trodAll_cons r0
  obtain ⟨v2, vs2, d2, ds2, p2, q2, rfl, rfl, rfl, h2, r2⟩ := trodAll_cons r1
  obtain ⟨rfl, rfl, rfl⟩ := trodAll_nil r2
  obtain rfl : args = #[v0, v1, v2] := by cases args; simp_all
  obtain ⟨rfl, rfl⟩ := trodVars_none hV
  obtain ⟨a1, rfl, rfl, rfl, w1⟩ := open_int Tryd.underlying5 (hval 1 5 v1 rfl rfl) h1
  obtain ⟨a2, rfl, rfl, rfl, w2⟩ := open_int Tryd.underlying5 (hval 2 5 v2 rfl rfl) h2
  refine (walk v0 a1 a2 W w1 (Ev.in_ints Tryd.underlying22 Tryd.underlying5 (by kernel_rfl) (hval 0 22 v0 rfl rfl) h0) (globK (globs hL))).mono fun e W' ⟨he, hg⟩ => ?_
  subst he
  exact ⟨_, rfl, Ev.post_law (by kernel_rfl) (by kernel_rfl) rfl Tryd.underlying4 rfl hW' rfl hg⟩

theorem over : Rows.sessSlotsRow.holds Tryd.pinned (OpenSpec.ofChange Rows.sessSlotsSpec) :=
  OpenClaim.holds_of_wide 3 Tryd.f3 rfl rfl rfl rfl rfl rfl rfl ⟨rfl, rfl, rfl, rfl, rfl⟩ rfl rfl rfl rfl rfl (by kernel_rfl) Tryd.func3 (by kernel_rfl)
    (of_decide_eq_true (by kernel_rfl)) (by unfold Func.isWrapper; first | (rw [if_pos (by decide +kernel)]; kernel_rfl) | (rw [if_neg (by decide +kernel)]; exact ⟨rfl, rfl⟩))
    (fun os started H enc _ => lifted os started H enc)

/-- The statement's row. -/
theorem row : Rows.SessSlotsSaid :=
  over

set_option maxRecDepth 100000 in
/-- The statement, its row tied to the text of the program. -/
theorem proved : Rows.SessSlotsCardSaid :=
  Claim7.holds_tied_plain_at .later [] [.data] true (true, "070a8e57a6e1180f2dba34394126f78a97f976bf2086f235d38b043f4f74f5e4") false
    row (fun _ h => by cases h) (by kernel_rfl) (fun _ h => by cases h) sessSlots_row_tie rfl ⟨rfl, rfl⟩ (by kernel_rfl) rfl
    (fun f fn hf hfn => by
      obtain rfl : f = 3 := Option.some.inj ((show Tryd.prog.funcNamed "lodger/lodgerlaw08.SessSlots" = some 3 by kernel_rfl).symm.trans hf) |>.symm
      obtain rfl : fn = Tryd.f3 := (Option.some.inj (Tryd.func3.symm.trans hfn)).symm
      exact ⟨by kernel_rfl, fun j t ht => by
        rw [Tryd.params3] at ht
        have : t = 22 ∨ t = 5 := by
          rcases j with _ | _ | _ | j
          · exact .inl (by simpa using ht.symm)
          · exact .inr (by simpa using ht.symm)
          · exact .inr (by simpa using ht.symm)
          · simp at ht
        rcases this with rfl | rfl
        · exact (show Tryd.prog.wantsStandIn 22 = false by kernel_rfl)
        · exact (show Tryd.prog.wantsStandIn 5 = false by kernel_rfl)⟩)
    (by kernel_rfl)
#print axioms proved
end Go.Proofs.YtcdgbadnnodbeaaDoor.sessSlots
