/- The statement ShaFills: whatever the byte and the number of blocks, the call returns true and leaves all that was there as it was: the program's sums of the texts of all those lengths are the document's, and the chapter's row holds. The condition: the one package variable that its row lists holds what it lists; the card ties that to the text of the program. The runs are reckoned by the evaluator of the texts Ev*, which are shown to be the model's; the loops are inductions. -/
import Derived.Test.YtledohmkjgmooaaDoorRows
import Derived.Test.YtledohmkjgmooaaDoorEvZ
import Derived.Test.YtledohmkjgmooaaDoorShaWj
import Derived.Test.YtledohmkjgmooaaDoorCards
import Derived.Test.YtledohmkjgmooaaDoorTie
import Derived.SevenTiedAt
import Derived.WalkKit
import Derived.ProofKit
import Derived.OpenShut
import Derived.ChangeMaps5
import Derived.Deep.Grids
set_option maxRecDepth 100000
namespace Go.Proofs.YtledohmkjgmooaaDoor.shaFills
open Go Go.ChangeShapes Go.WideShapes Go.ChangeAt Go.RowKit Go.ChangeMaps
open Ev shaW

theorem own : ownKnob Tryd.prog.godebug = none := by kernel_rfl

noncomputable def M4a (c : Int) (n : Nat) (w : Nat → Int) (i : Int) : AM := ⟨⟨4, 45, (.node (.node .leaf none (.node .leaf (some (.slc 0 0 0 n n)) .leaf)) (some (.int .u8 c)) (.node .leaf none (.node .leaf (some (.int .i64 i)) .leaf))),
   [.code (cd P (4 : Nat) [(1 : Nat), (1 : Nat), (0 : Nat), (1 : Nat), (0 : Nat), (0 : Nat)]), .inLoop (cd P (4 : Nat) [(1 : Nat), (1 : Nat), (0 : Nat), (1 : Nat), (0 : Nat), (0 : Nat)]), .inBlock 0, .code (cd P (4 : Nat) [(1 : Nat), (1 : Nat), (1 : Nat)])], [], .run, CallKind.normal, none⟩,
  [],
  ⟨(.node .leaf (some (.cells (.fn fun k => some (.int .u8 (w k))) n 5 0 0 1 0 false .leaf)) .leaf), 1, GK⟩⟩
noncomputable def M4b (c : Int) (t : List UInt8) (i : Int) : AM := ⟨⟨4, 45, (.node (.node (.node (.node .leaf (some (.str t)) .leaf) none .leaf) none .leaf) (some (.int .u8 c)) (.node (.node (.node .leaf (some (.int .i64 i)) .leaf) none .leaf) none .leaf)),
   [.code (cd P (4 : Nat) [(1 : Nat), (1 : Nat), (1 : Nat), (1 : Nat), (0 : Nat), (1 : Nat), (0 : Nat), (0 : Nat)]), .inLoop (cd P (4 : Nat) [(1 : Nat), (1 : Nat), (1 : Nat), (1 : Nat), (0 : Nat), (1 : Nat), (0 : Nat), (0 : Nat)]), .inBlock 2, .code (cd P (4 : Nat) [(1 : Nat), (1 : Nat), (1 : Nat), (1 : Nat), (1 : Nat)])], [], .run, CallKind.normal, none⟩,
  [],
  ⟨.leaf, 0, GK⟩⟩


theorem law0 (c b n : Int) (K : AM → Prop) : optK (startL P 4 [.int .u8 c, .int .u8 b] [] GK) (Obl P 4 (fun v _ => v = .bool true) 0 K [.run 11, .slot 13 (.int .i64 n), .opw false, .run 9, .can 0 [0] [0, 5, 6] []]) =
  ((AV.int IntKind.i64 (IntKind.i64.wrap (IntKind.i64.wrap (64 * IntKind.i64.wrap (b.tmod 30)) + 40)) = AV.int IntKind.i64 n) ∧ (0 ≤ n ∧ n ≤ n ∧ n < 2 ^ 40 ∧ ((1 : Nat) : Int) * n ≤ 2 ^ 48) ∧ (PlainFn fun _ => some (AV.int IntKind.u8 0)) ∧ K (M4a c n.toNat (fun _ => 0) 0)) := by kernel_rfl

theorem lawA (c : Int) (n : Nat) (w w' : Nat → Int) (i : Int) (K : AM → Prop) : Obl P 4 (fun v _ => v = .bool true) 0 K [.run 8, .know 18 true, .run 8, .op, .opw false, .run 8, .told 0 (.fn fun k => some (.int .u8 (w' k))) n, .can 0 [0] [0, 5, 6] []] (M4a c n w i) =
  ((decide (i < (n : Int)) = true) ∧ (0 ≤ i ∧ i < (n : Int)) ∧ (pl 0 i + 1 ≤ n ∧ 0 ≤ pl 0 i) ∧ Tells n (.fn fun k => some (.int .u8 (w' k))) (.fn fun k => bif Nat.beq k (pl 0 i) then some (.int .u8 c) else T.get (.fn fun k => some (.int .u8 (w k))) k) ∧ (n = n) ∧ (PlainFn fun k => some (AV.int IntKind.u8 (w' k))) ∧ K (M4a c n w' (IntKind.i64.wrap (i + 1)))) := by kernel_rfl

theorem lawB (c : Int) (n : Nat) (w : Nat → Int) (t : List UInt8) (i : Int) (K : AM → Prop) : Obl P 4 (fun v _ => v = .bool true) 0 K [.run 8, .know 18 false, .run 5, .bytes t, .run 9, .can 0 [] [0, 7, 8] []] (M4a c n w i) =
  ((decide (i < (n : Int)) = false) ∧ (0 + n ≤ n ∧ cellsStr (loadList (.fn fun k => some (.int .u8 (w k))) 0 n) = some (.str t)) ∧ K (M4b c t 0)) := by kernel_rfl

theorem lawC (c : Int) (f : Nat → Int) (t : List UInt8) (i : Int) (K : AM → Prop) : Obl P 4 (fun v _ => v = .bool true) 0 K [.run 6, .know 28 true, .run 9, .callv [0] (sm f), .run 2, .callv [0] (sm f), .res (.val (.bool false) ⟨.leaf, 0, GK⟩), .run 11, .op, .run 9, .can 0 [] [0, 7, 8] []] (M4b c t i) =
  ((decide (i ≤ 32) = true) ∧ (Goal P 0 9 (fun x _ => x = sm f) (startM P 9 [.str t] GK)) ∧ (Goal P 0 10 (fun x _ => x = sm f) (startM P 10 [.str t] GK)) ∧ (valE ⟨.leaf, 0, GK⟩ (binA P ⟨.leaf, 0, GK⟩ .neq 22 false (sm f) (sm f)) = some (.val (.bool false) ⟨.leaf, 0, GK⟩)) ∧
    (t.length + [UInt8.ofNat (IntKind.u8.wrap (c + IntKind.u8.wrap i)).toNat].reverse.length < 1099511627776) ∧ K (M4b c (t ++ [UInt8.ofNat (IntKind.u8.wrap (c + IntKind.u8.wrap i)).toNat].reverse) (IntKind.i64.wrap (i + 1)))) := by kernel_rfl

theorem lawD (c : Int) (t : List UInt8) (i : Int) (_K : AM → Prop) : Obl P 4 (fun v _ => v = .bool true) 0 _K [.run 6, .know 28 false, .run 5, .callv [] (.bool true), .run 3, .done] (M4b c t i) =
  ((decide (i ≤ 32) = false) ∧ (Goal P 0 11 (fun x _ => x = AV.bool true) (startM P 11 [] GK)) ∧ (AV.bool true = AV.bool true)) := by kernel_rfl

theorem second (c : Int) : ∀ (d : Nat) (i : Int) (t : List UInt8), 0 ≤ i → i + d = 33 → t.length ≤ 2000 + i.toNat → Goal P 0 4 (fun v _ => v = .bool true) (M4b c t i)
  | 0, i, t, _, h, _ => Obl.goal (K := fun _ => False) mix (fun _ h => h.elim) (cast (lawD c t i _).symm ⟨decide_eq_false (by omega), works3_ok, rfl⟩)
  | d + 1, i, t, h0, h, ht => by
    refine Obl.goal (K := Goal P 0 4 _) mix (fun _ h => h) (cast (lawC c (sb t) t i _).symm ⟨decide_eq_true (by omega), sum_sm t (by omega), sumR_sm GK t (by omega), neq_ok _ _, by rw [List.length_reverse, List.length_singleton]; omega, ?_⟩)
    rw [show IntKind.i64.wrap (i + 1) = i + 1 from IntWalk.i64_in _ (by omega)]
    exact second c d (i + 1) _ (by omega) (by omega) (by rw [List.length_append, List.length_reverse, List.length_singleton]; omega)

theorem first (c : Int) (hc : 0 ≤ c ∧ c ≤ 255) (n : Nat) (hn : n ≤ 2000) : ∀ (d i : Nat), i + d = n → Goal P 0 4 (fun v _ => v = .bool true) (M4a c n (fun k => if k < i then c else 0) i)
  | 0, i, h => by
    have hl : (List.replicate n (UInt8.ofNat c.toNat)).length = n := List.length_replicate
    refine Obl.goal (K := Goal P 0 4 _) mix (fun _ h => h) (cast (lawB c n _ (List.replicate n (UInt8.ofNat c.toNat)) i _).symm ⟨decide_eq_false (by omega), ⟨by omega, ?_⟩, second c 33 0 _ (by decide) rfl (by omega)⟩)
    have := told_bytes (List.replicate n (UInt8.ofNat c.toNat)) (fun k => if k < i then c else 0) fun k hk => by
      rw [hl] at hk
      rw [if_pos (by omega), List.getD_eq_getElem?_getD, List.getElem?_replicate, if_pos hk]
      show c = ((UInt8.ofNat c.toNat).toNat : Int)
      rw [UInt8.toNat_ofNat']
      omega
    rwa [hl] at this
  | d + 1, i, h => by
    have hp : pl 0 (i : Int) = i := by unfold pl; omega
    refine Obl.goal (K := Goal P 0 4 _) mix (fun _ h => h) (cast (lawA c n _ (fun k => if k < i + 1 then c else 0) i _).symm ⟨decide_eq_true (by omega), by omega, by rw [hp]; omega, ?_, rfl, plain_int _ _, ?_⟩)
    · rw [hp]
      refine tells_put8 _ _ _ _ _ fun k => ?_
      by_cases h1 : k = i
      · rw [if_pos h1, if_pos (by omega)]
      · rw [if_neg h1]
        by_cases h2 : k < i
        · rw [if_pos h2, if_pos (by omega)]
        · rw [if_neg h2, if_neg (by omega)]
    · rw [show IntKind.i64.wrap ((i : Int) + 1) = ((i + 1 : Nat) : Int) by rw [IntWalk.i64_in _ (by omega)]; rfl]
      exact first c hc n hn d (i + 1) (by omega)

theorem walk (a0 a1 : Int) (w : World) (w0 : (Lit.int .u8 a0).wf = true) (w1 : (Lit.int .u8 a1).wf = true) (hG : Globs GK w) : Calls P 4 #[.int .u8 a0, .int .u8 a1] w fun r w' => r = .returned (.bool true) ∧ Old w w' := by
  have h0 := bounds_u8 w0
  have h1 := bounds_u8 w1
  have e1 : a1.tmod 30 = a1 % 30 := Int.tmod_eq_emod_of_nonneg h1.1
  have e : IntKind.i64.wrap (IntKind.i64.wrap (64 * IntKind.i64.wrap (a1.tmod 30)) + 40) = 64 * (a1 % 30) + 40 := by
    rw [e1, IntWalk.i64_in (a1 % 30) (by omega), IntWalk.i64_in (64 * (a1 % 30)) (by omega), IntWalk.i64_in _ (by omega)]
  refine law_ok (K := Goal P 0 4 _) mix (cast (law0 a0 a1 (64 * (a1 % 30) + 40) _).symm ⟨by rw [e], by omega, plain_int _ (fun _ => 0), ?_⟩) (fun _ h => h) (vs := [.int .u8 a0, .int .u8 a1]) hG (fun _ hx => absurd hx List.not_mem_nil) ⟨_, _, rfl, rfl, _, _, rfl, rfl, rfl⟩
  have := first a0 h0 (64 * (a1 % 30) + 40).toNat (by omega) (64 * (a1 % 30) + 40).toNat 0 (by omega)
  exact this

/-! ### The row's step -/
set_option maxRecDepth 100000 in
theorem lifted (os : Os) (started : os.Started) (H : Type) (enc : TypeId × Value → H) :
    ReturnsInHanded {} Tryd.checked os 4 .any (fun w args => (Rows.shaFillsSpec.pre enc Tryd.prog Tryd.f4 [] false w args ∧ laidMetH Tryd.prog [("lodger/sha.roundWords", Rows.laid_lodger_sha_roundWords)] w) ∧ sizedMet enc Tryd.prog Tryd.f4 (OpenSpec.ofChange Rows.shaFillsSpec) false w args)
      (Rows.shaFillsSpec.post enc Tryd.prog Tryd.f4 false true false false) := by
  refine returnsInHanded_of_change_and (C := Tryd.checked) (X := fun w _ => laidMetH Tryd.prog [("lodger/sha.roundWords", Rows.laid_lodger_sha_roundWords)] w) (fun _ _ _ hh h => h.of_heap hh) own started (by kernel_rfl) Tryd.func4
    (ChangeSpec.witness_shaped (enc := enc) (C := Tryd.checked) (os := os) (X := fun w _ => laidMetH Tryd.prog [("lodger/sha.roundWords", Rows.laid_lodger_sha_roundWords)] w) false (World.doorLaid Tryd.prog 400 os) #[.int .u8 0, .int .u8 0] 8 rfl (World.shaped_of_RefB (by kernel_rfl) (by kernel_rfl)) (by kernel_rfl) (by kernel_rfl) (by kernel_rfl) (door_met os _)) ?_
  intro W base args ds gs before hval0 hW _ _ hL _
  have hval : ∀ (j : Nat) t v, Tryd.f4.params[j]? = some t → args[j]? = some v → Value.okWide Tryd.prog W .any base t v := hval0
  have hW' := hW
  obtain ⟨p, q, hA0, hV, rfl, hfz, hnd⟩ := hW
  have hA : DataW.TrodAll enc Tryd.prog W 0 (fun _ => true) true Tryd.f4.params.toList args.toList ds p := hA0
  rw [Tryd.params4] at hA hval
  obtain ⟨v0, vs0, d0, ds0, p0, q0, hargs, rfl, rfl, h0, r0⟩ := trodAll_cons hA
  obtain ⟨v1, vs1, d1, ds1, p1, q1, rfl, rfl, rfl, h1, r1⟩ := trodAll_cons r0
  obtain ⟨rfl, rfl, rfl⟩ := trodAll_nil r1
  obtain rfl : args = #[v0, v1] := by cases args; simp_all
  obtain ⟨rfl, rfl⟩ := trodVars_none hV
  obtain ⟨a0, rfl, rfl, rfl, w0⟩ := open_int Tryd.underlying5 (hval 0 5 v0 rfl rfl) h0
  obtain ⟨a1, rfl, rfl, rfl, w1⟩ := open_int Tryd.underlying5 (hval 1 5 v1 rfl rfl) h1
  refine (walk a0 a1 W w0 w1 (globK (globs hL))).mono fun e W' ⟨he, hg⟩ => ?_
  subst he
  exact ⟨_, rfl, Ev.post_law (by kernel_rfl) (by kernel_rfl) rfl Tryd.underlying4 rfl hW' rfl hg⟩

theorem over : Rows.shaFillsRow.holds Tryd.pinned (OpenSpec.ofChange Rows.shaFillsSpec) :=
  OpenClaim.holds_of_wide 4 Tryd.f4 rfl rfl rfl rfl rfl rfl rfl ⟨rfl, rfl, rfl, rfl, rfl⟩ rfl rfl rfl rfl rfl (by kernel_rfl) Tryd.func4 (by kernel_rfl)
    (of_decide_eq_true (by kernel_rfl)) (by unfold Func.isWrapper; first | (rw [if_pos (by decide +kernel)]; kernel_rfl) | (rw [if_neg (by decide +kernel)]; exact ⟨rfl, rfl⟩))
    (fun os started H enc _ => lifted os started H enc)

/-- The statement's row. -/
theorem row : Rows.ShaFillsSaid :=
  over

set_option maxRecDepth 100000 in
/-- The statement, its row tied to the text of the program. -/
theorem proved : Rows.ShaFillsCardSaid :=
  Claim7.holds_tied_plain_at .later [] [.data] true (true, "00a480067bf7779466c225fce9181c66be2bbf036ea5eb1f3502e139b72e3739") false
    row (fun _ h => by cases h) (by kernel_rfl) (fun _ h => by cases h) shaFills_row_tie rfl ⟨rfl, rfl⟩ (by kernel_rfl) rfl
    (fun f fn hf hfn => by
      obtain rfl : f = 4 := Option.some.inj ((show Tryd.prog.funcNamed "lodger/lodgerlaw03.ShaFills" = some 4 by kernel_rfl).symm.trans hf) |>.symm
      obtain rfl : fn = Tryd.f4 := (Option.some.inj (Tryd.func4.symm.trans hfn)).symm
      exact ⟨by kernel_rfl, fun j t ht => by
        rw [Tryd.params4] at ht
        obtain rfl : t = 5 := by
          rcases j with _ | _ | j
          · simpa using ht.symm
          · simpa using ht.symm
          · simp at ht
        kernel_rfl⟩)
    (by kernel_rfl)
#print axioms proved
end Go.Proofs.YtledohmkjgmooaaDoor.shaFills
