/- The statement ShaSame: whatever the two texts and the place, the call returns true and leaves all that was there as it was: the sum of a text's first 2000 bytes is the same when it is asked again, of the same bytes put together anew, whatever was asked between, two texts that are the same have the same sum, and the chapter's row holds. The condition: the one package variable that its row lists holds what it lists; the card ties that to the text of the program. The runs are reckoned by the evaluator of the texts Ev*, which are shown to be the model's. -/
import Derived.Test.YtledohmkjgmooaaDoorRows
import Derived.Test.YtledohmkjgmooaaDoorEvZ
import Derived.Test.YtledohmkjgmooaaDoorShaWi
import Derived.Test.YtledohmkjgmooaaDoorCards
import Derived.Test.YtledohmkjgmooaaDoorTie
import Derived.SevenTiedAt
import Derived.WalkKit
import Derived.ProofKit
import Derived.OpenShut
import Derived.ChangeMaps5
import Derived.Deep.Grids
set_option maxRecDepth 100000
namespace Go.Proofs.YtledohmkjgmooaaDoor.shaSame
open Go Go.ChangeShapes Go.WideShapes Go.ChangeAt Go.RowKit Go.ChangeMaps
open Ev shaW

theorem own : ownKnob Tryd.prog.godebug = none := by kernel_rfl

def lim (n : Nat) : Int := if decide ((2000 : Int) < (n : Int)) = true then 2000 else (n : Int)

theorem lim_ok (n : Nat) : 0 ≤ lim n ∧ lim n ≤ (n : Int) ∧ lim n ≤ 2000 := by
  unfold lim
  by_cases h : (2000 : Int) < n
  · rw [if_pos (decide_eq_true h)]; omega
  · rw [if_neg (by simpa using h)]; omega

noncomputable abbrev T32 (f : Nat → Int) : T AV := storeList .leaf 0 ((List.range 32).map fun i => .int .u8 (f i))
noncomputable abbrev HS (f g : Nat → Int) : AHeap := ⟨.node (.node .leaf (some (.cells (T32 g) 32 22 0 0 1 0 false .leaf)) .leaf) (some (.cells (T32 f) 32 22 0 0 1 0 false .leaf)) (.node .leaf (some (.cells (T32 f) 32 22 0 0 1 0 false .leaf)) .leaf), 3, GK⟩

theorem load_bytes (u : List UInt8) : loadList (storeList .leaf 0 (byteCells u)) 0 u.length = some (byteCells u) := by
  have hlen : (byteCells u).length = u.length := by simp [byteCells]
  have hget : ∀ k v, k < u.length → (byteCells u)[k]? = some v → (storeList .leaf 0 (byteCells u)).get (0 + k) = some v := fun k v hk hv => by
    rw [storeList_get, if_pos ⟨Nat.zero_le _, by omega⟩, Nat.zero_add, Nat.sub_zero]
    exact hv
  have hone : ∀ k, k < u.length → ∃ b : UInt8, (byteCells u)[k]? = some (.int .u8 b.toNat) := fun k hk => ⟨u[k], by simp [byteCells, hk]⟩
  obtain ⟨l, h1, _, h3, h4⟩ := loadList_some (c := storeList .leaf 0 (byteCells u)) (off := 0) (n := u.length) fun k hk => by
    obtain ⟨b, hb⟩ := hone k hk
    exact ⟨_, hget k _ hk hb, rfl⟩
  rw [h1]
  congr 1
  apply List.ext_getElem?
  intro k
  by_cases hk : k < u.length
  · obtain ⟨b, hb⟩ := hone k hk
    rw [hb]
    exact h4 k _ hk (hget k _ hk hb)
  · rw [List.getElem?_eq_none (by omega), List.getElem?_eq_none (by omega)]

theorem bytes_cells : ∀ u : List UInt8, bytesA (byteCells u) = some u
  | [] => rfl
  | b :: r => by
    have ih := bytes_cells r
    unfold bytesA at ih ⊢
    rw [show byteCells (b :: r) = .int .u8 b.toNat :: byteCells r from rfl, mapO_cons, ih, show byteA (.int .u8 b.toNat) = some b from by show some (UInt8.ofNat (b.toNat : Int).toNat) = _; rw [Int.toNat_natCast, UInt8.ofNat_toNat]]

theorem bytes_ok (u : List UInt8) : 0 + u.length ≤ (byteCells u).length ∧ cellsStr (loadList (storeList .leaf 0 (byteCells u)) 0 u.length) = some (.str u) :=
  ⟨by simp [byteCells], by rw [load_bytes]; show strAV (bytesA (byteCells u)) = _; rw [bytes_cells]; rfl⟩

theorem lawA (s t s' t' p u : List UInt8) (at_ k : Int) (f g : Nat → Int) (_K : AM → Prop) : optK (startL P 5 [.str s, .str t, .int .u16 at_] [] GK) (Obl P 5 (fun v _ => v = .bool true) 0 _K [.run 10, .op, .slot 15 (.str s'), .run 8, .op, .slot 20 (.str t'), .run 9, .op, .slot 26 (.int .i64 k), .run 6, .callv [0] (sm f), .run 7, .callv [0] (sm g), .run 7, .op, .slot 33 (.str p), .run 2, .op, .slot 36 (.str u), .run 2, .bytes u, .op, .run 1, .callv [0] (sm f), .run 2, .can 0 [0, 1, 2] [0, 1, 8, 9, 10] [], .run 4, .res (.val (.bool true) (HS f g)), .run 4, .callv [0] (sm g), .res (.val (.bool true) (HS f g)), .run 6, .know 54 true, .run 7, .callv [] (.bool true), .run 4, .done]) =
  ((0 ≤ lim s.length ∧ lim s.length ≤ (s.length : Int)) ∧ (AV.str (List.take ((lim s.length).toNat - 0) (List.drop 0 s)) = AV.str s') ∧ (0 ≤ lim t.length ∧ lim t.length ≤ (t.length : Int)) ∧ (AV.str (List.take ((lim t.length).toNat - 0) (List.drop 0 t)) = AV.str t') ∧
    (IntKind.i64.wrap ((s'.length : Int) + 1) ≠ 0) ∧ (AV.int IntKind.i64 ((IntKind.i64.wrap at_).tmod (IntKind.i64.wrap ((s'.length : Int) + 1))) = AV.int IntKind.i64 k) ∧ (Goal P 0 9 (fun x _ => x = sm f) (startM P 9 [.str s'] GK)) ∧ (Goal P 0 9 (fun x _ => x = sm g) (startM P 9 [.str t'] GK)) ∧
    (0 ≤ k ∧ k ≤ (s'.length : Int)) ∧ (AV.str (List.take (k.toNat - 0) (List.drop 0 s')) = AV.str p) ∧ (0 ≤ k ∧ k ≤ (s'.length : Int)) ∧ (AV.str (List.take (s'.length - k.toNat) (List.drop k.toNat s')) = AV.str u) ∧ (0 + u.length ≤ (byteCells u).length ∧ cellsStr (loadList (storeList .leaf 0 (byteCells u)) 0 u.length) = some (.str u)) ∧
    (p.length + u.length < 1099511627776) ∧ (Goal P 0 9 (fun x _ => x = sm f) (startM P 9 [.str (p ++ u)] GK)) ∧ (valE (HS f g) (binA P (HS f g) .eql 22 false (sm f) (sm f)) = some (.val (.bool true) (HS f g))) ∧
    (Goal P 0 9 (fun x _ => x = sm g) (startM P 9 [.str t'] GK)) ∧ (some (sm g) = some (sm g)) ∧ (valE (HS f g) (binA P (HS f g) .eql 22 false (sm g) (sm g)) = some (.val (.bool true) (HS f g))) ∧ ((!s' == t') = true) ∧ (Goal P 0 11 (fun x _ => x = AV.bool true) (startM P 11 [] GK)) ∧ (AV.bool true = AV.bool true)) := by kernel_rfl

theorem lawB (s t s' t' p u : List UInt8) (at_ k : Int) (f : Nat → Int) (_K : AM → Prop) : optK (startL P 5 [.str s, .str t, .int .u16 at_] [] GK) (Obl P 5 (fun v _ => v = .bool true) 0 _K [.run 10, .op, .slot 15 (.str s'), .run 8, .op, .slot 20 (.str t'), .run 9, .op, .slot 26 (.int .i64 k), .run 6, .callv [0] (sm f), .run 7, .callv [0] (sm f), .run 7, .op, .slot 33 (.str p), .run 2, .op, .slot 36 (.str u), .run 2, .bytes u, .op, .run 1, .callv [0] (sm f), .run 2, .can 0 [0, 1, 2] [0, 1, 8, 9, 10] [], .run 4, .res (.val (.bool true) (HS f f)), .run 4, .callv [0] (sm f), .res (.val (.bool true) (HS f f)), .run 6, .know 54 false, .run 2, .res (.val (.bool true) (HS f f)), .run 4, .callv [] (.bool true), .run 4, .done]) =
  ((0 ≤ lim s.length ∧ lim s.length ≤ (s.length : Int)) ∧ (AV.str (List.take ((lim s.length).toNat - 0) (List.drop 0 s)) = AV.str s') ∧ (0 ≤ lim t.length ∧ lim t.length ≤ (t.length : Int)) ∧ (AV.str (List.take ((lim t.length).toNat - 0) (List.drop 0 t)) = AV.str t') ∧
    (IntKind.i64.wrap ((s'.length : Int) + 1) ≠ 0) ∧ (AV.int IntKind.i64 ((IntKind.i64.wrap at_).tmod (IntKind.i64.wrap ((s'.length : Int) + 1))) = AV.int IntKind.i64 k) ∧ (Goal P 0 9 (fun x _ => x = sm f) (startM P 9 [.str s'] GK)) ∧ (Goal P 0 9 (fun x _ => x = sm f) (startM P 9 [.str t'] GK)) ∧
    (0 ≤ k ∧ k ≤ (s'.length : Int)) ∧ (AV.str (List.take (k.toNat - 0) (List.drop 0 s')) = AV.str p) ∧ (0 ≤ k ∧ k ≤ (s'.length : Int)) ∧ (AV.str (List.take (s'.length - k.toNat) (List.drop k.toNat s')) = AV.str u) ∧ (0 + u.length ≤ (byteCells u).length ∧ cellsStr (loadList (storeList .leaf 0 (byteCells u)) 0 u.length) = some (.str u)) ∧
    (p.length + u.length < 1099511627776) ∧ (Goal P 0 9 (fun x _ => x = sm f) (startM P 9 [.str (p ++ u)] GK)) ∧ (valE (HS f f) (binA P (HS f f) .eql 22 false (sm f) (sm f)) = some (.val (.bool true) (HS f f))) ∧
    (Goal P 0 9 (fun x _ => x = sm f) (startM P 9 [.str t'] GK)) ∧ (some (sm f) = some (sm f)) ∧ (valE (HS f f) (binA P (HS f f) .eql 22 false (sm f) (sm f)) = some (.val (.bool true) (HS f f))) ∧ ((!s' == t') = false) ∧ (valE (HS f f) (binA P (HS f f) .eql 22 false (sm f) (sm f)) = some (.val (.bool true) (HS f f))) ∧ (Goal P 0 11 (fun x _ => x = AV.bool true) (startM P 11 [] GK)) ∧ (AV.bool true = AV.bool true)) := by kernel_rfl

theorem walk (a0 a1 : ByteArray) (a2 : Int) (w : World) (_ : a0.size ≤ maxLen) (_ : a1.size ≤ maxLen) (w2 : (Lit.int .u16 a2).wf = true) (hG : Globs GK w) : Calls P 5 #[.string a0, .string a1, .int .u16 a2] w fun r w' => r = .returned (.bool true) ∧ Old w w' := by
  let s := a0.data.toList
  let t := a1.data.toList
  have hls := lim_ok s.length
  have hlt := lim_ok t.length
  have ha : 0 ≤ a2 ∧ a2 ≤ 65535 := by
    have := w2
    simp only [Lit.wf, Bool.and_eq_true, decide_eq_true_eq] at this
    exact this
  obtain ⟨s', hs'⟩ : ∃ x, List.take ((lim s.length).toNat - 0) (List.drop 0 s) = x := ⟨_, rfl⟩
  obtain ⟨t', ht'⟩ : ∃ x, List.take ((lim t.length).toNat - 0) (List.drop 0 t) = x := ⟨_, rfl⟩
  have hsl : s'.length ≤ 2000 := by rw [← hs', List.length_take]; omega
  have htl : t'.length ≤ 2000 := by rw [← ht', List.length_take]; omega
  have e1 : IntKind.i64.wrap ((s'.length : Int) + 1) = (s'.length : Int) + 1 := IntWalk.i64_in _ (by omega)
  have e2 : IntKind.i64.wrap a2 = a2 := IntWalk.i64_in _ (by omega)
  obtain ⟨k, hk⟩ : ∃ x, a2.tmod ((s'.length : Int) + 1) = x := ⟨_, rfl⟩
  have hk0 : 0 ≤ k ∧ k ≤ (s'.length : Int) := by
    rw [← hk, Int.tmod_eq_emod_of_nonneg ha.1]
    have h1 := Int.emod_nonneg a2 (b := (s'.length : Int) + 1) (by omega)
    have h2 := Int.emod_lt_of_pos a2 (b := (s'.length : Int) + 1) (by omega)
    omega
  let p := List.take (k.toNat - 0) (List.drop 0 s')
  let u := List.take (s'.length - k.toNat) (List.drop k.toNat s')
  have hpu : p ++ u = s' := by
    show List.take (k.toNat - 0) (List.drop 0 s') ++ List.take (s'.length - k.toNat) (List.drop k.toNat s') = s'
    rw [Nat.sub_zero, List.drop_zero, List.take_of_length_le (l := List.drop k.toNat s') (by rw [List.length_drop]; omega), List.take_append_drop]
  have hpl : p.length + u.length < 1099511627776 := by rw [← List.length_append, hpu]; omega
  have gs := sum_sm s' (by omega)
  have gt := sum_sm t' (by omega)
  by_cases hst : s' = t'
  · subst hst
    exact law_ok (K := Goal P 0 5 _) mix (cast (lawB s t s' s' p u a2 k (sb s') _).symm
      ⟨⟨hls.1, hls.2.1⟩, congrArg AV.str hs', ⟨hlt.1, hlt.2.1⟩, congrArg AV.str ht', by rw [e1]; omega, by rw [e1, e2, hk], gs, gs, hk0, rfl, hk0, rfl, bytes_ok u, hpl, by rw [hpu]; exact gs, eq_ok _ _, gs, rfl, eq_ok _ _, by simp, eq_ok _ _, works3_ok, rfl⟩)
      (fun _ h => h) (vs := [.string a0, .string a1, .int .u16 a2]) hG (fun _ hx => absurd hx List.not_mem_nil) ⟨_, _, rfl, str_rel _ _, _, _, rfl, str_rel _ _, _, _, rfl, rfl, rfl⟩
  · exact law_ok (K := Goal P 0 5 _) mix (cast (lawA s t s' t' p u a2 k (sb s') (sb t') _).symm
      ⟨⟨hls.1, hls.2.1⟩, congrArg AV.str hs', ⟨hlt.1, hlt.2.1⟩, congrArg AV.str ht', by rw [e1]; omega, by rw [e1, e2, hk], gs, gt, hk0, rfl, hk0, rfl, bytes_ok u, hpl, by rw [hpu]; exact gs, eq_ok _ _, gt, rfl, eq_ok _ _, by simpa using hst, works3_ok, rfl⟩)
      (fun _ h => h) (vs := [.string a0, .string a1, .int .u16 a2]) hG (fun _ hx => absurd hx List.not_mem_nil) ⟨_, _, rfl, str_rel _ _, _, _, rfl, str_rel _ _, _, _, rfl, rfl, rfl⟩

/-! ### The row's step -/
set_option maxRecDepth 100000 in
theorem lifted (os : Os) (started : os.Started) (H : Type) (enc : TypeId × Value → H) :
    ReturnsInHanded {} Tryd.checked os 5 .any (fun w args => (Rows.shaSameSpec.pre enc Tryd.prog Tryd.f5 [] false w args ∧ laidMetH Tryd.prog [("lodger/sha.roundWords", Rows.laid_lodger_sha_roundWords)] w) ∧ sizedMet enc Tryd.prog Tryd.f5 (OpenSpec.ofChange Rows.shaSameSpec) false w args)
      (Rows.shaSameSpec.post enc Tryd.prog Tryd.f5 false true false false) := by
  refine returnsInHanded_of_change_and (C := Tryd.checked) (X := fun w _ => laidMetH Tryd.prog [("lodger/sha.roundWords", Rows.laid_lodger_sha_roundWords)] w) (fun _ _ _ hh h => h.of_heap hh) own started (by kernel_rfl) Tryd.func5
    (ChangeSpec.witness_shaped (enc := enc) (C := Tryd.checked) (os := os) (X := fun w _ => laidMetH Tryd.prog [("lodger/sha.roundWords", Rows.laid_lodger_sha_roundWords)] w) false (World.doorLaid Tryd.prog 400 os) #[.string .empty, .string .empty, .int .u16 0] 8 rfl (World.shaped_of_RefB (by kernel_rfl) (by kernel_rfl)) (by kernel_rfl) (by kernel_rfl) (by kernel_rfl) (door_met os _)) ?_
  intro W base args ds gs before hval0 hW _ _ hL _
  have hval : ∀ (j : Nat) t v, Tryd.f5.params[j]? = some t → args[j]? = some v → Value.okWide Tryd.prog W .any base t v := hval0
  have hW' := hW
  obtain ⟨p, q, hA0, hV, rfl, hfz, hnd⟩ := hW
  have hA : DataW.TrodAll enc Tryd.prog W 0 (fun _ => true) true Tryd.f5.params.toList args.toList ds p := hA0
  rw [Tryd.params5] at hA hval
  obtain ⟨v0, vs0, d0, ds0, p0, q0, hargs, rfl, rfl, h0, r0⟩ := trodAll_cons hA
  obtain ⟨v1, vs1, d1, ds1, p1, q1, rfl, rfl, rfl, h1, r1⟩ := trodAll_cons r0
  obtain ⟨v2, vs2, d2, ds2, p2, q2, rfl, rfl, rfl, h2, r2⟩ := trodAll_cons r1
  obtain ⟨rfl, rfl, rfl⟩ := trodAll_nil r2
  obtain rfl : args = #[v0, v1, v2] := by cases args; simp_all
  obtain ⟨rfl, rfl⟩ := trodVars_none hV
  obtain ⟨a0, rfl, rfl, rfl, w0⟩ := open_string Tryd.underlying9 (hval 0 9 v0 rfl rfl) h0
  obtain ⟨a1, rfl, rfl, rfl, w1⟩ := open_string Tryd.underlying9 (hval 1 9 v1 rfl rfl) h1
  obtain ⟨a2, rfl, rfl, rfl, w2⟩ := open_int Tryd.underlying28 (hval 2 28 v2 rfl rfl) h2
  refine (walk a0 a1 a2 W w0 w1 w2 (globK (globs hL))).mono fun e W' ⟨he, hg⟩ => ?_
  subst he
  exact ⟨_, rfl, Ev.post_law (by kernel_rfl) (by kernel_rfl) rfl Tryd.underlying4 rfl hW' rfl hg⟩

theorem over : Rows.shaSameRow.holds Tryd.pinned (OpenSpec.ofChange Rows.shaSameSpec) :=
  OpenClaim.holds_of_wide 5 Tryd.f5 rfl rfl rfl rfl rfl rfl rfl ⟨rfl, rfl, rfl, rfl, rfl⟩ rfl rfl rfl rfl rfl (by kernel_rfl) Tryd.func5 (by kernel_rfl)
    (of_decide_eq_true (by kernel_rfl)) (by unfold Func.isWrapper; first | (rw [if_pos (by decide +kernel)]; kernel_rfl) | (rw [if_neg (by decide +kernel)]; exact ⟨rfl, rfl⟩))
    (fun os started H enc _ => lifted os started H enc)

/-- The statement's row. -/
theorem row : Rows.ShaSameSaid :=
  over

set_option maxRecDepth 100000 in
/-- The statement, its row tied to the text of the program. -/
theorem proved : Rows.ShaSameCardSaid :=
  Claim7.holds_tied_plain_at .later [] [.data] true (true, "00a480067bf7779466c225fce9181c66be2bbf036ea5eb1f3502e139b72e3739") false
    row (fun _ h => by cases h) (by kernel_rfl) (fun _ h => by cases h) shaSame_row_tie rfl ⟨rfl, rfl⟩ (by kernel_rfl) rfl
    (fun f fn hf hfn => by
      obtain rfl : f = 5 := Option.some.inj ((show Tryd.prog.funcNamed "lodger/lodgerlaw03.ShaSame" = some 5 by kernel_rfl).symm.trans hf) |>.symm
      obtain rfl : fn = Tryd.f5 := (Option.some.inj (Tryd.func5.symm.trans hfn)).symm
      exact ⟨by kernel_rfl, fun j t ht => by
        rw [Tryd.params5] at ht
        have : t = 9 ∨ t = 28 := by
          rcases j with _ | _ | _ | j
          · exact .inl (by simpa using ht.symm)
          · exact .inl (by simpa using ht.symm)
          · exact .inr (by simpa using ht.symm)
          · simp at ht
        rcases this with rfl | rfl
        · exact (show Tryd.prog.wantsStandIn 9 = false by kernel_rfl)
        · exact (show Tryd.prog.wantsStandIn 28 = false by kernel_rfl)⟩)
    (by kernel_rfl)
#print axioms proved
end Go.Proofs.YtledohmkjgmooaaDoor.shaSame
