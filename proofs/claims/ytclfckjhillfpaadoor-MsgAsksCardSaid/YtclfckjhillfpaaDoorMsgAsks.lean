/- The statement MsgAsks: whatever the request and the three numbers by which its texts are made longer, the call returns true and leaves all that was there as it was: the program lays it in bytes as the document does, refuses what the document refuses, with the same number, and the chapter's rows hold. The condition: the one package variable that its row lists holds what it lists; the card ties that to the text of the program. The runs are reckoned by the evaluator of the texts Ev*, which is shown to be followed by the model. -/
import Derived.Test.YtclfckjhillfpaaDoorRows
import Derived.Test.YtclfckjhillfpaaDoorEvZ
import Derived.Test.YtclfckjhillfpaaDoorMaW
import Derived.Test.YtclfckjhillfpaaDoorCards
import Derived.Test.YtclfckjhillfpaaDoorTie
import Derived.SevenTiedAt
import Derived.WalkKit
import Derived.ProofKit
import Derived.OpenShut
import Derived.ChangeMaps5
import Derived.Deep.Grids
set_option maxRecDepth 100000
namespace Go.Proofs.YtclfckjhillfpaaDoor.msgAsks
open Go Go.ChangeShapes Go.WideShapes Go.ChangeAt Go.RowKit Go.ChangeMaps
open Ev mq

theorem own : ownKnob Tryd.prog.godebug = none := by kernel_rfl

theorem works_ok : Goal P 0 9 (fun x _ => x = AV.bool true) (startM P 9 [] GW) :=
  Obl.goal (K := fun _ => False) mix (fun _ h => h.elim) (cast (wk (fun v => v = .bool true) _).symm rfl)

theorem in_arr3 {H : Type} {enc : TypeId × Value → H} {w : World} {b0 : Nat} {v : Value} {d : DataW H} {ps : List MemPlace} (hv : Value.okWide P w .any b0 25 v) (h : DataW.Trod enc P w 0 (fun _ => true) true 25 v d ps) :
    ∃ b0 b1 b2 : Int, (0 ≤ b0 ∧ b0 ≤ 65535) ∧ (0 ≤ b1 ∧ b1 ≤ 65535) ∧ (0 ≤ b2 ∧ b2 ≤ 65535) ∧ v = .agg #[.int .u16 b0, .int .u16 b1, .int .u16 b2] := by
  have u25 : P.underlying 25 = some (.array 3 24) := by kernel_rfl
  have c25 : P.cellsOf 25 = 3 := by kernel_rfl
  have c24 : P.cellsOf 24 = 1 := by kernel_rfl
  have u24 : P.underlying 24 = some (.int .u16) := by kernel_rfl
  unfold Value.okWide at hv
  rw [u25] at hv
  obtain ⟨⟨l⟩, rfl, hl, _⟩ := hv
  rw [c25] at hl
  have hl : l.length = 3 := hl
  obtain ⟨fuel, h⟩ := h
  obtain ⟨xs, m, rfl, hx, hlen, hxl, hel⟩ := DataW.trod_array u25 h
  match l, hl with
  | [y0, y1, y2], _ =>
    have k0 : DataW.trod enc P w 0 (fun _ => true) true m 24 [y0] = xs[0]? := by
      have := hel 0 (by omega)
      rwa [c24] at this
    have k1 : DataW.trod enc P w 0 (fun _ => true) true m 24 [y1] = xs[1]? := by
      have := hel 1 (by omega)
      rwa [c24] at this
    have k2 : DataW.trod enc P w 0 (fun _ => true) true m 24 [y2] = xs[2]? := by
      have := hel 2 (by omega)
      rwa [c24] at this
    rw [List.getElem?_eq_getElem (by omega)] at k0 k1 k2
    obtain ⟨n0, e0, _, w0⟩ := DataW.trod_int u24 k0
    obtain ⟨n1, e1, _, w1⟩ := DataW.trod_int u24 k1
    obtain ⟨n2, e2, _, w2⟩ := DataW.trod_int u24 k2
    simp only [List.cons.injEq, and_true] at e0 e1 e2
    subst e0 e1 e2
    exact ⟨n0, n1, n2, bounds_u16 w0, bounds_u16 w1, bounds_u16 w2, rfl⟩

theorem in_req {H : Type} {enc : TypeId × Value → H} {w : World} {b0 : Nat} {v : Value} {d : DataW H} {ps : List MemPlace} (hv : Value.okWide P w .any b0 23 v) (h : DataW.Trod enc P w 0 (fun _ => true) true 23 v d ps) :
    ∃ (k : Int) (a b c : ByteArray), a.size ≤ maxLen ∧ b.size ≤ maxLen ∧ c.size ≤ maxLen ∧ v = .agg #[.int .i64 k, .string a, .string b, .string c] := by
  have u3 : P.underlying 3 = some (.int .i64) := by kernel_rfl
  have u9 : P.underlying 9 = some .string := by kernel_rfl
  have c23 : P.cellsOf 23 = 4 := by kernel_rfl
  have c3 : P.cellsOf 3 = 1 := by kernel_rfl
  have c9 : P.cellsOf 9 = 1 := by kernel_rfl
  obtain ⟨fs, u23, f0, f1, f2, f3⟩ : ∃ fs : Array Field, P.underlying 23 = some (.struct fs) ∧ (fs[0]?.map fun f => (f.type, f.offset)) = some (3, 0) ∧ (fs[1]?.map fun f => (f.type, f.offset)) = some (9, 1) ∧ (fs[2]?.map fun f => (f.type, f.offset)) = some (9, 2) ∧ (fs[3]?.map fun f => (f.type, f.offset)) = some (9, 3) :=
    ⟨(match P.underlying 23 with | some (.struct fs) => fs | _ => #[]), by kernel_rfl, by kernel_rfl, by kernel_rfl, by kernel_rfl, by kernel_rfl⟩
  unfold Value.okWide at hv
  rw [u23] at hv
  obtain ⟨⟨l⟩, rfl, hl, _⟩ := hv
  rw [c23] at hl
  have hl : l.length = 4 := hl
  obtain ⟨fuel, h⟩ := h
  obtain ⟨xs, m, rfl, hx, hlen, hxl, hel⟩ := DataW.trod_struct u23 h
  match l, hl with
  | [y0, y1, y2, y3], _ =>
    obtain ⟨g0, q0, r0⟩ := Option.map_eq_some_iff.1 f0
    obtain ⟨g1, q1, r1⟩ := Option.map_eq_some_iff.1 f1
    obtain ⟨g2, q2, r2⟩ := Option.map_eq_some_iff.1 f2
    obtain ⟨g3, q3, r3⟩ := Option.map_eq_some_iff.1 f3
    simp only [Prod.mk.injEq] at r0 r1 r2 r3
    have hn : 3 < xs.length := by
      rw [hxl]
      exact (Array.getElem?_eq_some_iff.1 q3).1
    have k0 := hel 0 g0 q0
    have k1 := hel 1 g1 q1
    have k2 := hel 2 g2 q2
    have k3 := hel 3 g3 q3
    rw [r0.1, r0.2, c3, List.getElem?_eq_getElem (by omega)] at k0
    rw [r1.1, r1.2, c9, List.getElem?_eq_getElem (by omega)] at k1
    rw [r2.1, r2.2, c9, List.getElem?_eq_getElem (by omega)] at k2
    rw [r3.1, r3.2, c9, List.getElem?_eq_getElem (by omega)] at k3
    obtain ⟨n0, e0, _, _⟩ := DataW.trod_int u3 k0
    obtain ⟨n1, e1, _, w1⟩ := DataW.trod_string u9 k1
    obtain ⟨n2, e2, _, w2⟩ := DataW.trod_string u9 k2
    obtain ⟨n3, e3, _, w3⟩ := DataW.trod_string u9 k3
    obtain rfl : y0 = Value.int .i64 n0 := (List.cons.inj (show [y0] = [Value.int .i64 n0] from e0)).1
    obtain rfl : y1 = Value.string n1 := (List.cons.inj (show [y1] = [Value.string n1] from e1)).1
    obtain rfl : y2 = Value.string n2 := (List.cons.inj (show [y2] = [Value.string n2] from e2)).1
    obtain rfl : y3 = Value.string n3 := (List.cons.inj (show [y3] = [Value.string n3] from e3)).1
    exact ⟨n0, n1, n2, n3, w1, w2, w3, rfl⟩

theorem str_rel (R : Bij) (b : ByteArray) : VRel R (.str b.data.toList) (.string b) := by
  show Value.string b = .string ⟨b.data.toList.toArray⟩
  rw [Array.toArray_toList]

theorem walk (k n0 n1 n2 : Int) (a b c : ByteArray) (ha : a.size ≤ maxLen) (hb : b.size ≤ maxLen) (hc : c.size ≤ maxLen) (h0 : 0 ≤ n0 ∧ n0 ≤ 65535) (h1 : 0 ≤ n1 ∧ n1 ≤ 65535) (h2 : 0 ≤ n2 ∧ n2 ≤ 65535) (w : World) (hG : Globs GW w) :
    Calls P 3 #[.agg #[.int .i64 k, .string a, .string b, .string c], .agg #[.int .u16 n0, .int .u16 n1, .int .u16 n2]] w fun r w' => r = .returned (.bool true) ∧ Old w w' :=
  law_calls (a := _) (l := []) (args := [.agg [.int .i64 k, .str a.data.toList, .str b.data.toList, .str c.data.toList], .agg [.int .u16 n0, .int .u16 n1, .int .u16 n2]])
    (vs := [.agg #[.int .i64 k, .string a, .string b, .string c], .agg #[.int .u16 n0, .int .u16 n1, .int .u16 n2]]) rfl hG (fun _ hx => absurd hx List.not_mem_nil)
    ⟨_, _, rfl, ⟨_, rfl, _, _, rfl, rfl, _, _, rfl, str_rel _ _, _, _, rfl, str_rel _ _, _, _, rfl, str_rel _ _, rfl⟩, _, _, rfl, ⟨_, rfl, _, _, rfl, rfl, _, _, rfl, rfl, _, _, rfl, rfl, rfl⟩, rfl⟩
    (asks ha hb hc h0 h1 h2 works_ok)

/-! ### The row's step -/
set_option maxRecDepth 100000 in
theorem lifted (os : Os) (started : os.Started) (H : Type) (enc : TypeId × Value → H) :
    ReturnsInHanded {} Tryd.checked os 3 .any (fun w args => (Rows.msgAsksSpec.pre enc Tryd.prog Tryd.f3 [] false w args ∧ laidMetH Tryd.prog [("lodger/diag.words", Rows.laid_lodger_diag_words)] w) ∧ sizedMet enc Tryd.prog Tryd.f3 (OpenSpec.ofChange Rows.msgAsksSpec) false w args)
      (Rows.msgAsksSpec.post enc Tryd.prog Tryd.f3 false true false false) := by
  refine returnsInHanded_of_change_and (C := Tryd.checked) (X := fun w _ => laidMetH Tryd.prog [("lodger/diag.words", Rows.laid_lodger_diag_words)] w) (fun _ _ _ hh h => h.of_heap hh) own started (by kernel_rfl) Tryd.func3
    (ChangeSpec.witness_shaped (enc := enc) (C := Tryd.checked) (os := os) (X := fun w _ => laidMetH Tryd.prog [("lodger/diag.words", Rows.laid_lodger_diag_words)] w) false (World.doorLaid Tryd.prog 400 os) #[.agg #[.int .i64 0, .string .empty, .string .empty, .string .empty], .agg #[.int .u16 0, .int .u16 0, .int .u16 0]] 8 rfl (World.shaped_of_RefB (by kernel_rfl) (by kernel_rfl)) (by kernel_rfl) (by kernel_rfl) (by kernel_rfl) (door_met os _)) ?_
  intro W base args ds gs before hval0 hW _ _ hL _
  have hval : ∀ (j : Nat) t v, Tryd.f3.params[j]? = some t → args[j]? = some v → Value.okWide Tryd.prog W .any base t v := hval0
  have hW' := hW
  obtain ⟨p, q, hA0, hV, rfl, hfz, hnd⟩ := hW
  have hA : DataW.TrodAll enc Tryd.prog W 0 (fun _ => true) true Tryd.f3.params.toList args.toList ds p := hA0
  rw [Tryd.params3] at hA hval
  obtain ⟨v0, vs0, d0, ds0, p0, q0, hargs, rfl, rfl, h0, r0⟩ := trodAll_cons hA
  obtain ⟨v1, vs1, d1, ds1, p1, q1, rfl, rfl, rfl, h1, r1⟩ := trodAll_cons r0
  obtain ⟨rfl, rfl, rfl⟩ := trodAll_nil r1
  obtain rfl : args = #[v0, v1] := by cases args; simp_all
  obtain ⟨rfl, rfl⟩ := trodVars_none hV
  obtain ⟨k, s0, s1, s2, q0, q1, q2, rfl⟩ := in_req (hval 0 23 v0 rfl rfl) h0
  obtain ⟨n0, n1, n2, m0, m1, m2, rfl⟩ := in_arr3 (hval 1 25 v1 rfl rfl) h1
  refine (walk k n0 n1 n2 s0 s1 s2 q0 q1 q2 m0 m1 m2 W (globs hL)).mono fun e W' ⟨he, hg⟩ => ?_
  subst he
  exact ⟨_, rfl, Ev.post_law (by kernel_rfl) (by kernel_rfl) rfl Tryd.underlying4 rfl hW' rfl hg⟩

theorem over : Rows.msgAsksRow.holds Tryd.pinned (OpenSpec.ofChange Rows.msgAsksSpec) :=
  OpenClaim.holds_of_wide 3 Tryd.f3 rfl rfl rfl rfl rfl rfl rfl ⟨rfl, rfl, rfl, rfl, rfl⟩ rfl rfl rfl rfl rfl (by kernel_rfl) Tryd.func3 (by kernel_rfl)
    (of_decide_eq_true (by kernel_rfl)) (by unfold Func.isWrapper; first | (rw [if_pos (by decide +kernel)]; kernel_rfl) | (rw [if_neg (by decide +kernel)]; exact ⟨rfl, rfl⟩))
    (fun os started H enc _ => lifted os started H enc)

/-- The statement's row. -/
theorem row : Rows.MsgAsksSaid :=
  over

set_option maxRecDepth 100000 in
/-- The statement, its row tied to the text of the program. -/
theorem proved : Rows.MsgAsksCardSaid :=
  Claim7.holds_tied_plain_at .later [] [.data] true (true, "23b3eece8873933a6e8f1df20c5a1cdd58e74d1c24db7b805872de76aeade30f") false
    row (fun _ h => by cases h) (by kernel_rfl) (fun _ h => by cases h) msgAsks_row_tie rfl ⟨rfl, rfl⟩ (by kernel_rfl) rfl
    (fun f fn hf hfn => by
      obtain rfl : f = 3 := Option.some.inj ((show Tryd.prog.funcNamed "lodger/lodgerlaw27.MsgAsks" = some 3 by kernel_rfl).symm.trans hf) |>.symm
      obtain rfl : fn = Tryd.f3 := (Option.some.inj (Tryd.func3.symm.trans hfn)).symm
      exact ⟨by kernel_rfl, fun j t ht => by
        rw [Tryd.params3] at ht
        have : t = 23 ∨ t = 25 := by
          rcases j with _ | _ | j
          · exact .inl (by simpa using ht.symm)
          · exact .inr (by simpa using ht.symm)
          · simp at ht
        rcases this with rfl | rfl
        · exact (show Tryd.prog.wantsStandIn 23 = false by kernel_rfl)
        · exact (show Tryd.prog.wantsStandIn 25 = false by kernel_rfl)⟩)
    (by kernel_rfl)
#print axioms proved
end Go.Proofs.YtclfckjhillfpaaDoor.msgAsks
