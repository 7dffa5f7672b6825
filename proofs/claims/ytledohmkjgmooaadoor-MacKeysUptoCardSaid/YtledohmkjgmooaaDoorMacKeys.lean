/- The statement MacKeys, where what it reads is of bulk at most 1048576: whatever the key, the bytes and the number of zeros, the call returns true and leaves all that was there as it was: a key of more than 64 bytes does as its sum does; zeros behind a shorter one, up to 64 bytes, change nothing. The condition: the one package variable that its row lists holds what it lists; the card ties that to the text of the program. The runs are reckoned by the evaluator of the texts Ev*, which are shown to be the model's; the loops are inductions. -/
import Derived.Test.YtledohmkjgmooaaDoorRows
import Derived.Test.YtledohmkjgmooaaDoorEvZ
import Derived.Test.YtledohmkjgmooaaDoorMacWb
import Derived.Test.YtledohmkjgmooaaDoorCards
import Derived.Test.YtledohmkjgmooaaDoorTie
import Derived.SevenTiedAt
import Derived.WalkKit
import Derived.ProofKit
import Derived.OpenShut
import Derived.ChangeMaps5
import Derived.Deep.Grids
import Derived.Deep.DeepHandedRow
import Derived.Deep.DeepWitnessRowRef
set_option maxRecDepth 100000
namespace Go.Proofs.YtledohmkjgmooaaDoor.macKeys
open Go Go.ChangeShapes Go.WideShapes Go.ChangeAt Go.RowKit Go.ChangeMaps
open Ev shaW

theorem own : ownKnob Tryd.prog.godebug = none := by kernel_rfl

noncomputable abbrev T32 (f : Nat → Int) : T AV := storeList .leaf 0 ((List.range 32).map fun i => .int .u8 (f i))
noncomputable abbrev HA (f g : Nat → Int) : AHeap := ⟨.node (.node .leaf (some (.cells (T32 g) 32 22 0 0 1 0 false .leaf)) .leaf) (some (.cells (T32 f) 32 22 0 0 1 0 false .leaf)) .leaf, 2, GK⟩
noncomputable abbrev HB (f : Nat → Int) (n : Nat) : AHeap := ⟨.node (.node .leaf (some (.cells (storeList .leaf 0 (List.replicate n (.int .u8 0))) n 5 0 0 1 0 false .leaf)) .leaf) (some (.cells (T32 f) 32 22 0 0 1 0 false .leaf)) .leaf, 2, GK⟩

theorem lawA (key s : List UInt8) (y : Int) (f g : Nat → Int) (R : AV → Prop) (_K : AM → Prop) : Obl P 8 (fun v _ => R v) 0 _K [.run 8, .callv [] (.bool true), .run 9, .callv [0, 1] (sm f), .run 10, .know 16 true, .run 7, .callv [0] (sm g), .run 13, .step, .run 1, .callv [0, 1] (sm f), .res (.val (.bool true) (HA f g)), .run 3, .done] (startM P 8 [.str key, .str s, .int .u8 y] GK) =
  ((Goal P 0 14 (fun x _ => x = AV.bool true) (startM P 14 [] GK)) ∧ (Goal P 0 12 (fun x _ => x = sm f) (startM P 12 [.str key, .str s] GK)) ∧ (decide ((key.length : Int) > 64) = true) ∧ (Goal P 0 9 (fun x _ => x = sm g) (startM P 9 [.str key] GK)) ∧
    (some (sm f) = some (sm f)) ∧ (some (sm f) = some (sm f)) ∧ (Goal P 0 12 (fun x _ => x = sm f) (startM P 12 [.str (sumB g), .str s] GK)) ∧ (some (sm f) = some (sm f)) ∧
    (valE (HA f g) (binA P (HA f g) .eql 22 false (sm f) (sm f)) = some (.val (.bool true) (HA f g))) ∧ R (.bool true)) := by kernel_rfl

/-- With n zeros behind a shorter key. -/
def StB (n : Nat) : Prop := ∀ (key s : List UInt8) (y : Int) (f : Nat → Int) (R : AV → Prop) (_K : AM → Prop), Obl P 8 (fun v _ => R v) 0 _K [.run 8, .callv [] (.bool true), .run 9, .callv [0, 1] (sm f), .run 10, .know 16 false, .run 10, .slot 29 (.int .i64 (Int.ofNat n)), .run 8, .op, .run 3, .callv [0, 1] (sm f), .res (.val (.bool true) (HB f n)), .run 3, .done] (startM P 8 [.str key, .str s, .int .u8 y] GK) =
  ((Goal P 0 14 (fun x _ => x = AV.bool true) (startM P 14 [] GK)) ∧ (Goal P 0 12 (fun x _ => x = sm f) (startM P 12 [.str key, .str s] GK)) ∧ (decide ((key.length : Int) > 64) = false) ∧
    (AV.int IntKind.i64 (if decide (IntKind.i64.wrap (64 - (key.length : Int)) < IntKind.i64.wrap y) = true then IntKind.i64.wrap (64 - (key.length : Int)) else IntKind.i64.wrap y) = AV.int IntKind.i64 (Int.ofNat n)) ∧
    (key.length + n < 1099511627776) ∧ (Goal P 0 12 (fun x _ => x = sm f) (startM P 12 [.str (key ++ List.replicate n 0), .str s] GK)) ∧ (some (sm f) = some (sm f)) ∧
    (valE (HB f n) (binA P (HB f n) .eql 22 false (sm f) (sm f)) = some (.val (.bool true) (HB f n))) ∧ R (.bool true))

theorem stB0 : StB 0 := fun _ _ _ _ _ _ => by kernel_rfl
theorem stB1 : StB 1 := fun _ _ _ _ _ _ => by kernel_rfl
theorem stB2 : StB 2 := fun _ _ _ _ _ _ => by kernel_rfl
theorem stB3 : StB 3 := fun _ _ _ _ _ _ => by kernel_rfl
theorem stB4 : StB 4 := fun _ _ _ _ _ _ => by kernel_rfl
theorem stB5 : StB 5 := fun _ _ _ _ _ _ => by kernel_rfl
theorem stB6 : StB 6 := fun _ _ _ _ _ _ => by kernel_rfl
theorem stB7 : StB 7 := fun _ _ _ _ _ _ => by kernel_rfl
theorem stB8 : StB 8 := fun _ _ _ _ _ _ => by kernel_rfl
theorem stB9 : StB 9 := fun _ _ _ _ _ _ => by kernel_rfl
theorem stB10 : StB 10 := fun _ _ _ _ _ _ => by kernel_rfl
theorem stB11 : StB 11 := fun _ _ _ _ _ _ => by kernel_rfl
theorem stB12 : StB 12 := fun _ _ _ _ _ _ => by kernel_rfl
theorem stB13 : StB 13 := fun _ _ _ _ _ _ => by kernel_rfl
theorem stB14 : StB 14 := fun _ _ _ _ _ _ => by kernel_rfl
theorem stB15 : StB 15 := fun _ _ _ _ _ _ => by kernel_rfl
theorem stB16 : StB 16 := fun _ _ _ _ _ _ => by kernel_rfl
theorem stB17 : StB 17 := fun _ _ _ _ _ _ => by kernel_rfl
theorem stB18 : StB 18 := fun _ _ _ _ _ _ => by kernel_rfl
theorem stB19 : StB 19 := fun _ _ _ _ _ _ => by kernel_rfl
theorem stB20 : StB 20 := fun _ _ _ _ _ _ => by kernel_rfl
theorem stB21 : StB 21 := fun _ _ _ _ _ _ => by kernel_rfl
theorem stB22 : StB 22 := fun _ _ _ _ _ _ => by kernel_rfl
theorem stB23 : StB 23 := fun _ _ _ _ _ _ => by kernel_rfl
theorem stB24 : StB 24 := fun _ _ _ _ _ _ => by kernel_rfl
theorem stB25 : StB 25 := fun _ _ _ _ _ _ => by kernel_rfl
theorem stB26 : StB 26 := fun _ _ _ _ _ _ => by kernel_rfl
theorem stB27 : StB 27 := fun _ _ _ _ _ _ => by kernel_rfl
theorem stB28 : StB 28 := fun _ _ _ _ _ _ => by kernel_rfl
theorem stB29 : StB 29 := fun _ _ _ _ _ _ => by kernel_rfl
theorem stB30 : StB 30 := fun _ _ _ _ _ _ => by kernel_rfl
theorem stB31 : StB 31 := fun _ _ _ _ _ _ => by kernel_rfl
theorem stB32 : StB 32 := fun _ _ _ _ _ _ => by kernel_rfl
theorem stB33 : StB 33 := fun _ _ _ _ _ _ => by kernel_rfl
theorem stB34 : StB 34 := fun _ _ _ _ _ _ => by kernel_rfl
theorem stB35 : StB 35 := fun _ _ _ _ _ _ => by kernel_rfl
theorem stB36 : StB 36 := fun _ _ _ _ _ _ => by kernel_rfl
theorem stB37 : StB 37 := fun _ _ _ _ _ _ => by kernel_rfl
theorem stB38 : StB 38 := fun _ _ _ _ _ _ => by kernel_rfl
theorem stB39 : StB 39 := fun _ _ _ _ _ _ => by kernel_rfl
theorem stB40 : StB 40 := fun _ _ _ _ _ _ => by kernel_rfl
theorem stB41 : StB 41 := fun _ _ _ _ _ _ => by kernel_rfl
theorem stB42 : StB 42 := fun _ _ _ _ _ _ => by kernel_rfl
theorem stB43 : StB 43 := fun _ _ _ _ _ _ => by kernel_rfl
theorem stB44 : StB 44 := fun _ _ _ _ _ _ => by kernel_rfl
theorem stB45 : StB 45 := fun _ _ _ _ _ _ => by kernel_rfl
theorem stB46 : StB 46 := fun _ _ _ _ _ _ => by kernel_rfl
theorem stB47 : StB 47 := fun _ _ _ _ _ _ => by kernel_rfl
theorem stB48 : StB 48 := fun _ _ _ _ _ _ => by kernel_rfl
theorem stB49 : StB 49 := fun _ _ _ _ _ _ => by kernel_rfl
theorem stB50 : StB 50 := fun _ _ _ _ _ _ => by kernel_rfl
theorem stB51 : StB 51 := fun _ _ _ _ _ _ => by kernel_rfl
theorem stB52 : StB 52 := fun _ _ _ _ _ _ => by kernel_rfl
theorem stB53 : StB 53 := fun _ _ _ _ _ _ => by kernel_rfl
theorem stB54 : StB 54 := fun _ _ _ _ _ _ => by kernel_rfl
theorem stB55 : StB 55 := fun _ _ _ _ _ _ => by kernel_rfl
theorem stB56 : StB 56 := fun _ _ _ _ _ _ => by kernel_rfl
theorem stB57 : StB 57 := fun _ _ _ _ _ _ => by kernel_rfl
theorem stB58 : StB 58 := fun _ _ _ _ _ _ => by kernel_rfl
theorem stB59 : StB 59 := fun _ _ _ _ _ _ => by kernel_rfl
theorem stB60 : StB 60 := fun _ _ _ _ _ _ => by kernel_rfl
theorem stB61 : StB 61 := fun _ _ _ _ _ _ => by kernel_rfl
theorem stB62 : StB 62 := fun _ _ _ _ _ _ => by kernel_rfl
theorem stB63 : StB 63 := fun _ _ _ _ _ _ => by kernel_rfl
theorem stB64 : StB 64 := fun _ _ _ _ _ _ => by kernel_rfl

theorem stB : ∀ n : Nat, n ≤ 64 → StB n
  | 0, _ => stB0
  | 1, _ => stB1
  | 2, _ => stB2
  | 3, _ => stB3
  | 4, _ => stB4
  | 5, _ => stB5
  | 6, _ => stB6
  | 7, _ => stB7
  | 8, _ => stB8
  | 9, _ => stB9
  | 10, _ => stB10
  | 11, _ => stB11
  | 12, _ => stB12
  | 13, _ => stB13
  | 14, _ => stB14
  | 15, _ => stB15
  | 16, _ => stB16
  | 17, _ => stB17
  | 18, _ => stB18
  | 19, _ => stB19
  | 20, _ => stB20
  | 21, _ => stB21
  | 22, _ => stB22
  | 23, _ => stB23
  | 24, _ => stB24
  | 25, _ => stB25
  | 26, _ => stB26
  | 27, _ => stB27
  | 28, _ => stB28
  | 29, _ => stB29
  | 30, _ => stB30
  | 31, _ => stB31
  | 32, _ => stB32
  | 33, _ => stB33
  | 34, _ => stB34
  | 35, _ => stB35
  | 36, _ => stB36
  | 37, _ => stB37
  | 38, _ => stB38
  | 39, _ => stB39
  | 40, _ => stB40
  | 41, _ => stB41
  | 42, _ => stB42
  | 43, _ => stB43
  | 44, _ => stB44
  | 45, _ => stB45
  | 46, _ => stB46
  | 47, _ => stB47
  | 48, _ => stB48
  | 49, _ => stB49
  | 50, _ => stB50
  | 51, _ => stB51
  | 52, _ => stB52
  | 53, _ => stB53
  | 54, _ => stB54
  | 55, _ => stB55
  | 56, _ => stB56
  | 57, _ => stB57
  | 58, _ => stB58
  | 59, _ => stB59
  | 60, _ => stB60
  | 61, _ => stB61
  | 62, _ => stB62
  | 63, _ => stB63
  | 64, _ => stB64
  | n + 65, h => absurd h (by omega)

theorem out_congr {a b : List UInt8} (h : kp a = kp b) (s : List UInt8) : out a s = out b s := by
  have e : kb a = kb b := funext fun k => by unfold kb; rw [h]
  unfold out inn
  rw [e]

theorem out_sum (key s : List UInt8) (h : key.length > 64) : out (sumB (sb key)) s = out key s := by
  refine out_congr ?_ s
  have e : key1 (sumB (sb key)) = key1 key := by
    unfold key1
    rw [if_pos h, if_neg (by rw [sumB_len]; decide)]
  unfold kp
  rw [e]

theorem out_zeros (key s : List UInt8) (n : Nat) (h : key.length + n ≤ 64) : out (key ++ List.replicate n 0) s = out key s := by
  refine out_congr ?_ s
  have e1 : key1 key = key := by unfold key1; rw [if_neg (by omega)]
  have e2 : key1 (key ++ List.replicate n 0) = key ++ List.replicate n 0 := by unfold key1; rw [if_neg (by rw [List.length_append, List.length_replicate]; omega)]
  unfold kp
  rw [e1, e2, List.append_assoc, List.length_append, List.length_replicate, List.replicate_append_replicate]
  congr 2
  omega

theorem keys_goal (key s : List UInt8) (y : Int) (ha : 0 ≤ y ∧ y ≤ 255) (h1 : key.length < 2 ^ 40 - 200) (h2 : s.length < 2 ^ 40 - 400) : Goal P 0 8 (fun x _ => x = AV.bool true) (startM P 8 [.str key, .str s, .int .u8 y] GK) := by
  by_cases h : key.length > 64
  · have m2 := mac_ok (sumB (sb key)) s (by rw [sumB_len]; decide) h2
    rw [out_sum key s h] at m2
    exact Obl.goal (K := fun _ => False) mix (fun _ h => h.elim) (cast (lawA key s y (sb (out key s)) (sb key) (fun x => x = .bool true) _).symm
      ⟨works4_ok, mac_ok key s h1 h2, decide_eq_true (by omega), sum_sm key h1, rfl, rfl, m2, rfl, eq_ok _ _, rfl⟩)
  · obtain ⟨n, hn⟩ : ∃ n : Nat, n = min y.toNat (64 - key.length) := ⟨_, rfl⟩
    have m2 := mac_ok (key ++ List.replicate n 0) s (by rw [List.length_append, List.length_replicate]; omega) h2
    rw [out_zeros key s n (by omega)] at m2
    refine Obl.goal (K := fun _ => False) mix (fun _ h => h.elim) (cast (stB n (by omega) key s y (sb (out key s)) (fun x => x = .bool true) _).symm
      ⟨works4_ok, mac_ok key s h1 h2, decide_eq_false (by omega), congrArg (AV.int .i64) ?_, by omega, m2, rfl, eq_ok _ _, rfl⟩)
    rw [IntWalk.i64_in _ (by omega), IntWalk.i64_in _ (by omega)]
    by_cases c : (64 - (key.length : Int)) < y
    · rw [if_pos (decide_eq_true c)]
      show _ = ((n : Nat) : Int)
      omega
    · rw [if_neg (by rw [decide_eq_true_eq]; exact c)]
      show _ = ((n : Nat) : Int)
      omega

theorem law0 (key s : List UInt8) (y : Int) (K : AM → Prop) : optK (startL P 8 [.str key, .str s, .int .u8 y] [] GK) (Obl P 8 (fun v _ => v = .bool true) 0 K []) = K (startM P 8 [.str key, .str s, .int .u8 y] GK) := by kernel_rfl

theorem walk (a0 a1 : ByteArray) (a2 : Int) (w : World) (_ : a0.size ≤ maxLen) (_ : a1.size ≤ maxLen) (w2 : (Lit.int .u8 a2).wf = true) (hb : a0.data.toList.length + a1.data.toList.length ≤ 1048576) (hG : Globs GK w) : Calls P 8 #[.string a0, .string a1, .int .u8 a2] w fun r w' => r = .returned (.bool true) ∧ Old w w' := by
  have ha : 0 ≤ a2 ∧ a2 ≤ 255 := by
    have := w2
    simp only [Lit.wf, Bool.and_eq_true, decide_eq_true_eq] at this
    exact this
  exact law_ok (K := Goal P 0 8 _) (cmds := []) mix (cast (law0 _ _ _ _).symm (keys_goal a0.data.toList a1.data.toList a2 ha (by omega) (by omega))) (fun _ h => h) (vs := [.string a0, .string a1, .int .u8 a2]) hG (fun _ hx => absurd hx List.not_mem_nil) ⟨_, _, rfl, str_rel _ _, _, _, rfl, str_rel _ _, _, _, rfl, rfl, rfl⟩

/-! ### The row's step -/
theorem reads (os : Os) {H : Type} (enc : TypeId × Value → H) : ∃ places, DataW.whole enc Tryd.prog ((World.doorLaid Tryd.prog 400 os).forCall (fun _ _ => 0) ⟨#[], #[.string .empty, .string .empty, .int .u8 0], []⟩).memory Tryd.f8.params.toList Rows.macKeysSpec.vars false #[.string .empty, .string .empty, .int .u8 0].toList 8 = some ([.lit (.string []), .lit (.string []), .lit (.int .u8 0)], [], places) :=
  ⟨[], by kernel_rfl⟩

set_option maxRecDepth 100000 in
theorem lifted (os : Os) (started : os.Started) (H : Type) (enc : TypeId × Value → H) (F : Stop.Interp) :
    ReturnsInHanded {} Tryd.checked os 8 .any ((Rows.OpenSpec.upto Rows.macKeysSpec).preRow enc Tryd.prog Tryd.f8 Rows.macKeysUptoRow.domain false Rows.macKeysUptoRow.laid) (((Rows.OpenSpec.upto Rows.macKeysSpec).at F).post enc Tryd.prog Tryd.f8 false true false false) := by
  obtain ⟨places, hx⟩ := reads os enc
  refine returnsInHanded_of_row (C := Tryd.checked) (s := Rows.OpenSpec.upto Rows.macKeysSpec) own started (by kernel_rfl) Tryd.func8
    (witness_row_atRef (enc := enc) (C := Tryd.checked) false (World.doorLaid Tryd.prog 400 os) #[.string .empty, .string .empty, .int .u8 0] rfl (by kernel_rfl) (by kernel_rfl) (by kernel_rfl)
      (OpenSpec.preRow_of_cond 8 hx (by kernel_rfl) (fun k hk => by cases hk; kernel_rfl) (by kernel_rfl) (door_met os _))) ?_
  intro W base args ds gs before hval0 hW _ hcond _ hL _ _
  have hval : ∀ (j : Nat) t v, Tryd.f8.params[j]? = some t → args[j]? = some v → Value.okWide Tryd.prog W .any base t v := hval0
  have hW' := hW
  have hbulk := of_decide_eq_true (hcond _ rfl)
  obtain ⟨p, q, hA0, hV, rfl, hfz, hnd⟩ := hW
  have hA : DataW.TrodAll enc Tryd.prog W 0 (fun _ => true) true Tryd.f8.params.toList args.toList ds p := hA0
  rw [Tryd.params8] at hA hval
  obtain ⟨v0, vs0, d0, ds0, p0, q0, hargs, rfl, rfl, h0, r0⟩ := trodAll_cons hA
  obtain ⟨v1, vs1, d1, ds1, p1, q1, rfl, rfl, rfl, h1, r1⟩ := trodAll_cons r0
  obtain ⟨v2, vs2, d2, ds2, p2, q2, rfl, rfl, rfl, h2, r2⟩ := trodAll_cons r1
  obtain ⟨rfl, rfl, rfl⟩ := trodAll_nil r2
  obtain rfl : args = #[v0, v1, v2] := by cases args; simp_all
  obtain ⟨rfl, rfl⟩ := trodVars_none hV
  obtain ⟨a0, rfl, rfl, rfl, w0⟩ := open_string Tryd.underlying9 (hval 0 9 v0 rfl rfl) h0
  obtain ⟨a1, rfl, rfl, rfl, w1⟩ := open_string Tryd.underlying9 (hval 1 9 v1 rfl rfl) h1
  obtain ⟨a2, rfl, rfl, rfl, w2⟩ := open_int Tryd.underlying5 (hval 2 5 v2 rfl rfl) h2
  simp only [List.append_nil, Rows.uptoBulkAll, Rows.uptoBulk] at hbulk
  refine (walk a0 a1 a2 W w0 w1 w2 (by omega) (globK (globs hL))).mono fun e W' ⟨he, hg⟩ => ?_
  subst he
  exact ⟨_, rfl, Ev.post_law (by kernel_rfl) (by kernel_rfl) rfl Tryd.underlying4 rfl hW' rfl hg⟩

theorem over : Rows.macKeysUptoRow.holds Tryd.pinned (Rows.OpenSpec.upto Rows.macKeysSpec) :=
  OpenClaim.holds_of_cond 8 Tryd.f8 rfl rfl rfl rfl rfl rfl rfl ⟨rfl, rfl, rfl, rfl, rfl⟩ rfl rfl rfl rfl rfl (by kernel_rfl) Tryd.func8 (by kernel_rfl)
    (of_decide_eq_true (by kernel_rfl)) (by unfold Func.isWrapper; first | (rw [if_pos (by decide +kernel)]; kernel_rfl) | (rw [if_neg (by decide +kernel)]; exact ⟨rfl, rfl⟩))
    (fun os started H enc _ F => by rw [OpenClaim.pre_eq_preRow]; exact lifted os started H enc F)

/-- The statement's row. -/
theorem row : Rows.MacKeysUptoSaid :=
  over

set_option maxRecDepth 100000 in
/-- The statement, its row tied to the text of the program. -/
theorem proved : Rows.MacKeysUptoCardSaid :=
  Claim7.holds_tied_plain_at .later [] [.data] true (true, "00a480067bf7779466c225fce9181c66be2bbf036ea5eb1f3502e139b72e3739") false
    row (fun _ h => by cases h) (by kernel_rfl) (fun _ h => by cases h) macKeysUpto_row_tie rfl ⟨rfl, rfl⟩ (by kernel_rfl) rfl
    (fun f fn hf hfn => by
      obtain rfl : f = 8 := Option.some.inj ((show Tryd.prog.funcNamed "lodger/lodgerlaw04.MacKeys" = some 8 by kernel_rfl).symm.trans hf) |>.symm
      obtain rfl : fn = Tryd.f8 := (Option.some.inj (Tryd.func8.symm.trans hfn)).symm
      exact ⟨by kernel_rfl, fun j t ht => by
        rw [Tryd.params8] at ht
        have : t = 5 ∨ t = 9 := by
          rcases j with _ | _ | _ | j
          · exact .inr (by simpa using ht.symm)
          · exact .inr (by simpa using ht.symm)
          · exact .inl (by simpa using ht.symm)
          · simp at ht
        rcases this with rfl | rfl
        · exact (show Tryd.prog.wantsStandIn 5 = false by kernel_rfl)
        · exact (show Tryd.prog.wantsStandIn 9 = false by kernel_rfl)⟩)
    (by kernel_rfl)
#print axioms proved
end Go.Proofs.YtledohmkjgmooaaDoor.macKeys
