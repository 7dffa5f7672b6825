/- The statement MacSums, the chapter's theorem, where what it reads is of bulk at most 1048576: whatever the key and the bytes, the call returns true and leaves all that was there as it was: a mark is two sums, one in the other, of the key and the bytes. The condition: the one package variable that its row lists holds what it lists; the card ties that to the text of the program. The runs are reckoned by the evaluator of the texts Ev*, which are shown to be the model's; the loops are inductions. -/
import Derived.Test.YtledohmkjgmooaaDoorRows
import Derived.Test.YtledohmkjgmooaaDoorEvZ
import Derived.Test.YtledohmkjgmooaaDoorMacWb
import Derived.Test.YtledohmkjgmooaaDoorCards
import Derived.Test.YtledohmkjgmooaaDoorTie
import Derived.SevenTiedAt
import Derived.WalkKit
import Derived.ProofKit
import Derived.OpenShut
import Derived.ChangeMaps5
import Derived.Deep.Grids
import Derived.Deep.DeepHandedRow
import Derived.Deep.DeepWitnessRowRef
set_option maxRecDepth 100000
namespace Go.Proofs.YtledohmkjgmooaaDoor.macSums
open Go Go.ChangeShapes Go.WideShapes Go.ChangeAt Go.RowKit Go.ChangeMaps
open Ev shaW

theorem own : ownKnob Tryd.prog.godebug = none := by kernel_rfl

noncomputable def M7 (key s sh : List UInt8) (u v : Nat → Int) (i : Int) : AM := ⟨⟨7, 56, (.node (.node (.node (.node .leaf (some (.slc 1 0 0 64 64)) .leaf) none .leaf) (some (.str s)) (.node .leaf (some (.str sh)) .leaf)) (some (.str key)) (.node (.node (.node .leaf (some (.int .i64 i)) .leaf) none .leaf) none (.node .leaf (some (.slc 0 0 0 64 64)) .leaf))),
   [.code (cd P (7 : Nat) [(1 : Nat), (1 : Nat), (1 : Nat), (1 : Nat), (1 : Nat), (0 : Nat), (1 : Nat), (0 : Nat), (0 : Nat)]), .inLoop (cd P (7 : Nat) [(1 : Nat), (1 : Nat), (1 : Nat), (1 : Nat), (1 : Nat), (0 : Nat), (1 : Nat), (0 : Nat), (0 : Nat)]), .inBlock 0, .code (cd P (7 : Nat) [(1 : Nat), (1 : Nat), (1 : Nat), (1 : Nat), (1 : Nat), (1 : Nat)])], [], .run, CallKind.normal, none⟩,
  [],
  ⟨(.node (.node .leaf (some (.cells (.fn fun k => some (.int .u8 (v k))) 64 5 0 0 1 0 false .leaf)) .leaf) (some (.cells (.fn fun k => some (.int .u8 (u k))) 64 5 0 0 1 0 false .leaf)) .leaf), 2, GK⟩⟩
noncomputable abbrev G7 (u v : Nat → Int) : AHeap := ⟨(.node (.node .leaf (some (.cells (.fn fun k => some (.int .u8 (v k))) 64 5 0 0 1 0 false .leaf)) .leaf) (some (.cells (.fn fun k => some (.int .u8 (u k))) 64 5 0 0 1 0 false .leaf)) .leaf), 2, GK⟩
noncomputable abbrev H7 (u v : Nat → Int) (f : Nat → Int) : AHeap := ⟨(.node (.node .leaf (some (.cells (.fn fun k => some (.int .u8 (v k))) 64 5 0 0 1 0 false .leaf)) .leaf) (some (.cells (.fn fun k => some (.int .u8 (u k))) 64 5 0 0 1 0 false .leaf)) (.node .leaf (some (.cells (storeList .leaf 0 ((List.range 32).map fun i => .int .u8 (f i))) 32 22 0 0 1 0 false .leaf)) .leaf)), 3, GK⟩
noncomputable abbrev two (a b : List UInt8) : T AV := ((T.leaf : T AV).set (some (.str a)) 48).set (some (.str b)) 49

theorem two_read (H : AHeap) (a b : List UInt8) (h : a.length + b.length < 1099511627776) : readA P (ev (two a b)) H (.binOp .add 9 (.tmp 48) (.tmp 49) 9) = some (.str (a ++ b)) := by
  have e : catA a b = some (.str (a ++ b)) := if_pos h
  have e2 : opA P (ev (two a b)) H (.binOp .add 9 (.tmp 48) (.tmp 49) 9) = some (.val (.str (a ++ b)) H) := by
    show valE H (catA a b) = _
    rw [e]
    rfl
  unfold readA
  rw [e2]

theorem sums0 (key s : List UInt8) (R : AV → Prop) (K : AM → Prop) : Obl P 7 (fun v _ => R v) 0 K [.run 8, .callv [] (.bool true), .run 16, .know 15 false, .run 16, .told 0 (.fn fun _ => some (.int .u8 0)) 64, .told 1 (.fn fun _ => some (.int .u8 0)) 64, .can 0 [0, 1] [0, 1, 5, 6, 7, 8] []] (startM P 7 [.str key, .str s] GK) =
  ((Goal P 0 14 (fun x _ => x = AV.bool true) (startM P 14 [] GK)) ∧ (decide ((key.length : Int) > 64) = false) ∧ Tells 64 (.fn fun _ => some (.int .u8 0)) Z64 ∧ (64 = 64) ∧ Tells 64 (.fn fun _ => some (.int .u8 0)) Z64 ∧ (64 = 64) ∧ (PlainFn fun _ => some (AV.int IntKind.u8 0)) ∧ (PlainFn fun _ => some (AV.int IntKind.u8 0)) ∧ K (M7 key s key (fun _ => 0) (fun _ => 0) 0)) := by kernel_rfl

theorem sums1 (key s : List UInt8) (f : Nat → Int) (R : AV → Prop) (K : AM → Prop) : Obl P 7 (fun v _ => R v) 0 K [.run 8, .callv [] (.bool true), .run 16, .know 15 true, .run 4, .callv [0] (sm f), .run 30, .told 1 (.fn fun _ => some (.int .u8 0)) 64, .told 2 (.fn fun _ => some (.int .u8 0)) 64, .can 0 [1, 2] [0, 1, 5, 6, 7, 8] []] (startM P 7 [.str key, .str s] GK) =
  ((Goal P 0 14 (fun x _ => x = AV.bool true) (startM P 14 [] GK)) ∧ (decide ((key.length : Int) > 64) = true) ∧ (Goal P 0 9 (fun x _ => x = sm f) (startM P 9 [.str key] GK)) ∧ Tells 64 (.fn fun _ => some (.int .u8 0)) Z64 ∧ (64 = 64) ∧ Tells 64 (.fn fun _ => some (.int .u8 0)) Z64 ∧ (64 = 64) ∧ (PlainFn fun _ => some (AV.int IntKind.u8 0)) ∧ (PlainFn fun _ => some (AV.int IntKind.u8 0)) ∧ K (M7 key s (sumB f) (fun _ => 0) (fun _ => 0) 0)) := by kernel_rfl

theorem sumsA (key s sh : List UInt8) (u v u' v' : Nat → Int) (i : Int) (R : AV → Prop) (K : AM → Prop) : Obl P 7 (fun v _ => R v) 0 K [.run 6, .know 22 true, .run 16, .know 28 true, .run 4, .op, .run 8, .op, .opw false, .run 6, .op, .opw false, .run 8, .told 0 (.fn fun k => some (.int .u8 (u' k))) 64, .told 1 (.fn fun k => some (.int .u8 (v' k))) 64, .can 0 [0, 1] [0, 1, 5, 6, 7, 8] []] (M7 key s sh u v i) =
  ((decide (i < 64) = true) ∧ (decide (i < (sh.length : Int)) = true) ∧ (0 ≤ i ∧ i < (sh.length : Int)) ∧ (0 ≤ i ∧ i < ((64 : Nat) : Int)) ∧ (pl 0 i + 1 ≤ 64 ∧ 0 ≤ pl 0 i) ∧ (0 ≤ i ∧ i < ((64 : Nat) : Int)) ∧ (pl 0 i + 1 ≤ 64 ∧ 0 ≤ pl 0 i) ∧
    Tells 64 (.fn fun k => some (.int .u8 (u' k))) (.fn fun k => bif Nat.beq k (pl 0 i) then some (.int .u8 (xb (sh.getD i.toNat 0).toNat 54)) else T.get (.fn fun k => some (.int .u8 (u k))) k) ∧ (64 = 64) ∧ Tells 64 (.fn fun k => some (.int .u8 (v' k))) (.fn fun k => bif Nat.beq k (pl 0 i) then some (.int .u8 (xb (sh.getD i.toNat 0).toNat 92)) else T.get (.fn fun k => some (.int .u8 (v k))) k) ∧ (64 = 64) ∧ (PlainFn fun k => some (AV.int IntKind.u8 (u' k))) ∧ (PlainFn fun k => some (AV.int IntKind.u8 (v' k))) ∧ K (M7 key s sh u' v' (IntKind.i64.wrap (i + 1)))) := by kernel_rfl

theorem sumsB (key s sh : List UInt8) (u v u' v' : Nat → Int) (i : Int) (R : AV → Prop) (K : AM → Prop) : Obl P 7 (fun v _ => R v) 0 K [.run 6, .know 22 true, .run 16, .know 28 false, .run 8, .op, .opw false, .run 6, .op, .opw false, .run 8, .told 0 (.fn fun k => some (.int .u8 (u' k))) 64, .told 1 (.fn fun k => some (.int .u8 (v' k))) 64, .can 0 [0, 1] [0, 1, 5, 6, 7, 8] []] (M7 key s sh u v i) =
  ((decide (i < 64) = true) ∧ (decide (i < (sh.length : Int)) = false) ∧ (0 ≤ i ∧ i < ((64 : Nat) : Int)) ∧ (pl 0 i + 1 ≤ 64 ∧ 0 ≤ pl 0 i) ∧ (0 ≤ i ∧ i < ((64 : Nat) : Int)) ∧ (pl 0 i + 1 ≤ 64 ∧ 0 ≤ pl 0 i) ∧
    Tells 64 (.fn fun k => some (.int .u8 (u' k))) (.fn fun k => bif Nat.beq k (pl 0 i) then some (.int .u8 (xb 0 54)) else T.get (.fn fun k => some (.int .u8 (u k))) k) ∧ (64 = 64) ∧ Tells 64 (.fn fun k => some (.int .u8 (v' k))) (.fn fun k => bif Nat.beq k (pl 0 i) then some (.int .u8 (xb 0 92)) else T.get (.fn fun k => some (.int .u8 (v k))) k) ∧ (64 = 64) ∧ (PlainFn fun k => some (AV.int IntKind.u8 (u' k))) ∧ (PlainFn fun k => some (AV.int IntKind.u8 (v' k))) ∧ K (M7 key s sh u' v' (IntKind.i64.wrap (i + 1)))) := by kernel_rfl

theorem sumsE (key s sh : List UInt8) (u v : Nat → Int) (f g : Nat → Int) (i : Int) (R : AV → Prop) (_K : AM → Prop) : Obl P 7 (fun v _ => R v) 0 _K [.run 6, .know 22 false, .run 11, .op, .run 1, .callv [0, 1] (sm g), .run 1, .callv [0] (sm f), .run 13, .step, .run 2, .callv [0] (sm g), .res (.val (.bool true) (H7 u v f)), .run 3, .done] (M7 key s sh u v i) =
  ((decide (i < 64) = false) ∧ ((xl64 u).length + s.length < 1099511627776) ∧ (Goal P 0 12 (fun x _ => x = sm g) (startM P 12 [.str key, .str s] GK)) ∧ (readA P (ev (two (xl64 u) s)) (G7 u v) (.binOp .add 9 (.tmp 48) (.tmp 49) 9) = some (.str (xl64 u ++ s))) ∧
    (some (AV.str (xl64 u)) = some (AV.str (xl64 u))) ∧ (some (AV.str (xl64 v)) = some (AV.str (xl64 v))) ∧ (Goal P 0 9 (fun x _ => x = sm f) (startM P 9 [.str (xl64 u ++ s)] GK)) ∧ (some (AV.str (xl64 v)) = some (AV.str (xl64 v))) ∧ (some (AV.str (xl64 v)) = some (AV.str (xl64 v))) ∧
    (Goal P 0 9 (fun x _ => x = sm g) (startM P 9 [.str (xl64 v ++ sumB f)] GK)) ∧ (valE (H7 u v f) (binA P (H7 u v f) .eql 22 false (sm g) (sm g)) = some (.val (.bool true) (H7 u v f))) ∧ R (.bool true)) := by kernel_rfl

theorem xl64_xs (b : Nat → Int) (y : Int) : xl64 (fun k => if k < 64 then xb (b k) y else 0) = xs b y :=
  List.map_congr_left fun k hk => by simp only [if_pos (List.mem_range.1 hk)]

theorem put_step (b : Nat → Int) (y c : Int) (i : Nat) (hc : c = b i) : Tells 64 (.fn fun k => some (.int .u8 (if k < i + 1 then xb (b k) y else 0))) (.fn fun k => bif Nat.beq k i then some (.int .u8 (xb c y)) else T.get (.fn fun k => some (.int .u8 (if k < i then xb (b k) y else 0))) k) := by
  refine tells_put8 _ _ _ _ _ fun k => ?_
  by_cases e : k = i
  · rw [if_pos e, if_pos (by omega), e, hc]
  · rw [if_neg e]
    by_cases e2 : k < i
    · rw [if_pos e2, if_pos (by omega)]
    · rw [if_neg e2, if_neg (by omega)]

theorem sums_loop (key s sh : List UInt8) (hk : key.length < 2 ^ 40 - 200) (hs : s.length < 2 ^ 40 - 400) (hsh : sh.length ≤ 64) (h1 : ∀ k, k < sh.length → kb key k = (sh.getD k 0).toNat) (h2 : ∀ k, sh.length ≤ k → kb key k = 0) : ∀ d i : Nat, i + d = 64 →
    Goal P 0 7 (fun x _ => x = .bool true) (M7 key s sh (fun k => if k < i then xb (kb key k) 54 else 0) (fun k => if k < i then xb (kb key k) 92 else 0) i)
  | 0, i, h => by
    obtain rfl : i = 64 := by omega
    have e1 := xl64_xs (kb key) 54
    have e2 := xl64_xs (kb key) 92
    have g1 := sum_sm (inn key s) (by unfold inn; rw [List.length_append, xs_len]; omega)
    have g2 := sum_sm (out key s) (by unfold out; rw [List.length_append, xs_len, sumB_len]; decide)
    have hl : (xl64 fun k => if k < 64 then xb (kb key k) 54 else 0).length + s.length < 1099511627776 := by rw [e1, xs_len]; omega
    refine Obl.goal (K := fun _ => False) mix (fun _ h => h.elim) (cast (sumsE key s sh _ _ (sb (inn key s)) (sb (out key s)) _ (fun x => x = .bool true) _).symm
      ⟨rfl, hl, mac_ok key s hk hs, two_read _ _ _ hl, rfl, rfl, ?_, rfl, rfl, ?_, eq_ok _ _, rfl⟩)
    · rw [e1]; exact g1
    · rw [e2]; exact g2
  | d + 1, i, h => by
    have hp : pl 0 (i : Int) = i := by unfold pl; omega
    have hn : IntKind.i64.wrap ((i : Int) + 1) = ((i + 1 : Nat) : Int) := by rw [IntWalk.i64_in _ (by omega)]; rfl
    by_cases hlt : i < sh.length
    · refine Obl.goal (K := Goal P 0 7 fun x _ => x = .bool true) mix (fun _ h => h) (cast (sumsA key s sh _ _ (fun k => if k < i + 1 then xb (kb key k) 54 else 0) (fun k => if k < i + 1 then xb (kb key k) 92 else 0) i (fun x => x = .bool true) _).symm ?_)
      rw [hp, hn, Int.toNat_natCast]
      exact ⟨decide_eq_true (by omega), decide_eq_true (by omega), by omega, by omega, by omega, by omega, by omega, put_step _ _ _ _ (h1 i hlt).symm, rfl, put_step _ _ _ _ (h1 i hlt).symm, rfl, plain_int _ _, plain_int _ _, sums_loop key s sh hk hs hsh h1 h2 d (i + 1) (by omega)⟩
    · refine Obl.goal (K := Goal P 0 7 fun x _ => x = .bool true) mix (fun _ h => h) (cast (sumsB key s sh _ _ (fun k => if k < i + 1 then xb (kb key k) 54 else 0) (fun k => if k < i + 1 then xb (kb key k) 92 else 0) i (fun x => x = .bool true) _).symm ?_)
      rw [hp, hn]
      exact ⟨decide_eq_true (by omega), decide_eq_false (by omega), by omega, by omega, by omega, by omega, put_step _ _ _ _ (h2 i (by omega)).symm, rfl, put_step _ _ _ _ (h2 i (by omega)).symm, rfl, plain_int _ _, plain_int _ _, sums_loop key s sh hk hs hsh h1 h2 d (i + 1) (by omega)⟩

theorem sums_goal (key s : List UInt8) (hk : key.length < 2 ^ 40 - 200) (hs : s.length < 2 ^ 40 - 400) : Goal P 0 7 (fun x _ => x = AV.bool true) (startM P 7 [.str key, .str s] GK) := by
  by_cases h : key.length > 64
  · have e1 : key1 key = sumB (sb key) := by unfold key1; rw [if_pos h]
    have := sums_loop key s (sumB (sb key)) hk hs (by rw [sumB_len]; decide) (fun k hk => by rw [kb_key key k (by rw [e1]; exact hk), e1]) (fun k hk => kb_zero key k (by rw [e1]; exact hk)) 64 0 (by omega)
    exact Obl.goal (K := Goal P 0 7 _) mix (fun _ h => h) (cast (sums1 key s (sb key) (fun x => x = .bool true) _).symm ⟨works4_ok, decide_eq_true (by omega), sum_sm key hk, tells_z64, rfl, tells_z64, rfl, plain_int _ (fun _ => 0), plain_int _ (fun _ => 0), this⟩)
  · have e1 : key1 key = key := by unfold key1; rw [if_neg h]
    have := sums_loop key s key hk hs (by omega) (fun k hk => by rw [kb_key key k (by rw [e1]; exact hk), e1]) (fun k hk => kb_zero key k (by rw [e1]; exact hk)) 64 0 (by omega)
    exact Obl.goal (K := Goal P 0 7 _) mix (fun _ h => h) (cast (sums0 key s (fun x => x = .bool true) _).symm ⟨works4_ok, decide_eq_false (by omega), tells_z64, rfl, tells_z64, rfl, plain_int _ (fun _ => 0), plain_int _ (fun _ => 0), this⟩)

theorem law0 (key s : List UInt8) (K : AM → Prop) : optK (startL P 7 [.str key, .str s] [] GK) (Obl P 7 (fun v _ => v = .bool true) 0 K []) = K (startM P 7 [.str key, .str s] GK) := by kernel_rfl

theorem walk (a0 a1 : ByteArray) (w : World) (_ : a0.size ≤ maxLen) (_ : a1.size ≤ maxLen) (hb : a0.data.toList.length + a1.data.toList.length ≤ 1048576) (hG : Globs GK w) : Calls P 7 #[.string a0, .string a1] w fun r w' => r = .returned (.bool true) ∧ Old w w' :=
  law_ok (K := Goal P 0 7 _) (cmds := []) mix (cast (law0 _ _ _).symm (sums_goal a0.data.toList a1.data.toList (by omega) (by omega))) (fun _ h => h) (vs := [.string a0, .string a1]) hG (fun _ hx => absurd hx List.not_mem_nil) ⟨_, _, rfl, str_rel _ _, _, _, rfl, str_rel _ _, rfl⟩

/-! ### The row's step -/
theorem reads (os : Os) {H : Type} (enc : TypeId × Value → H) : ∃ places, DataW.whole enc Tryd.prog ((World.doorLaid Tryd.prog 400 os).forCall (fun _ _ => 0) ⟨#[], #[.string .empty, .string .empty], []⟩).memory Tryd.f7.params.toList Rows.macSumsSpec.vars false #[.string .empty, .string .empty].toList 8 = some ([.lit (.string []), .lit (.string [])], [], places) :=
  ⟨[], by kernel_rfl⟩

set_option maxRecDepth 100000 in
theorem lifted (os : Os) (started : os.Started) (H : Type) (enc : TypeId × Value → H) (F : Stop.Interp) :
    ReturnsInHanded {} Tryd.checked os 7 .any ((Rows.OpenSpec.upto Rows.macSumsSpec).preRow enc Tryd.prog Tryd.f7 Rows.macSumsUptoRow.domain false Rows.macSumsUptoRow.laid) (((Rows.OpenSpec.upto Rows.macSumsSpec).at F).post enc Tryd.prog Tryd.f7 false true false false) := by
  obtain ⟨places, hx⟩ := reads os enc
  refine returnsInHanded_of_row (C := Tryd.checked) (s := Rows.OpenSpec.upto Rows.macSumsSpec) own started (by kernel_rfl) Tryd.func7
    (witness_row_atRef (enc := enc) (C := Tryd.checked) false (World.doorLaid Tryd.prog 400 os) #[.string .empty, .string .empty] rfl (by kernel_rfl) (by kernel_rfl) (by kernel_rfl)
      (OpenSpec.preRow_of_cond 8 hx (by kernel_rfl) (fun k hk => by cases hk; kernel_rfl) (by kernel_rfl) (door_met os _))) ?_
  intro W base args ds gs before hval0 hW _ hcond _ hL _ _
  have hval : ∀ (j : Nat) t v, Tryd.f7.params[j]? = some t → args[j]? = some v → Value.okWide Tryd.prog W .any base t v := hval0
  have hW' := hW
  have hbulk := of_decide_eq_true (hcond _ rfl)
  obtain ⟨p, q, hA0, hV, rfl, hfz, hnd⟩ := hW
  have hA : DataW.TrodAll enc Tryd.prog W 0 (fun _ => true) true Tryd.f7.params.toList args.toList ds p := hA0
  rw [Tryd.params7] at hA hval
  obtain ⟨v0, vs0, d0, ds0, p0, q0, hargs, rfl, rfl, h0, r0⟩ := trodAll_cons hA
  obtain ⟨v1, vs1, d1, ds1, p1, q1, rfl, rfl, rfl, h1, r1⟩ := trodAll_cons r0
  obtain ⟨rfl, rfl, rfl⟩ := trodAll_nil r1
  obtain rfl : args = #[v0, v1] := by cases args; simp_all
  obtain ⟨rfl, rfl⟩ := trodVars_none hV
  obtain ⟨a0, rfl, rfl, rfl, w0⟩ := open_string Tryd.underlying9 (hval 0 9 v0 rfl rfl) h0
  obtain ⟨a1, rfl, rfl, rfl, w1⟩ := open_string Tryd.underlying9 (hval 1 9 v1 rfl rfl) h1
  simp only [List.append_nil, Rows.uptoBulkAll, Rows.uptoBulk] at hbulk
  refine (walk a0 a1 W w0 w1 (by omega) (globK (globs hL))).mono fun e W' ⟨he, hg⟩ => ?_
  subst he
  exact ⟨_, rfl, Ev.post_law (by kernel_rfl) (by kernel_rfl) rfl Tryd.underlying4 rfl hW' rfl hg⟩

theorem over : Rows.macSumsUptoRow.holds Tryd.pinned (Rows.OpenSpec.upto Rows.macSumsSpec) :=
  OpenClaim.holds_of_cond 7 Tryd.f7 rfl rfl rfl rfl rfl rfl rfl ⟨rfl, rfl, rfl, rfl, rfl⟩ rfl rfl rfl rfl rfl (by kernel_rfl) Tryd.func7 (by kernel_rfl)
    (of_decide_eq_true (by kernel_rfl)) (by unfold Func.isWrapper; first | (rw [if_pos (by decide +kernel)]; kernel_rfl) | (rw [if_neg (by decide +kernel)]; exact ⟨rfl, rfl⟩))
    (fun os started H enc _ F => by rw [OpenClaim.pre_eq_preRow]; exact lifted os started H enc F)

/-- The statement's row. -/
theorem row : Rows.MacSumsUptoSaid :=
  over

set_option maxRecDepth 100000 in
/-- The statement, its row tied to the text of the program. -/
theorem proved : Rows.MacSumsUptoCardSaid :=
  Claim7.holds_tied_plain_at .later [] [.data] true (true, "00a480067bf7779466c225fce9181c66be2bbf036ea5eb1f3502e139b72e3739") false
    row (fun _ h => by cases h) (by kernel_rfl) (fun _ h => by cases h) macSumsUpto_row_tie rfl ⟨rfl, rfl⟩ (by kernel_rfl) rfl
    (fun f fn hf hfn => by
      obtain rfl : f = 7 := Option.some.inj ((show Tryd.prog.funcNamed "lodger/lodgerlaw04.MacSums" = some 7 by kernel_rfl).symm.trans hf) |>.symm
      obtain rfl : fn = Tryd.f7 := (Option.some.inj (Tryd.func7.symm.trans hfn)).symm
      exact ⟨by kernel_rfl, fun j t ht => by
        rw [Tryd.params7] at ht
        obtain rfl : t = 9 := by
          rcases j with _ | _ | j
          · simpa using ht.symm
          · simpa using ht.symm
          · simp at ht
        kernel_rfl⟩)
    (by kernel_rfl)
#print axioms proved
end Go.Proofs.YtledohmkjgmooaaDoor.macSums
