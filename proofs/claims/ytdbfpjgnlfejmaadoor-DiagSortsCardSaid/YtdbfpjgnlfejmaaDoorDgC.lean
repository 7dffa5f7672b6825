/- slices.SortFunc at a list of diagnostics, by the guide's contract. -/
import Derived.Test.YtdbfpjgnlfejmaaDoorDgB
import Derived.Test.YtdbfpjgnlfejmaaDoorLayS
set_option maxRecDepth 100000
set_option linter.unusedVariables false
namespace Go.Proofs.YtdbfpjgnlfejmaaDoor.dg
open Go Ev mq Go.Sort Go.Shelf

/-! ## Comparing -/

theorem ci_ok (a c : Int) : Goal P 0 42 (fun v _ => v = .int .i64 (ci a c)) (startM P 42 [.int .i64 a, .int .i64 c] .leaf) := by
  have h1 : ∀ x : Int, (x != x) = false := fun x => by simp
  unfold ci
  by_cases h : a < c
  · rw [if_pos h]
    exact Obl.goal (K := Goal P 0 42 _) mix (fun _ h => h) (cast (ciy (fun v => v = .int .i64 (-1)) _ _ _).symm ⟨h1 _, h1 _, decide_eq_true h, rfl⟩)
  · rw [if_neg h]
    by_cases k : a > c
    · rw [if_pos k]
      exact Obl.goal (K := Goal P 0 42 _) mix (fun _ h => h) (cast (ciny (fun v => v = .int .i64 1) _ _ _).symm ⟨h1 _, h1 _, decide_eq_false h, decide_eq_true k, rfl⟩)
    · rw [if_neg k]
      exact Obl.goal (K := Goal P 0 42 _) mix (fun _ h => h) (cast (cinn (fun v => v = .int .i64 0) _ _ _).symm ⟨h1 _, h1 _, decide_eq_false h, decide_eq_false k, rfl⟩)

theorem ne_true {a : Int} (h : a ≠ 0) : (a != 0) = true := by simp [h]
theorem ne_false {a : Int} (h : ¬ a ≠ 0) : (a != 0) = false := by simp at h; simp [h]

theorem cmp_ok (x y : Dg) : Goal P 0 37 (fun v _ => v = .int .i64 (cf x y)) (startM P 37 [.agg [.str x.1, .int .i64 x.2.1, .int .i64 x.2.2], .agg [.str y.1, .int .i64 y.2.1, .int .i64 y.2.2]] .leaf) := by
  unfold cf
  by_cases h1 : Lib.compareBytes x.1 y.1 ≠ 0
  · rw [if_pos h1]
    exact Obl.goal (K := Goal P 0 37 _) mix (fun _ h => h) (cast (cmy (fun v => v = .int .i64 (Lib.compareBytes x.1 y.1)) _ _ _ _ _ _ 0 0 _).symm ⟨ne_true h1, rfl⟩)
  · rw [if_neg h1]
    by_cases h2 : ci x.2.1 y.2.1 ≠ 0
    · rw [if_pos h2]
      exact Obl.goal (K := Goal P 0 37 _) mix (fun _ h => h) (cast (cmny (fun v => v = .int .i64 (ci x.2.1 y.2.1)) _ _ _ _ _ _ (ci x.2.1 y.2.1) 0 _).symm ⟨ne_false h1, ci_ok _ _, ne_true h2, rfl⟩)
    · rw [if_neg h2]
      by_cases h3 : ci x.2.2 y.2.2 ≠ 0
      · exact Obl.goal (K := Goal P 0 37 _) mix (fun _ h => h) (cast (cmnny (fun v => v = .int .i64 (ci x.2.2 y.2.2)) _ _ _ _ _ _ (ci x.2.1 y.2.1) (ci x.2.2 y.2.2) _).symm ⟨ne_false h1, ci_ok _ _, ne_false h2, ci_ok _ _, ne_true h3, rfl⟩)
      · have e : ci x.2.2 y.2.2 = 0 := Decidable.not_not.1 h3
        exact Obl.goal (K := Goal P 0 37 _) mix (fun _ h => h) (cast (cmnn (fun v => v = .int .i64 (ci x.2.2 y.2.2)) _ _ _ _ _ _ (ci x.2.1 y.2.1) (ci x.2.2 y.2.2) _).symm ⟨ne_false h1, ci_ok _ _, ne_false h2, ci_ok _ _, ne_false h3, by rw [e]⟩)

/-- A goal about a call that is handed no memory, as a call of the model's. -/
theorem goal_calls {f : FuncId} {args : List AV} {vs : List Value} {a : AFrame} {Q : AV → Prop} (ha : enterA P f args .normal = some a) (w : World) (hv : VRels (fun _ _ => none) args vs)
    (k : Goal P 0 f (fun v _ => Q v) ⟨a, [], ⟨.leaf, 0, .leaf⟩⟩) : Calls P f vs.toArray w fun r w' => ∃ v v' R, Q v ∧ VRel R v v' ∧ r = .returned v' ∧ Old w w' := by
  intro cs
  have hs : Sim P (Env.of w) cs ⟨a, [], ⟨.leaf, 0, .leaf⟩⟩ (Frame.enter P f vs.toArray .normal) cs w :=
    ⟨Base.of w, _, [], rfl, rfl, .start (fun g c h => by cases h), .start w, enter_rel ha hv (.inl rfl), rfl⟩
  obtain ⟨fr', w', B, R, v, v', h', s1, s2, s3, s4, s5, s6, s7, s8⟩ := k (Env.of w) cs _ _ _ (fun i r L e => by cases e) hs
  exact ⟨.returned v', w', fr', ⟨v, v', R, s8, s4, rfl, (s7.all s5 s6).old fun _ e => e⟩, s1, s3, s2⟩

/-- Worlds that have grown. -/
theorem grown_of {w w' : World} (h : Old w w') : ∃ q os', w' = grow (w.drewN q) os' := by
  refine ⟨w'.drawn - w.drawn, w'.heap.extract w.heap.size w'.heap.size, ?_⟩
  have hd : w.drawn + (w'.drawn - w.drawn) = w'.drawn := Nat.add_sub_cancel' h.drawn
  obtain ⟨heap', tape', drawn', os', output'⟩ := w'
  have e1 : os' = w.os := h.os
  have e2 : tape' = w.tape := h.tape
  have e3 : output' = w.output := h.output
  have hs : w.heap.size ≤ heap'.size := h.size
  have hb : ∀ k, k < w.heap.size → heap'[k]? = w.heap[k]? := h.other
  have eh : heap' = w.heap ++ heap'.extract w.heap.size heap'.size := by
    apply Array.ext_getElem?
    intro k
    by_cases hk : k < w.heap.size
    · rw [Array.getElem?_append_left hk]; exact hb k hk
    · rw [Array.getElem?_append_right (by omega), Array.getElem?_extract]
      by_cases hk2 : k < heap'.size
      · rw [if_pos (by omega)]; congr 1; omega
      · rw [if_neg (by omega), Array.getElem?_eq_none (by omega)]
  subst e1 e2 e3
  show _ = ({ w.drewN (drawn' - w.drawn) with heap := w.heap ++ heap'.extract w.heap.size heap'.size } : World)
  rw [← eh]
  show _ = ({ heap := heap', tape := w.tape, drawn := w.drawn + (drawn' - w.drawn), os := w.os, output := w.output } : World)
  rw [hd]

def enc (d : Dg) : List Value := [.string ⟨d.1.toArray⟩, .int .i64 d.2.1, .int .i64 d.2.2]

theorem enc_rel (R : Bij) (d : Dg) : VRels R (sc d) (enc d) := .cons rfl (.cons rfl (.cons rfl .nil))

theorem cmp_lays (blk off size : Nat) (w : World) : CmpLays P 37 #[] enc 3 cf blk off size w := by
  intro m os dk _ x y
  have ha : enterA P 37 [.agg [.str x.1, .int .i64 x.2.1, .int .i64 x.2.2], .agg [.str y.1, .int .i64 y.2.1, .int .i64 y.2.2]] .normal = some (startM P 37 [.agg [.str x.1, .int .i64 x.2.1, .int .i64 x.2.2], .agg [.str y.1, .int .i64 y.2.1, .int .i64 y.2.2]] .leaf).top := by kernel_rfl
  have h := goal_calls (vs := [.agg (enc x).toArray, .agg (enc y).toArray]) ha (sortWorldK enc 3 w blk off m dk os) (.cons ⟨enc x, rfl, enc_rel _ x⟩ (.cons ⟨enc y, rfl, enc_rel _ y⟩ .nil)) (cmp_ok x y)
  refine (show Calls P 37 (#[.agg (enc x).toArray, .agg (enc y).toArray] ++ #[]) _ _ from h).mono ?_
  rintro e w' ⟨v, v', R, rfl, rfl, rfl, hold⟩
  exact ⟨rfl, grown_of hold⟩

/-! ## A row that is laid anew -/

theorem rerow {B : Base} {R : Bij} {h : AHeap} {w W : World} (k : HRel P B R h w) (hB : B.n ≤ w.heap.size) {i r : Nat} {c c' : T AV} {n el lo hi nv fz : Nat} {sg : Bool} {ex : T Nat} {e : Nat} {L : Ev.Loc} {cs cs' : Array Value} {f0 f1 : Nat}
    (hL : R i r = some L) (ho : h.get i = some (.cells c n el lo hi nv fz sg ex)) (c1 : lo ≤ r) (c2 : r ≤ hi) (he : extOf ex n hi r = some e)
    (g1 : w.heap[L.block]? = some (.cells cs el (f0, f1))) (G1 : W.heap[L.block]? = some (.cells cs' el (f0, f1))) (hsz : cs'.size = cs.size)
    (hs : w.heap.size ≤ W.heap.size) (hoth : ∀ b, b < w.heap.size → b ≠ L.block → W.heap[b]? = w.heap[b]?)
    (hos : W.os = w.os) (ht : W.tape = w.tape) (hout : W.output = w.output) (hd : w.drawn ≤ W.drawn)
    (hc : ∀ j v, j < e → L.minus ≤ j → c'.get j = some v → ∃ x, cs'[j - L.minus]? = some x ∧ VRel R v x) :
    HRel P B R (h.put i (.cells c' e el r r nv fz sg ex)) W ∧ Keeps R w R W := by
  obtain ⟨L', hL', cs0, a0, b0, g1', g2, g3, g4, g5⟩ := k.ver hL ho c1 c2 he
  rw [hL] at hL'; cases hL'
  rw [g1] at g1'
  cases g1'
  have hob := k.obj' hL ho
  have hlt := heap_lt g1
  refine ⟨?_, ⟨hos, ht, hout, hs, R.le_refl, fun b hb hn => ⟨hoth b hb (fun e => hn i r L hL e.symm), hn⟩, hd⟩⟩
  refine k.touch i _ (k.live hL) R.le_refl (by rw [next_put]; exact Nat.le_refl _) ?_ (fun j => get_put h i j _) (fun _ _ _ => rfl) (fun j r' M hj e => hoth _ (k.place j r' M e).2 ?_) ?_ hs (fun r' M e => ⟨(k.place i r' M e).1, Nat.lt_of_lt_of_le (k.place i r' M e).2 hs, fun j r'' M' hj e' hb => hj (k.apart _ _ _ _ _ _ e' e hb (.inr (k.notRo ho rfl)))⟩) (k.same i) (glob_put _ _ _) (fun b hb => hoth b (Nat.lt_of_lt_of_le (Base.low_lt hb) hB) (fun e => (k.off hL (k.notRo ho rfl) hb) e)) (k.notRo ho rfl)
  · rw [next_put]
    rcases Nat.lt_or_ge i h.next with h1 | h1
    · exact h1
    · rw [k.fresh i h1] at hL; cases hL
  · exact fun hb => hj (k.apart _ _ _ _ _ _ e hL hb (.inr (k.notRo ho rfl)))
  · refine ⟨Nat.le_refl _, by have := hob.2.1; omega, hob.2.2.1, fun r' e' a1 a2 a3 => ?_, fun r' e' a1 a2 a3 => by
      obtain rfl : r' = r := by omega
      simp [extOf] at a3; omega⟩
    obtain rfl : r' = r := by omega
    simp [extOf] at a3; subst a3
    exact ⟨L, hL, cs', f0, f1, G1, by rw [hsz]; exact g2, by rw [hsz]; exact g3, ⟨g4.1, fun j a b => by rw [hsz]; exact g4.2 j a b⟩, fun j v a1 a2 a3 => hc j v a1 a2 a3⟩

/-! ## Sorting -/

theorem sizeOf35 (w : World) : (Go.sizeOf 35).run P w = .ok 3 w := Tryd.sizeOf35 w
theorem isAgg35 (w : World) : (isAgg 35).run P w = .ok true w := Tryd.isAgg35 w
theorem enters37 : ∀ args w, (callFunc 37 args).run P w = .ok (.enter 37 args) w := enters_of Tryd.func37 (by kernel_rfl) rfl

theorem arr_sl (a : Array Dg) : a.toList = sl (fun i => a[i]!) 0 a.size := by
  refine List.ext_getElem? fun i => ?_
  rcases Nat.lt_or_ge i a.size with h | h
  · rw [sl_get _ _ _ _ h, Nat.zero_add, Array.getElem?_toList, Array.getElem?_eq_getElem h, getElem!_pos a i h]
  · rw [List.getElem?_eq_none (by simpa using h), List.getElem?_eq_none (by rw [sl_len]; exact h)]

theorem enc_el (R : Bij) (f : Nat → Dg) (j : Nat) (d : Dg) (hd : f (j / 3) = d) : VRel R (el f j) (enc d)[j % 3]! := by
  subst hd
  have h := el_at f j
  have hr : j % 3 = 0 ∨ j % 3 = 1 ∨ j % 3 = 2 := by omega
  rcases hr with e | e | e <;> rw [e] at h ⊢ <;> rw [← Option.some.inj h] <;> rfl

theorem enc_un {R : Bij} {f : Nat → Dg} {j : Nat} {x : Value} (h : VRel R (el f j) x) : x = (enc (f (j / 3)))[j % 3]! := by
  have h2 := el_at f j
  have hr : j % 3 = 0 ∨ j % 3 = 1 ∨ j % 3 = 2 := by omega
  rcases hr with e | e | e <;> rw [e] at h2 ⊢ <;> rw [← Option.some.inj h2] at h <;> exact h

theorem el_congr {f g : Nat → Dg} {j : Nat} (h : f (j / 3) = g (j / 3)) : el f j = el g j := by
  unfold el
  rw [h]

theorem sort_ask (f : Nat → Dg) (n z : Nat) (h0 : 0 < n) (hz : n * 3 ≤ z) (hn : n < 1000000) (h : AHeap) (oid : Nat) (ho : h.get oid = some (.cells (.fn fun c => some (el f c)) z 35 0 0 1 0 false .leaf)) :
    ∃ f', Up (sl f' 0 n) ∧ (∀ x, x ∈ sl f' 0 n ↔ x ∈ sl f 0 n) ∧ AskOk P 36 [.slg oid 0 0 n 0, .fn (.func 37) [] []] h (.tup []) (h.put oid (.cells (.fn fun c => some (el f' c)) z 35 0 0 1 0 false .leaf)) := by
  generalize hdd : (sl f 0 n).toArray = d
  have hsz : d.size = n := by rw [← hdd]; simp [sl_len]
  have hget : ∀ i, i < n → d[i]! = f i := fun i hi => by
    rw [getElem!_pos d i (by omega)]
    have h1 := sl_get f n 0 i hi
    have h2 : d[i]? = some (f i) := by rw [← hdd]; simpa using h1
    rw [Array.getElem?_eq_getElem (by omega)] at h2
    exact Option.some.inj h2
  obtain ⟨hp, hs⟩ := pdq_sorts (ltOf cf) swo d 0 d.size (Lib.bitLen d.size) true true (Nat.zero_le _) (Nat.le_refl _) (Or.inl rfl)
  have hask := fun (B : Base) (R : Bij) (w : World) (blk cap : Nat) (hH : HoldsK enc 3 w blk 0 d) (hblk : blk < w.heap.size) =>
    AnyQ.slices_SortFunc_eq Tryd.sortL 3 isAgg35 sizeOf35 enc (fun _ => rfl) (fun x v hv => by simp [enc] at hv; rcases hv with rfl | rfl | rfl <;> rfl) cf swo 37 #[] blk 0 cap d w enters37 (cmp_lays blk 0 d.size w) hH hblk (by omega)
  generalize pdq (ltOf cf) d 0 d.size (Lib.bitLen d.size) true true = d' at hp hs hask
  have hsz' : d'.size = n := by rw [hp.1, hsz]
  have hsl : sl (fun i => if i < n then d'[i]! else f i) 0 n = d'.toList := by
    rw [arr_sl, hsz']
    exact sl_congr n 0 fun t _ ht => if_pos (by omega)
  refine ⟨fun i => if i < n then d'[i]! else f i, ?_, fun x => ?_, ?_⟩
  · rw [hsl]
    refine List.pairwise_iff_getElem.2 fun i j hi hj hij => ?_
    have hi' : i < d'.size := by simpa using hi
    have hj' : j < d'.size := by simpa using hj
    have := hs i j (Nat.zero_le _) hij (by omega)
    rw [getElem!_pos d' j hj', getElem!_pos d' i hi'] at this
    rw [Array.getElem_toList, Array.getElem_toList]
    exact (lt_not _ _).1 this
  · rw [hsl]
    have hperm := hp.2.2
    rw [show d'.extract 0 d.size = d' by rw [← hp.1]; exact Array.extract_size, Array.extract_size] at hperm
    rw [hperm.mem_iff, ← hdd]
  · obtain ⟨objs, next, glob⟩ := h
    intro B R w args' hh hB ha
    obtain ⟨v1, r1, rfl, h1, h2⟩ := ha
    obtain ⟨v2, r2, rfl, h2, h3⟩ := h2
    cases h3
    obtain ⟨L, a, hL, hm, hkap, rfl, haddr⟩ := h1
    obtain ⟨_, a1, b1, rfl, hf1, hc1⟩ := h2
    cases hf1
    cases hc1
    have hm0 : L.minus = 0 := by omega
    obtain rfl := haddr (by omega)
    rw [hm0]
    obtain ⟨L', hL', cs, f0, f1, g1, g2, g3, g4, g5⟩ := hh.ver hL ho (Nat.le_refl _) (Nat.le_refl _) (e := z) rfl
    rw [hL] at hL'
    cases hL'
    rw [hm0] at g2 g3 g4 g5
    have hlt := heap_lt g1
    have hfr : ∀ j : Nat, (decide (f0 ≤ j) && decide (j < f1)) = false := fun j => by
      cases hd : (decide (f0 ≤ j) && decide (j < f1)) with
      | false => rfl
      | true =>
        simp only [Bool.and_eq_true, decide_eq_true_eq] at hd
        rcases g4.2 j hd.1 hd.2 with h1 | h1
        · omega
        · exact absurd h1.1 (by simp)
    have hH : HoldsK enc 3 w L.block 0 d := by
      intro j hj
      rw [size_flatK, hsz] at hj
      obtain ⟨x, hx, hr⟩ := g5 j (el f j) (by omega) (Nat.zero_le _) rfl
      rw [Nat.sub_zero] at hx
      constructor
      · rw [get_flatK _ _ _ _ (by rw [hsz]; exact hj), hget _ (by omega)]
        simp only [World.cell?, g1, Nat.zero_add]
        show cs[j]? = _
        rw [hx, enc_un hr]
        rfl
      · simp only [World.frozen?, g1, Nat.zero_add]
        exact hfr j
    refine (show Calls P 36 #[.slice (some ⟨L.block, 0, none⟩) n (L.kap - 0), .func (.func 37) #[] #[]] w _ from hsz ▸ hask B R w L.block (L.kap - 0) hH hlt).mono ?_
    rintro e w' ⟨rfl, q, os, rfl⟩
    have hheap : (sortWorldK enc 3 w L.block 0 q d' os).heap = w.heap.modify L.block (onCells (putCells id 0 (flatK enc 3 d'))) ++ os := rfl
    have hrr := rerow (W := sortWorldK enc 3 w L.block 0 q d' os) (c' := .fn fun c => some (el (fun i => if i < n then d'[i]! else f i) c)) (cs' := putCells id 0 (flatK enc 3 d') cs) hh hB hL ho (Nat.le_refl _) (Nat.le_refl _) (e := z) rfl g1
      (by rw [hheap, Array.getElem?_append_left (by simpa using hlt), Array.getElem?_modify, if_pos rfl, g1]; rfl)
      (by simp [putCells]) (by rw [hheap]; simp) (fun b hb hne => by rw [hheap, Array.getElem?_append_left (by simpa using hb), Array.getElem?_modify, if_neg (fun e => hne e.symm)])
      rfl rfl rfl (Nat.le_add_right _ _) (fun j v hj _ hv => by
        rw [hm0, Nat.sub_zero]
        have hv : some (el (fun i => if i < n then d'[i]! else f i) j) = some v := hv
        cases hv
        obtain ⟨x, hx, hr⟩ := g5 j (el f j) hj (Nat.zero_le _) rfl
        rw [Nat.sub_zero] at hx
        have hput : (putCells id 0 (flatK enc 3 d') cs)[j]? = some (if 0 ≤ j ∧ j < 0 + (flatK enc 3 d').size then id (flatK enc 3 d')[j - 0]! else x) := by
          simp only [putCells, Array.getElem?_mapIdx, hx, Option.map_some]
        rw [hput, size_flatK, hsz', Nat.sub_zero]
        by_cases hj3 : j < n * 3
        · rw [if_pos ⟨Nat.zero_le _, by omega⟩]
          refine ⟨_, rfl, ?_⟩
          show VRel R _ (flatK enc 3 d')[j]!
          rw [get_flatK _ _ _ _ (by rw [hsz']; exact hj3)]
          exact enc_el R _ j _ (if_pos (by omega))
        · rw [if_neg (by omega)]
          refine ⟨_, rfl, ?_⟩
          have e : el (fun i => if i < n then d'[i]! else f i) j = el f j := el_congr (if_neg (show ¬ j / 3 < n by omega))
          rw [e]
          exact hr)
    exact ⟨R, .tuple #[], rfl, ⟨[], rfl, rfl⟩, hrr.1, hrr.2⟩
end Go.Proofs.YtdbfpjgnlfejmaaDoor.dg
