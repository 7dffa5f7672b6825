import Derived.Deep.Slices
import Derived.Deep.Strs
import Derived.OpenShut
import Derived.Test.YtdbfpjgnlfejmaaDoorC00
import Derived.Test.YtdbfpjgnlfejmaaDoorC01
import Derived.Test.YtdbfpjgnlfejmaaDoorC02
import Derived.Test.YtdbfpjgnlfejmaaDoorC03
import Derived.Test.YtdbfpjgnlfejmaaDoorC04
section
set_option maxRecDepth 100000
set_option linter.unusedVariables false
namespace Go.Proofs.YtdbfpjgnlfejmaaDoor.dg
open Go Ev mq Go.Sort Go.Shelf
theorem zhS (a c : Int) : Goal P 0 42 (fun v _ => v = .int .i64 (ci a c)) (zc P 42 [.int .i64 a, .int .i64 c] .leaf) := by
 have h1 : ∀ x : Int, (x != x) = false := fun x => by simp
 unfold ci
 by_cases h : a < c
 · rw [if_pos h]
   exact Obl.goal (K := Goal P 0 42 _) mix (fun _ h => h) (cast (ciy (fun v => v = .int .i64 (-1)) _ _ _).symm ⟨h1 _, h1 _, decide_eq_true h, rfl⟩)
 · rw [if_neg h]
   by_cases k : a > c
   · rw [if_pos k]
     exact Obl.goal (K := Goal P 0 42 _) mix (fun _ h => h) (cast (ciny (fun v => v = .int .i64 1) _ _ _).symm ⟨h1 _, h1 _, decide_eq_false h, decide_eq_true k, rfl⟩)
   · rw [if_neg k]
     exact Obl.goal (K := Goal P 0 42 _) mix (fun _ h => h) (cast (cinn (fun v => v = .int .i64 0) _ _ _).symm ⟨h1 _, h1 _, decide_eq_false h, decide_eq_false k, rfl⟩)
theorem zeY {a : Int} (h : a ≠ 0) : (a != 0) = true := by simp [h]
theorem wK {a : Int} (h : ¬ a ≠ 0) : (a != 0) = false := by simp at h; simp [h]
theorem zm4 (x y : Dg) : Goal P 0 37 (fun v _ => v = .int .i64 (cf x y)) (zc P 37 [.agg [.str x.1, .int .i64 x.2.1, .int .i64 x.2.2], .agg [.str y.1, .int .i64 y.2.1, .int .i64 y.2.2]] .leaf) := by
 unfold cf
 by_cases h1 : Lib.compareBytes x.1 y.1 ≠ 0
 · rw [if_pos h1]
   exact Obl.goal (K := Goal P 0 37 _) mix (fun _ h => h) (cast (cmy (fun v => v = .int .i64 (Lib.compareBytes x.1 y.1)) _ _ _ _ _ _ 0 0 _).symm ⟨zeY h1, rfl⟩)
 · rw [if_neg h1]
   by_cases h2 : ci x.2.1 y.2.1 ≠ 0
   · rw [if_pos h2]
     exact Obl.goal (K := Goal P 0 37 _) mix (fun _ h => h) (cast (cmny (fun v => v = .int .i64 (ci x.2.1 y.2.1)) _ _ _ _ _ _ (ci x.2.1 y.2.1) 0 _).symm ⟨wK h1, zhS _ _, zeY h2, rfl⟩)
   · rw [if_neg h2]
     by_cases h3 : ci x.2.2 y.2.2 ≠ 0
     · exact Obl.goal (K := Goal P 0 37 _) mix (fun _ h => h) (cast (cmnny (fun v => v = .int .i64 (ci x.2.2 y.2.2)) _ _ _ _ _ _ (ci x.2.1 y.2.1) (ci x.2.2 y.2.2) _).symm ⟨wK h1, zhS _ _, wK h2, zhS _ _, zeY h3, rfl⟩)
     · have e : ci x.2.2 y.2.2 = 0 := Decidable.not_not.1 h3
       exact Obl.goal (K := Goal P 0 37 _) mix (fun _ h => h) (cast (cmnn (fun v => v = .int .i64 (ci x.2.2 y.2.2)) _ _ _ _ _ _ (ci x.2.1 y.2.1) (ci x.2.2 y.2.2) _).symm ⟨wK h1, zhS _ _, wK h2, zhS _ _, wK h3, by rw [e]⟩)
theorem zgi {f : FuncId} {args : List AV} {vs : List Value} {a : AFrame} {Q : AV → Prop} (ha : qP P f args .normal = some a) (w : World) (hv : VRels (fun _ _ => none) args vs)
 (k : Goal P 0 f (fun v _ => Q v) ⟨a, [], ⟨.leaf, 0, .leaf⟩⟩) : Calls P f vs.toArray w fun r w' => ∃ v v' R, Q v ∧ VRel R v v' ∧ r = .returned v' ∧ Old w w' := by
 intro cs
 have hs : Sim P (Env.of w) cs ⟨a, [], ⟨.leaf, 0, .leaf⟩⟩ (Frame.enter P f vs.toArray .normal) cs w :=
  ⟨Base.of w, _, [], rfl, rfl, .start (fun g c h => by cases h), .start w, wb ha hv (.inl rfl), rfl⟩
 obtain ⟨fr', w', B, R, v, v', h', s1, s2, s3, s4, s5, s6, s7, s8⟩ := k (Env.of w) cs _ _ _ (fun i r L e => by cases e) hs
 exact ⟨.returned v', w', fr', ⟨v, v', R, s8, s4, rfl, (s7.all s5 s6).old fun _ e => e⟩, s1, s3, s2⟩
theorem zks {w w' : World} (h : Old w w') : ∃ q os', w' = grow (w.drewN q) os' := by
 refine ⟨w'.drawn - w.drawn, w'.heap.extract w.heap.size w'.heap.size, ?_⟩
 have hd : w.drawn + (w'.drawn - w.drawn) = w'.drawn := Nat.add_sub_cancel' h.drawn
 obtain ⟨heap', tape', drawn', os', output'⟩ := w'
 have e1 : os' = w.os := h.os
 have e2 : tape' = w.tape := h.tape
 have e3 : output' = w.output := h.output
 have hs : w.heap.size ≤ heap'.size := h.size
 have hb : ∀ k, k < w.heap.size → heap'[k]? = w.heap[k]? := h.other
 have eh : heap' = w.heap ++ heap'.extract w.heap.size heap'.size := by
  apply Array.ext_getElem?
  intro k
  by_cases hk : k < w.heap.size
  · rw [Array.getElem?_append_left hk]; exact hb k hk
  · rw [Array.getElem?_append_right (by omega), Array.getElem?_extract]
    by_cases hk2 : k < heap'.size
    · rw [if_pos (by omega)]; congr 1; omega
    · rw [if_neg (by omega), Array.getElem?_eq_none (by omega)]
 subst e1 e2 e3
 show _ = ({ w.drewN (drawn' - w.drawn) with heap := w.heap ++ heap'.extract w.heap.size heap'.size } : World)
 rw [← eh]
 show _ = ({ heap := heap', tape := w.tape, drawn := w.drawn + (drawn' - w.drawn), os := w.os, output := w.output } : World)
 rw [hd]
def enc (d : Dg) : List Value := [.string ⟨d.1.toArray⟩, .int .i64 d.2.1, .int .i64 d.2.2]
theorem zhU (R : Bij) (d : Dg) : VRels R (sc d) (enc d) := .cons rfl (.cons rfl (.cons rfl .nil))
theorem zj1 (blk off size : Nat) (w : World) : CmpLays P 37 #[] enc 3 cf blk off size w := by
 intro m os dk _ x y
 have ha : qP P 37 [.agg [.str x.1, .int .i64 x.2.1, .int .i64 x.2.2], .agg [.str y.1, .int .i64 y.2.1, .int .i64 y.2.2]] .normal = some (zc P 37 [.agg [.str x.1, .int .i64 x.2.1, .int .i64 x.2.2], .agg [.str y.1, .int .i64 y.2.1, .int .i64 y.2.2]] .leaf).top := by kernel_rfl
 have h := zgi (vs := [.agg (enc x).toArray, .agg (enc y).toArray]) ha (sortWorldK enc 3 w blk off m dk os) (.cons ⟨enc x, rfl, zhU _ x⟩ (.cons ⟨enc y, rfl, zhU _ y⟩ .nil)) (zm4 x y)
 refine (show Calls P 37 (#[.agg (enc x).toArray, .agg (enc y).toArray] ++ #[]) _ _ from h).mono ?_
 rintro e w' ⟨v, v', R, rfl, rfl, rfl, hold⟩
 exact ⟨rfl, zks hold⟩
theorem rerow {B : Base} {R : Bij} {h : AHeap} {w W : World} (k : HRel P B R h w) (hB : B.n ≤ w.heap.size) {i r : Nat} {c c' : T AV} {n el lo hi nv fz : Nat} {sg : Bool} {ex : T Nat} {e : Nat} {L : Ev.Loc} {cs cs' : Array Value} {f0 f1 : Nat}
 (hL : R i r = some L) (ho : h.get i = some (.cells c n el lo hi nv fz sg ex)) (c1 : lo ≤ r) (c2 : r ≤ hi) (he : zH ex n hi r = some e)
 (g1 : w.heap[L.block]? = some (.cells cs el (f0, f1))) (G1 : W.heap[L.block]? = some (.cells cs' el (f0, f1))) (hsz : cs'.size = cs.size)
 (hs : w.heap.size ≤ W.heap.size) (hoth : ∀ b, b < w.heap.size → b ≠ L.block → W.heap[b]? = w.heap[b]?)
 (hos : W.os = w.os) (ht : W.tape = w.tape) (hout : W.output = w.output) (hd : w.drawn ≤ W.drawn)
 (hc : ∀ j v, j < e → L.minus ≤ j → c'.get j = some v → ∃ x, cs'[j - L.minus]? = some x ∧ VRel R v x) :
 HRel P B R (h.put i (.cells c' e el r r nv fz sg ex)) W ∧ Keeps R w R W := by
 obtain ⟨L', hL', cs0, a0, b0, g1', g2, g3, g4, g5⟩ := k.ver hL ho c1 c2 he
 rw [hL] at hL'; cases hL'
 rw [g1] at g1'
 cases g1'
 have hob := k.obj' hL ho
 have hlt := xj g1
 refine ⟨?_, ⟨hos, ht, hout, hs, R.le_refl, fun b hb hn => ⟨hoth b hb (fun e => hn i r L hL e.symm), hn⟩, hd⟩⟩
 refine k.touch i _ (k.live hL) R.le_refl (by rw [x9]; exact Nat.le_refl _) ?_ (fun j => zaj h i j _) (fun _ _ _ => rfl) (fun j r' M hj e => hoth _ (k.place j r' M e).2 ?_) ?_ hs (fun r' M e => ⟨(k.place i r' M e).1, Nat.lt_of_lt_of_le (k.place i r' M e).2 hs, fun j r'' M' hj e' hb => hj (k.apart _ _ _ _ _ _ e' e hb (.inr (k.notRo ho rfl)))⟩) (k.same i) (kq _ _ _) (fun b hb => hoth b (Nat.lt_of_lt_of_le (Base.low_lt hb) hB) (fun e => (k.off hL (k.notRo ho rfl) hb) e)) (k.notRo ho rfl)
 · rw [x9]
   rcases Nat.lt_or_ge i h.next with h1 | h1
   · exact h1
   · rw [k.fresh i h1] at hL; cases hL
 · exact fun hb => hj (k.apart _ _ _ _ _ _ e hL hb (.inr (k.notRo ho rfl)))
 · refine ⟨Nat.le_refl _, by have := hob.2.1; omega, hob.2.2.1, fun r' e' a1 a2 a3 => ?_, fun r' e' a1 a2 a3 => by
    obtain rfl : r' = r := by omega
    simp [zH] at a3; omega⟩
   obtain rfl : r' = r := by omega
   simp [zH] at a3; subst a3
   exact ⟨L, hL, cs', f0, f1, G1, by rw [hsz]; exact g2, by rw [hsz]; exact g3, ⟨g4.1, fun j a b => by rw [hsz]; exact g4.2 j a b⟩, fun j v a1 a2 a3 => hc j v a1 a2 a3⟩
theorem sizeOf35 (w : World) : (Go.sizeOf 35).run P w = .ok 3 w := Tryd.sizeOf35 w
theorem isAgg35 (w : World) : (isAgg 35).run P w = .ok true w := Tryd.isAgg35 w
theorem zkk : ∀ args w, (callFunc 37 args).run P w = .ok (.enter 37 args) w := enters_of Tryd.func37 (by kernel_rfl) rfl
theorem zmT (a : Array Dg) : a.toList = sl (fun i => a[i]!) 0 a.size := by
 refine List.ext_getElem? fun i => ?_
 rcases Nat.lt_or_ge i a.size with h | h
 · rw [wp _ _ _ _ h, Nat.zero_add, Array.getElem?_toList, Array.getElem?_eq_getElem h, getElem!_pos a i h]
 · rw [List.getElem?_eq_none (by simpa using h), List.getElem?_eq_none (by rw [yj]; exact h)]
theorem zns (R : Bij) (f : Nat → Dg) (j : Nat) (d : Dg) (hd : f (j / 3) = d) : VRel R (el f j) (enc d)[j % 3]! := by
 subst hd
 have h := zeI f j
 have hr : j % 3 = 0 ∨ j % 3 = 1 ∨ j % 3 = 2 := by omega
 rcases hr with e | e | e <;> rw [e] at h ⊢ <;> rw [← Option.some.inj h] <;> rfl
theorem zne {R : Bij} {f : Nat → Dg} {j : Nat} {x : Value} (h : VRel R (el f j) x) : x = (enc (f (j / 3)))[j % 3]! := by
 have h2 := zeI f j
 have hr : j % 3 = 0 ∨ j % 3 = 1 ∨ j % 3 = 2 := by omega
 rcases hr with e | e | e <;> rw [e] at h2 ⊢ <;> rw [← Option.some.inj h2] at h <;> exact h
theorem zj4 {f g : Nat → Dg} {j : Nat} (h : f (j / 3) = g (j / 3)) : el f j = el g j := by
 unfold el
 rw [h]
theorem zj3 (f : Nat → Dg) (n z : Nat) (h0 : 0 < n) (hz : n * 3 ≤ z) (hn : n < 1000000) (h : AHeap) (oid : Nat) (ho : h.get oid = some (.cells (.fn fun c => some (el f c)) z 35 0 0 1 0 false .leaf)) :
 ∃ f', Up (sl f' 0 n) ∧ (∀ x, x ∈ sl f' 0 n ↔ x ∈ sl f 0 n) ∧ zjT P 36 [.slg oid 0 0 n 0, .fn (.func 37) [] []] h (.tup []) (h.put oid (.cells (.fn fun c => some (el f' c)) z 35 0 0 1 0 false .leaf)) := by
 generalize hdd : (sl f 0 n).toArray = d
 have hsz : d.size = n := by rw [← hdd]; simp [yj]
 have hget : ∀ i, i < n → d[i]! = f i := fun i hi => by
  rw [getElem!_pos d i (by omega)]
  have h1 := wp f n 0 i hi
  have h2 : d[i]? = some (f i) := by rw [← hdd]; simpa using h1
  rw [Array.getElem?_eq_getElem (by omega)] at h2
  exact Option.some.inj h2
 obtain ⟨hp, hs⟩ := pdq_sorts (ltOf cf) swo d 0 d.size (Lib.bitLen d.size) true true (Nat.zero_le _) (Nat.le_refl _) (Or.inl rfl)
 have hask := fun (B : Base) (R : Bij) (w : World) (blk cap : Nat) (hH : HoldsK enc 3 w blk 0 d) (hblk : blk < w.heap.size) =>
  AnyQ.slices_SortFunc_eq Tryd.sortL 3 isAgg35 sizeOf35 enc (fun _ => rfl) (fun x v hv => by simp [enc] at hv; rcases hv with rfl | rfl | rfl <;> rfl) cf swo 37 #[] blk 0 cap d w zkk (zj1 blk 0 d.size w) hH hblk (by omega)
 generalize pdq (ltOf cf) d 0 d.size (Lib.bitLen d.size) true true = d' at hp hs hask
 have hsz' : d'.size = n := by rw [hp.1, hsz]
 have hsl : sl (fun i => if i < n then d'[i]! else f i) 0 n = d'.toList := by
  rw [zmT, hsz']
  exact yP n 0 fun t _ ht => if_pos (by omega)
 refine ⟨fun i => if i < n then d'[i]! else f i, ?_, fun x => ?_, ?_⟩
 · rw [hsl]
   refine List.pairwise_iff_getElem.2 fun i j hi hj hij => ?_
   have hi' : i < d'.size := by simpa using hi
   have hj' : j < d'.size := by simpa using hj
   have := hs i j (Nat.zero_le _) hij (by omega)
   rw [getElem!_pos d' j hj', getElem!_pos d' i hi'] at this
   rw [Array.getElem_toList, Array.getElem_toList]
   exact (zdQ _ _).1 this
 · rw [hsl]
   have hperm := hp.2.2
   rw [show d'.extract 0 d.size = d' by rw [← hp.1]; exact Array.extract_size, Array.extract_size] at hperm
   rw [hperm.mem_iff, ← hdd]
 · obtain ⟨objs, next, glob⟩ := h
   intro B R w args' hh hB ha
   obtain ⟨v1, r1, rfl, h1, h2⟩ := ha
   obtain ⟨v2, r2, rfl, h2, h3⟩ := h2
   cases h3
   obtain ⟨L, a, hL, hm, hkap, rfl, haddr⟩ := h1
   obtain ⟨_, a1, b1, rfl, hf1, hc1⟩ := h2
   cases hf1
   cases hc1
   have hm0 : L.minus = 0 := by omega
   obtain rfl := haddr (by omega)
   rw [hm0]
   obtain ⟨L', hL', cs, f0, f1, g1, g2, g3, g4, g5⟩ := hh.ver hL ho (Nat.le_refl _) (Nat.le_refl _) (e := z) rfl
   rw [hL] at hL'
   cases hL'
   rw [hm0] at g2 g3 g4 g5
   have hlt := xj g1
   have hfr : ∀ j : Nat, (decide (f0 ≤ j) && decide (j < f1)) = false := fun j => by
    cases hd : (decide (f0 ≤ j) && decide (j < f1)) with
    | false => rfl
    | true =>
     simp only [Bool.and_eq_true, decide_eq_true_eq] at hd
     rcases g4.2 j hd.1 hd.2 with h1 | h1
     · omega
     · exact absurd h1.1 (by simp)
   have hH : HoldsK enc 3 w L.block 0 d := by
    intro j hj
    rw [size_flatK, hsz] at hj
    obtain ⟨x, hx, hr⟩ := g5 j (el f j) (by omega) (Nat.zero_le _) rfl
    rw [Nat.sub_zero] at hx
    constructor
    · rw [get_flatK _ _ _ _ (by rw [hsz]; exact hj), hget _ (by omega)]
      simp only [World.cell?, g1, Nat.zero_add]
      show cs[j]? = _
      rw [hx, zne hr]
      rfl
    · simp only [World.frozen?, g1, Nat.zero_add]
      exact hfr j
   refine (show Calls P 36 #[.slice (some ⟨L.block, 0, none⟩) n (L.kap - 0), .func (.func 37) #[] #[]] w _ from hsz ▸ hask B R w L.block (L.kap - 0) hH hlt).mono ?_
   rintro e w' ⟨rfl, q, os, rfl⟩
   have hheap : (sortWorldK enc 3 w L.block 0 q d' os).heap = w.heap.modify L.block (onCells (putCells id 0 (flatK enc 3 d'))) ++ os := rfl
   have hrr := rerow (W := sortWorldK enc 3 w L.block 0 q d' os) (c' := .fn fun c => some (el (fun i => if i < n then d'[i]! else f i) c)) (cs' := putCells id 0 (flatK enc 3 d') cs) hh hB hL ho (Nat.le_refl _) (Nat.le_refl _) (e := z) rfl g1
    (by rw [hheap, Array.getElem?_append_left (by simpa using hlt), Array.getElem?_modify, if_pos rfl, g1]; rfl)
    (by simp [putCells]) (by rw [hheap]; simp) (fun b hb hne => by rw [hheap, Array.getElem?_append_left (by simpa using hb), Array.getElem?_modify, if_neg (fun e => hne e.symm)])
    rfl rfl rfl (Nat.le_add_right _ _) (fun j v hj _ hv => by
     rw [hm0, Nat.sub_zero]
     have hv : some (el (fun i => if i < n then d'[i]! else f i) j) = some v := hv
     cases hv
     obtain ⟨x, hx, hr⟩ := g5 j (el f j) hj (Nat.zero_le _) rfl
     rw [Nat.sub_zero] at hx
     have hput : (putCells id 0 (flatK enc 3 d') cs)[j]? = some (if 0 ≤ j ∧ j < 0 + (flatK enc 3 d').size then id (flatK enc 3 d')[j - 0]! else x) := by
      simp only [putCells, Array.getElem?_mapIdx, hx, Option.map_some]
     rw [hput, size_flatK, hsz', Nat.sub_zero]
     by_cases hj3 : j < n * 3
     · rw [if_pos ⟨Nat.zero_le _, by omega⟩]
       refine ⟨_, rfl, ?_⟩
       show VRel R _ (flatK enc 3 d')[j]!
       rw [get_flatK _ _ _ _ (by rw [hsz']; exact hj3)]
       exact zns R _ j _ (if_pos (by omega))
     · rw [if_neg (by omega)]
       refine ⟨_, rfl, ?_⟩
       have e : el (fun i => if i < n then d'[i]! else f i) j = el f j := zj4 (if_neg (show ¬ j / 3 < n by omega))
       rw [e]
       exact hr)
   exact ⟨R, .tuple #[], rfl, ⟨[], rfl, rfl⟩, hrr.1, hrr.2⟩
end Go.Proofs.YtdbfpjgnlfejmaaDoor.dg
end
section
set_option maxRecDepth 100000
set_option linter.unusedVariables false
namespace Go.Proofs.YtdbfpjgnlfejmaaDoor.dg
open Go Ev mq
def wl : List (List UInt8) := [[], [115, 121, 110, 116, 97, 120], [99, 121, 99, 108, 101], [105, 109, 112, 111, 114, 116], [116, 119, 105, 99, 101], [116, 121, 112, 101], [110, 97, 109, 101], [102, 105, 101, 108, 100], [97, 114, 105, 116, 121], [99, 97, 108, 108], [119, 114, 111, 110, 103], [114, 111, 108, 108], [115, 105, 122, 101], [101, 113, 117, 97, 108]]
def wdv (c : Int) : List UInt8 := if 0 ≤ c ∧ c < 14 then wl.getD c.toNat [] else []
theorem zcw (c : Int) : Goal P 0 16 (fun x _ => x = .str (wdv c)) (zc P 16 [.int .i64 c] GW) := by
 by_cases h1 : c < 0
 · have e : wdv c = [] := if_neg (by omega)
   rw [e]
   exact Obl.goal (K := Goal P 0 16 _) mix (fun _ h => h) (cast (wdy (fun v => v = .str []) c _).symm ⟨decide_eq_true h1, rfl⟩)
 · by_cases h2 : c ≥ 14
   · have e : wdv c = [] := if_neg (by omega)
     rw [e]
     exact Obl.goal (K := Goal P 0 16 _) mix (fun _ h => h) (cast (wdny (fun v => v = .str []) c _).symm ⟨decide_eq_false h1, decide_eq_true h2, rfl⟩)
   · have hc : c = 0 ∨ c = 1 ∨ c = 2 ∨ c = 3 ∨ c = 4 ∨ c = 5 ∨ c = 6 ∨ c = 7 ∨ c = 8 ∨ c = 9 ∨ c = 10 ∨ c = 11 ∨ c = 12 ∨ c = 13 := by omega
     rcases hc with rfl | rfl | rfl | rfl | rfl | rfl | rfl | rfl | rfl | rfl | rfl | rfl | rfl | rfl <;> exact Goal.ofRun mix (n := 60) (by kernel_rfl) fun _ => rfl
theorem zfB (c : Int) : (!(wdv c == ([] : List UInt8))) = decide (1 ≤ c ∧ c ≤ 13) := by
 by_cases h1 : c < 0 ∨ c ≥ 14
 · have e : wdv c = [] := if_neg (by omega)
   rw [e, decide_eq_false (by omega)]
   rfl
 · have hc : c = 0 ∨ c = 1 ∨ c = 2 ∨ c = 3 ∨ c = 4 ∨ c = 5 ∨ c = 6 ∨ c = 7 ∨ c = 8 ∨ c = 9 ∨ c = 10 ∨ c = 11 ∨ c = 12 ∨ c = 13 := by omega
   rcases hc with rfl | rfl | rfl | rfl | rfl | rfl | rfl | rfl | rfl | rfl | rfl | rfl | rfl | rfl <;> rfl
theorem zk2 (d : Dg) : Goal P 0 35 (fun x _ => x = .bool (vA d)) (zc P 35 [.agg [.str d.1, .int .i64 d.2.1, .int .i64 d.2.2]] GW) := by
 unfold vA
 by_cases h1 : 1 ≤ d.2.2 ∧ d.2.2 ≤ 13
 · by_cases h2 : 0 ≤ d.2.1
   · by_cases h3 : d.2.1 ≤ 2147483647
     · exact Obl.goal (K := Goal P 0 35 _) mix (fun _ h => h) (cast (myyyy (fun v => v = .bool (decide (1 ≤ d.2.2 ∧ d.2.2 ≤ 13 ∧ 0 ≤ d.2.1 ∧ d.2.1 ≤ 2147483647 ∧ d.1.length ≤ 200))) _ (wdv d.2.2) _ _ _ _).symm ⟨zcw _, by rw [zfB]; exact decide_eq_true h1, decide_eq_true h2, decide_eq_true h3, by
        congr 1
        rw [decide_eq_decide]
        omega⟩)
     · rw [decide_eq_false (by omega)]
       exact Obl.goal (K := Goal P 0 35 _) mix (fun _ h => h) (cast (myyyn (fun v => v = .bool false) _ (wdv d.2.2) _ _ _ _).symm ⟨zcw _, by rw [zfB]; exact decide_eq_true h1, decide_eq_true h2, decide_eq_false h3, rfl⟩)
   · rw [decide_eq_false (by omega)]
     exact Obl.goal (K := Goal P 0 35 _) mix (fun _ h => h) (cast (myyn (fun v => v = .bool false) _ (wdv d.2.2) _ _ _ _).symm ⟨zcw _, by rw [zfB]; exact decide_eq_true h1, decide_eq_false h2, rfl⟩)
 · rw [decide_eq_false (by omega)]
   exact Obl.goal (K := Goal P 0 35 _) mix (fun _ h => h) (cast (myn (fun v => v = .bool false) _ (wdv d.2.2) _ _ _ _).symm ⟨zcw _, by rw [zfB]; exact decide_eq_false h1, rfl⟩)
noncomputable def HC (f : Nat → Dg) (y : Nat) (G : T (T AV)) : AHeap := ⟨(.node .leaf (some (.cells (.fn fun c => some (el f c)) y 35 0 0 1 0 false .leaf)) .leaf), 1, G⟩
theorem up1 (k : Nat) (h : k < 1000000) : IntKind.i64.wrap ((k : Int) + 1) = ((k + 1 : Nat) : Int) := by rw [IntWalk.i64_in _ (by omega)]; omega
theorem dn1 (k : Nat) (h : k < 1000000) (h0 : 0 < k) : IntKind.i64.wrap ((k : Int) - 1) = ((k - 1 : Nat) : Int) := by rw [IntWalk.i64_in _ (by omega)]; omega
theorem zmD {x p : Dg} {r : List Dg} (h : x = p) : dl p (x :: r) = dl x r := by
 show (if x = p then dl x r else x :: dl x r) = _
 rw [if_pos h]
theorem znB {x p : Dg} {r : List Dg} (h : ¬ x = p) : dl p (x :: r) = x :: dl x r := by
 show (if x = p then dl x r else x :: dl x r) = _
 rw [if_neg h]
theorem zeQ {y n k0 : Nat} {G : T (T AV)} {F : List Dg} (hy : n * 3 ≤ y) (hn : n < 1000000) :
 ∀ r w j k2 (g : Nat → Dg), j + r = n → j = k0 + k2 → 0 < k2 → 0 < w → w + 1 ≤ j → sl g 0 w ++ dl (g (j - 1)) (sl g j r) = F →
  ∃ f' m, 0 < m ∧ m ≤ n ∧ sl f' 0 m = F ∧ Goal P 1 44 (fun v h => v = .slg 0 0 0 m 0 ∧ h = HC f' y G) (CoB (el g) (w : Int) (k2 : Int) n y k0 G)
 | 0, w, j, k2, g, hj, hk, h2, h0, hw, hF => by
  obtain rfl : j = n := by omega
  refine ⟨clr g w j zd, w, h0, by omega, ?_, ?_⟩
  · rw [← hF]
    show _ = sl g 0 w ++ []
    rw [List.append_nil]
    exact yP w 0 fun t h1 h2 => by unfold clr; rw [if_neg (by omega)]
  · exact Obl.goal (K := Goal P 1 44 _) mix (fun _ h => h) (cast (cdn (fun v h => v = .slg 0 0 0 w 0 ∧ h = HC (clr g w j zd) y G) (el g) (el (clr g w j zd)) [] [] 0 0 0 0 _ _ _ _ _ false _ _).symm
     ⟨decide_eq_false (by omega), ⟨by omega, by omega⟩, ⟨by rw [Int.toNat_natCast]; omega, by rw [Int.toNat_natCast]; omega, by omega⟩, zna g w j y, rfl, ⟨by omega, by omega⟩, rfl, rfl⟩)
 | r + 1, w, j, k2, g, hj, hk, h2, h0, hw, hF => by
  have hF : sl g 0 w ++ dl (g (j - 1)) (g j :: sl g (j + 1) r) = F := hF
  have e2 := dn1 k2 (by omega) h2
  have a1 : AV.agg [el g (0 + k0 * 3 + ((k2 : Int)).toNat * 3), el g (0 + k0 * 3 + ((k2 : Int)).toNat * 3 + 1), el g (0 + k0 * 3 + ((k2 : Int)).toNat * 3 + 2)] = AV.agg [.str (g j).1, .int .i64 (g j).2.1, .int .i64 (g j).2.2] := by
   rw [← xG g j, Int.toNat_natCast, show 0 + k0 * 3 + k2 * 3 = 0 + j * 3 by omega]
  have a2 : AV.agg [el g (0 + k0 * 3 + (IntKind.i64.wrap ((k2 : Int) - 1)).toNat * 3), el g (0 + k0 * 3 + (IntKind.i64.wrap ((k2 : Int) - 1)).toNat * 3 + 1), el g (0 + k0 * 3 + (IntKind.i64.wrap ((k2 : Int) - 1)).toNat * 3 + 2)] = AV.agg [.str (g (j - 1)).1, .int .i64 (g (j - 1)).2.1, .int .i64 (g (j - 1)).2.2] := by
   rw [← xG g (j - 1), e2, Int.toNat_natCast, show 0 + k0 * 3 + (k2 - 1) * 3 = 0 + (j - 1) * 3 by omega]
  by_cases he : g j = g (j - 1)
  · obtain ⟨f', m, q0, q1, q2, q3⟩ := zeQ (k0 := k0) (G := G) (F := F) hy hn r w (j + 1) (k2 + 1) g (by omega) (by omega) (by omega) h0 (by omega) (by
     rw [← hF, zmD he, Nat.add_sub_cancel])
    refine ⟨f', m, q0, q1, q2, Obl.goal (K := Goal P 1 44 _) mix (fun _ h => h) (cast (ccyn (fun v h => v = .slg 0 0 0 m 0 ∧ h = HC f' y G) (el g) (el g) _ _ _ _ _ _ _ _ _ _ _ false _ _).symm
     ⟨decide_eq_true (by omega), ⟨by omega, by omega⟩, by rw [Int.toNat_natCast]; omega, a1, by rw [e2]; omega, by rw [e2, Int.toNat_natCast]; omega, a2, fun h => by rw [ne35, decide_eq_true he]; rfl, rfl, zi _, ?_⟩)⟩
    rw [up1 k2 (by omega)]
    exact q3
  · obtain ⟨f', m, q0, q1, q2, q3⟩ := zeQ (k0 := k0) (G := G) (F := F) hy hn r (w + 1) (j + 1) (k2 + 1) (upd g w (g j)) (by omega) (by omega) (by omega) (by omega) (by omega) (by
     rw [← hF, znB he, yY, Nat.zero_add, Nat.add_sub_cancel, List.append_assoc, List.singleton_append]
     have e1 : upd g w (g j) w = g j := by unfold upd; rw [if_pos rfl]
     have e3 : upd g w (g j) j = g j := by unfold upd; rw [if_neg (by omega)]
     rw [e1, e3, yP (s := upd g w (g j)) (s' := g) w 0 fun t h1 h2 => by unfold upd; rw [if_neg (by omega)],
      yP (s := upd g w (g j)) (s' := g) r (j + 1) fun t h1 h2 => by unfold upd; rw [if_neg (by omega)]])
    refine ⟨f', m, q0, q1, q2, Obl.goal (K := Goal P 1 44 _) mix (fun _ h => h) (cast (ccyy (fun v h => v = .slg 0 0 0 m 0 ∧ h = HC f' y G) (el g) (el (upd g w (g j))) _ _ _ _ _ _ _ _ _ _ _ true _ _).symm
     ⟨decide_eq_true (by omega), ⟨by omega, by omega⟩, by rw [Int.toNat_natCast]; omega, a1, by rw [e2]; omega, by rw [e2, Int.toNat_natCast]; omega, a2, fun h => by rw [ne35, decide_eq_false he]; rfl, rfl, ⟨by omega, by omega⟩, by rw [Int.toNat_natCast]; omega, a1, ⟨by omega, by omega⟩,
      ⟨trivial, by show 0 + ((w : Int)).toNat * 3 + 3 ≤ y; rw [Int.toNat_natCast]; omega, by omega⟩, zmK g w (g j) y, rfl, zi _, ?_⟩)⟩
    rw [up1 k2 (by omega), up1 w (by omega)]
    exact q3
theorem zhw {y n : Nat} {f : Nat → Dg} {G : T (T AV)} {F : List Dg} (hy : n * 3 ≤ y) (hn : n < 1000000) :
 ∀ r k, k + r = n → 0 < k → sl f 0 k ++ dl (f (k - 1)) (sl f k r) = F →
  ∃ f' m, 0 < m ∧ m ≤ n ∧ sl f' 0 m = F ∧ Goal P 1 44 (fun v h => v = .slg 0 0 0 m 0 ∧ h = HC f' y G) (CoA (el f) (k : Int) n y G)
 | 0, k, hk, h0, hF => by
  obtain rfl : k = n := by omega
  refine ⟨f, k, h0, Nat.le_refl _, by rw [← hF]; exact (List.append_nil _).symm, ?_⟩
  exact Obl.goal (K := Goal P 1 44 _) mix (fun _ h => h) (cast (cbn (fun v h => v = .slg 0 0 0 k 0 ∧ h = HC f y G) (el f) (el f) [] [] 0 0 0 0 _ 0 _ _ 0 false _ _).symm ⟨decide_eq_false (by omega), rfl, rfl⟩)
 | r + 1, k, hk, h0, hF => by
  have hF : sl f 0 k ++ dl (f (k - 1)) (f k :: sl f (k + 1) r) = F := hF
  have e2 := dn1 k (by omega) h0
  have a1 := xG f k
  have a2 : AV.agg [el f (0 + (IntKind.i64.wrap ((k : Int) - 1)).toNat * 3), el f (0 + (IntKind.i64.wrap ((k : Int) - 1)).toNat * 3 + 1), el f (0 + (IntKind.i64.wrap ((k : Int) - 1)).toNat * 3 + 2)] = AV.agg [.str (f (k - 1)).1, .int .i64 (f (k - 1)).2.1, .int .i64 (f (k - 1)).2.2] := by
   rw [← xG f (k - 1), e2, Int.toNat_natCast]
  by_cases he : f k = f (k - 1)
  · obtain ⟨f', m, q0, q1, q2, q3⟩ := zeQ (y := y) (n := n) (k0 := k) (G := G) (F := F) hy hn r k (k + 1) 1 f (by omega) (by omega) (by omega) h0 (by omega) (by
     rw [← hF, zmD he, Nat.add_sub_cancel])
    exact ⟨f', m, q0, q1, q2, Obl.goal (K := Goal P 1 44 _) mix (fun _ h => h) (cast (cbyy (fun v h => v = .slg 0 0 0 m 0 ∧ h = HC f' y G) (el f) (el f) _ _ _ _ _ _ _ 0 _ _ 0 true _ _).symm
     ⟨decide_eq_true (by omega), ⟨by omega, by omega⟩, by rw [Int.toNat_natCast]; omega, a1, by rw [e2]; omega, by rw [e2, Int.toNat_natCast]; omega, a2, fun h => by rw [znv, decide_eq_true he], rfl, ⟨by omega, by omega⟩, zi _, q3⟩)⟩
  · obtain ⟨f', m, q0, q1, q2, q3⟩ := zhw (f := f) (G := G) (F := F) hy hn r (k + 1) (by omega) (by omega) (by
     rw [← hF, znB he, yY, Nat.zero_add, Nat.add_sub_cancel, List.append_assoc, List.singleton_append])
    refine ⟨f', m, q0, q1, q2, Obl.goal (K := Goal P 1 44 _) mix (fun _ h => h) (cast (cbyn (fun v h => v = .slg 0 0 0 m 0 ∧ h = HC f' y G) (el f) (el f) _ _ _ _ _ _ _ 0 _ _ 0 false _ _).symm
     ⟨decide_eq_true (by omega), ⟨by omega, by omega⟩, by rw [Int.toNat_natCast]; omega, a1, by rw [e2]; omega, by rw [e2, Int.toNat_natCast]; omega, a2, fun h => by rw [znv, decide_eq_false he], rfl, zi _, ?_⟩)⟩
    rw [up1 k (by omega)]
    exact q3
theorem zgD {y n : Nat} {f : Nat → Dg} {G : T (T AV)} (h0 : 0 < n) (hy : n * 3 ≤ y) (hn : n < 1000000) :
 ∃ f' m, 0 < m ∧ m ≤ n ∧ sl f' 0 m = ded (sl f 0 n) ∧ Goal P 1 44 (fun v h => v = .slg 0 0 0 m 0 ∧ h = HC f' y G) (ze P 44 [.slg 0 0 0 n 0] (HC f y G)) := by
 obtain ⟨r, rfl⟩ : ∃ r, n = r + 1 := ⟨n - 1, by omega⟩
 by_cases h : r = 0
 · subst h
   exact ⟨f, 1, by omega, by omega, rfl, Obl.goal (K := Goal P 1 44 _) mix (fun _ h => h) (cast (cay (fun v h => v = .slg 0 0 0 1 0 ∧ h = HC f y G) (el f) (el f) [] [] 0 0 0 0 0 0 _ _ 0 false _ _).symm ⟨decide_eq_true (by omega), rfl, rfl⟩)⟩
 · obtain ⟨f', m, q0, q1, q2, q3⟩ := zhw (y := y) (n := r + 1) (f := f) (G := G) (F := ded (sl f 0 (r + 1))) hy hn r 1 (by omega) (by omega) rfl
   exact ⟨f', m, q0, q1, q2, Obl.goal (K := Goal P 1 44 _) mix (fun _ h => h) (cast (can (fun v h => v = .slg 0 0 0 m 0 ∧ h = HC f' y G) (el f) (el f) [] [] 0 0 0 0 0 0 _ _ 0 false _ _).symm ⟨decide_eq_false (by omega), zi _, q3⟩)⟩
noncomputable def HCo (f : Nat → Dg) (off z : Nat) : AHeap := ⟨(.node .leaf (some (.cells (.fn fun c => some (el f c)) z 35 0 0 1 0 false .leaf)) .leaf), 1, GW⟩
noncomputable def HCw (f f' : Nat → Dg) (off z y : Nat) : AHeap := ⟨(.node (.node .leaf (some (.cells (.fn fun c => some (el f' c)) y 35 0 0 1 0 false .leaf)) .leaf) (some (.cells (.fn fun c => some (el f c)) z 35 0 0 1 0 false .leaf)) .leaf), 2, GW⟩
def SoC (f : Nat → Dg) (n off z : Nat) (m : AM) : Prop :=
 (So (sl f 0 n) [] ∧ Goal P 1 12 (fun v h => v = .nils 0 0 ∧ h = HCo f off z) m) ∨
  ∃ f' k y, 0 < k ∧ k ≤ n ∧ k * 3 ≤ y ∧ So (sl f 0 n) (sl f' 0 k) ∧ Goal P 1 12 (fun v h => v = .slg 1 0 0 k 0 ∧ h = HCw f f' off z y) m
theorem ze1 {off z n cp : Nat} {f : Nat → Dg} (hz : n * 3 ≤ z) (hn : n < 100000) :
 ∀ r i m y (g : Nat → Dg), i + r = n → 0 < m → m ≤ i → y = m * 3 → sl g 0 m = (sl f 0 i).filter vA → SoC f n off z (SCb (el f) (el g) (i : Int) n m cp off off z y GW)
 | 0, i, m, y, g, hi, h0, hm, hy, hg => by
  obtain rfl : i = n := by omega
  subst hy
  obtain ⟨f2, u1, u2, u3⟩ := zj3 g m (m * 3) h0 (Nat.le_refl _) (by omega) (HCw f g off z (m * 3)) 1 (by kernel_rfl)
  obtain ⟨f3, k, k0, k1, k2, k3⟩ := zgD (y := m * 3) (n := m) (f := f2) (G := GW) h0 (Nat.le_refl _) (by omega)
  have hput : (HCw f g off z (m * 3)).put 1 (.cells (.fn fun c => some (el f2 c)) (m * 3) 35 0 0 1 0 false .leaf) = HCw f f2 off z (m * 3) := by kernel_rfl
  rw [hput] at u3
  refine .inr ⟨f3, k, m * 3, k0, by omega, by omega, ⟨by rw [k2]; exact zlw u1, fun x => by rw [k2, zlB, u2, hg, List.mem_filter]⟩, ?_⟩
  exact Obl.goal (K := Goal P 1 12 _) mix (fun _ h => h) (cast (Cbn (fun v h => v = .slg 1 0 0 k 0 ∧ h = HCw f f3 off z (m * 3)) (el f) (el g) (el f2) (el f3) [] 0 0 _ _ _ _ off off z _ k false _ _).symm
   ⟨decide_eq_false (by omega), u3, zi _, zi _, k3, rfl, rfl⟩)
 | r + 1, i, m, y, g, hi, h0, hm, hy, hg => by
  have hfl : (sl f 0 (i + 1)).filter vA = (sl f 0 i).filter vA ++ [f i].filter vA := by rw [yY, Nat.zero_add, List.filter_append]
  have hmay := zk2 (f i)
  by_cases hb : vA (f i) = true
  · have ih := ze1 (off := off) (cp := cp) (f := f) hz hn r (i + 1) (m + 1) (0 + m * 3 + 3) (upd g m (f i)) (by omega) (by omega) (by omega) (by omega) (by
     rw [hfl, List.filter_cons_of_pos hb, List.filter_nil, ← hg, yY, Nat.zero_add]
     have e1 : upd g m (f i) m = f i := by unfold upd; rw [if_pos rfl]
     rw [e1, yP (s := upd g m (f i)) (s' := g) m 0 fun t h1 h2 => by unfold upd; rw [if_neg (by omega)]])
    have goal : ∀ R : AV → AHeap → Prop, Goal P 1 12 R (SCb (el f) (el (upd g m (f i))) ((i + 1 : Nat) : Int) n (m + 1) cp off off z (0 + m * 3 + 3) GW) → Goal P 1 12 R (SCb (el f) (el g) (i : Int) n m cp off off z y GW) := fun R h =>
     Obl.goal (K := Goal P 1 12 R) mix (fun _ h => h) (cast (Cbyy R (el f) (el g) (el (upd g m (f i))) (el g) _ _ _ _ _ _ _ off off z _ 0 true _ _).symm
      ⟨decide_eq_true (by omega), ⟨by omega, by omega⟩, by rw [Int.toNat_natCast]; omega, xG f i, by rw [hb] at hmay; exact hmay, rfl,
       ⟨⟨by rw [yG]; omega, fun k hk => by
        rw [yG] at hk
        have hr : k = 0 ∨ k = 1 ∨ k = 2 := by omega
        rcases hr with h | h | h <;> subst h <;> exact ⟨_, rfl, rfl⟩⟩, by omega, by omega, by omega, by omega, by
         unfold xV
         rw [Bool.and_eq_true, Nat.ble_eq, Nat.blt_eq]
         constructor <;> omega, by omega⟩, zcP g m _ _ _ yG, rfl, zi _, zi _, by rw [up1 i (by omega)]; exact h⟩)
    rcases ih with ⟨h1, h2⟩ | ⟨f', k, y', h1, h2, h3, h4, h5⟩
    · exact .inl ⟨h1, goal _ h2⟩
    · exact .inr ⟨f', k, y', h1, h2, h3, h4, goal _ h5⟩
  · have ih := ze1 (off := off) (cp := cp) (f := f) hz hn r (i + 1) m y g (by omega) h0 (by omega) hy (by
     rw [hfl, List.filter_cons_of_neg hb, List.filter_nil, List.append_nil, ← hg])
    have goal : ∀ R : AV → AHeap → Prop, Goal P 1 12 R (SCb (el f) (el g) ((i + 1 : Nat) : Int) n m cp off off z y GW) → Goal P 1 12 R (SCb (el f) (el g) (i : Int) n m cp off off z y GW) := fun R h =>
     Obl.goal (K := Goal P 1 12 R) mix (fun _ h => h) (cast (Cbyn R (el f) (el g) (el g) (el g) _ _ _ _ _ _ _ off off z _ 0 false _ _).symm
      ⟨decide_eq_true (by omega), ⟨by omega, by omega⟩, by rw [Int.toNat_natCast]; omega, xG f i, by rw [Bool.not_eq_true] at hb; rw [hb] at hmay; exact hmay, rfl, zi _, zi _, by rw [up1 i (by omega)]; exact h⟩)
    rcases ih with ⟨h1, h2⟩ | ⟨f', k, y', h1, h2, h3, h4, h5⟩
    · exact .inl ⟨h1, goal _ h2⟩
    · exact .inr ⟨f', k, y', h1, h2, h3, h4, goal _ h5⟩
theorem zhC {off z n cp : Nat} {f : Nat → Dg} (hz : n * 3 ≤ z) (hn : n < 100000) :
 ∀ r i, i + r = n → (sl f 0 i).filter vA = [] → SoC f n off z (SCa (el f) (i : Int) n cp off off z GW)
 | 0, i, hi, hg => by
  obtain rfl : i = n := by omega
  refine .inl ⟨⟨.nil, fun x => by rw [← List.mem_filter, hg]⟩, ?_⟩
  exact Obl.goal (K := Goal P 1 12 _) mix (fun _ h => h) (cast (Can (fun v h => v = .nils 0 0 ∧ h = HCo f off z) (el f) (el f) (el f) (el f) [] 0 0 _ _ 0 cp off off z 0 0 false _ _).symm ⟨decide_eq_false (by omega), rfl, rfl⟩)
 | r + 1, i, hi, hg => by
  have hfl : (sl f 0 (i + 1)).filter vA = (sl f 0 i).filter vA ++ [f i].filter vA := by rw [yY, Nat.zero_add, List.filter_append]
  have hmay := zk2 (f i)
  by_cases hb : vA (f i) = true
  · have ih := ze1 (off := off) (cp := cp) (f := f) hz hn r (i + 1) 1 3 (fun _ => f i) (by omega) (by omega) (by omega) (by omega) (by
     rw [hfl, List.filter_cons_of_pos hb, List.filter_nil, hg]; rfl)
    have goal : ∀ R : AV → AHeap → Prop, Goal P 1 12 R (SCb (el f) (el fun _ => f i) ((i + 1 : Nat) : Int) n 1 cp off off z 3 GW) → Goal P 1 12 R (SCa (el f) (i : Int) n cp off off z GW) := fun R h =>
     Obl.goal (K := Goal P 1 12 R) mix (fun _ h => h) (cast (Cayy R (el f) (el fun _ => f i) (el f) (el f) _ _ _ _ _ 0 cp off off z 0 0 true _ _).symm
      ⟨decide_eq_true (by omega), ⟨by omega, by omega⟩, by rw [Int.toNat_natCast]; omega, xG f i, by rw [hb] at hmay; exact hmay, rfl, za3 _ _ _, rfl, zi _, zi _, by rw [up1 i (by omega)]; exact h⟩)
    rcases ih with ⟨h1, h2⟩ | ⟨f', k, y', h1, h2, h3, h4, h5⟩
    · exact .inl ⟨h1, goal _ h2⟩
    · exact .inr ⟨f', k, y', h1, h2, h3, h4, goal _ h5⟩
  · have ih := zhC (off := off) (cp := cp) (f := f) hz hn r (i + 1) (by omega) (by
     rw [hfl, List.filter_cons_of_neg hb, List.filter_nil, List.append_nil, hg])
    have goal : ∀ R : AV → AHeap → Prop, Goal P 1 12 R (SCa (el f) ((i + 1 : Nat) : Int) n cp off off z GW) → Goal P 1 12 R (SCa (el f) (i : Int) n cp off off z GW) := fun R h =>
     Obl.goal (K := Goal P 1 12 R) mix (fun _ h => h) (cast (Cayn R (el f) (el f) (el f) (el f) _ _ _ _ _ 0 cp off off z 0 0 false _ _).symm
      ⟨decide_eq_true (by omega), ⟨by omega, by omega⟩, by rw [Int.toNat_natCast]; omega, xG f i, by rw [Bool.not_eq_true] at hb; rw [hb] at hmay; exact hmay, rfl, zi _, by rw [up1 i (by omega)]; exact h⟩)
    rcases ih with ⟨h1, h2⟩ | ⟨f', k, y', h1, h2, h3, h4, h5⟩
    · exact .inl ⟨h1, goal _ h2⟩
    · exact .inr ⟨f', k, y', h1, h2, h3, h4, goal _ h5⟩
theorem zfG {off z n cp : Nat} {f : Nat → Dg} (hz : n * 3 ≤ z) (hn : n < 100000) : SoC f n off z (ze P 12 [.slg 0 0 0 n 0] (HCo f off z)) := by
 have goal : ∀ R : AV → AHeap → Prop, Goal P 1 12 R (SCa (el f) ((0 : Nat) : Int) n cp off off z GW) → Goal P 1 12 R (ze P 12 [.slg 0 0 0 n 0] (HCo f off z)) := fun R h =>
  Obl.goal (K := Goal P 1 12 R) mix (fun _ h => h) (cast (Cst R (el f) (el f) (el f) (el f) [] 0 0 0 n 0 cp off off z 0 0 false GW _).symm ⟨zi _, h⟩)
 rcases zhC (off := off) (cp := cp) (f := f) hz hn n 0 (by omega) rfl with ⟨h1, h2⟩ | ⟨f', k, y', h1, h2, h3, h4, h5⟩
 · exact .inl ⟨h1, goal _ h2⟩
 · exact .inr ⟨f', k, y', h1, h2, h3, h4, goal _ h5⟩
noncomputable def HS (f g : Nat → Dg) (z y : Nat) : AHeap := ⟨(.node (.node .leaf (some (.cells (.fn fun c => some (el g c)) y 35 0 0 1 0 false .leaf)) .leaf) (some (.cells (.fn fun c => some (el f c)) z 35 0 0 1 0 false .leaf)) .leaf), 2, GW⟩
end Go.Proofs.YtdbfpjgnlfejmaaDoor.dg
end
section
set_option maxRecDepth 100000
set_option linter.unusedVariables false
namespace Go.Proofs.YtdbfpjgnlfejmaaDoor.dg
open Go Ev mq
noncomputable def BS : Nat := P.types[5].size
theorem BS_eq : BS = 1 := by kernel_rfl
noncomputable def ECa (cell cell' : Nat → AV) (s : List UInt8) (L : Nat) (i : Int) (m lo z y N : Nat) (G : T (T AV)) : AM := ⟨⟨14, 34, (.node (.node (.node (.node (.node .leaf (some (.int .i64 (↑m : Int))) .leaf) none .leaf) none .leaf) none .leaf) none (.node (.node (.node (.node .leaf (some (.int .i64 i)) .leaf) none .leaf) (some (.ptr 1 0 0)) .leaf) none (.node .leaf none (.node .leaf (some (.slg 2 0 0 m 0)) .leaf)))),
 [.code (cd P (14 : Nat) [(1 : Nat), (1 : Nat), (1 : Nat), (1 : Nat), (0 : Nat), (1 : Nat), (0 : Nat), (0 : Nat)]), .inLoop (cd P (14 : Nat) [(1 : Nat), (1 : Nat), (1 : Nat), (1 : Nat), (0 : Nat), (1 : Nat), (0 : Nat), (0 : Nat)]), .inBlock 0, .code (cd P (14 : Nat) [(1 : Nat), (1 : Nat), (1 : Nat), (1 : Nat), (1 : Nat)])], [], .run, CallKind.normal, none⟩,
 [],
 ⟨(.node (.node (.node .leaf (some (.cells (.fn fun k => some (AV.int IntKind.u8 (↑(s.getD k (0 : UInt8)).toNat : Int))) N 5 0 0 1 0 false .leaf)) .leaf) (some (.cells (.node (.node .leaf (some (.slg 3 0 0 L 0)) .leaf) (some (.ptr 1 0 0)) .leaf) 2 69 0 0 1 0 false .leaf)) .leaf) (some (.cells (.fn fun c => some (cell c)) z 35 0 0 1 0 false .leaf)) (.node .leaf (some (.cells (.fn fun c => some (cell' c)) y 35 0 0 1 0 false .leaf)) .leaf)), 4, G⟩⟩
noncomputable def ECn (cell : Nat → AV) (s : List UInt8) (L lo z N : Nat) (G : T (T AV)) : AM := ⟨⟨14, 34, (.node (.node (.node (.node (.node .leaf (some (.int .i64 0)) .leaf) none .leaf) none .leaf) none .leaf) none (.node (.node (.node (.node .leaf (some (.int .i64 0)) .leaf) none .leaf) (some (.ptr 1 0 0)) .leaf) none (.node .leaf none (.node .leaf (some (.nils 0 0)) .leaf)))),
 [.code (cd P (14 : Nat) [(1 : Nat), (1 : Nat), (1 : Nat), (1 : Nat), (0 : Nat), (1 : Nat), (0 : Nat), (0 : Nat)]), .inLoop (cd P (14 : Nat) [(1 : Nat), (1 : Nat), (1 : Nat), (1 : Nat), (0 : Nat), (1 : Nat), (0 : Nat), (0 : Nat)]), .inBlock 0, .code (cd P (14 : Nat) [(1 : Nat), (1 : Nat), (1 : Nat), (1 : Nat), (1 : Nat)])], [], .run, CallKind.normal, none⟩,
 [],
 ⟨(.node (.node .leaf (some (.cells (.node (.node .leaf (some (.slg 2 0 0 L 0)) .leaf) (some (.ptr 1 0 0)) .leaf) 2 69 0 0 1 0 false .leaf)) .leaf) (some (.cells (.fn fun c => some (cell c)) z 35 0 0 1 0 false .leaf)) (.node .leaf (some (.cells (.fn fun k => some (AV.int IntKind.u8 (↑(s.getD k (0 : UInt8)).toNat : Int))) N 5 0 0 1 0 false .leaf)) .leaf)), 3, G⟩⟩
section
set_option linter.unusedSectionVars false
variable (R : AV → AHeap → Prop) (cell cell' : Nat → AV) (u u' : Nat → Int) (s p w t t2 : List UInt8) (a c i : Int) (n m cp z y lo off N L : Nat) (b : Bool) (G : T (T AV)) (K : AM → Prop)
include R cell cell' u u' s p w t t2 a c i n m cp z y lo off N L b G K
theorem esC : Obl P 14 (fun v h => R v h) 1 K [.run 8, (.callh [(0, 0, [])] [0] (.slg 1 0 0 m 0) ⟨(.node (.node .leaf (some (.cells (.fn fun c => some (cell' c)) y 35 0 0 1 0 false .leaf)) .leaf) (some (.cells (.fn fun c => some (cell c)) z 35 0 0 1 0 false .leaf)) .leaf), 2, G⟩), .run 12, (.callv [0, 1] (.str w)), .run 40, .opw false, .run 23, .can 1 [0, 2, 1, 3] [4, 14, 15, 16] []] ((ze P 14 [.slg 0 0 0 n 0] ⟨(.node .leaf (some (.cells (.fn fun c => some (cell c)) z 35 0 0 1 0 false .leaf)) .leaf), 1, G⟩)) = ((zb fun c => some (cell c)) ∧ (zb fun c => some (cell c)) ∧ (zb fun c => some (cell' c)) ∧ (Goal P (1) 12 (fun x k => x = AV.slg 1 0 0 m 0 ∧ k = { objs := (T.leaf.node (some (AObj.cells (T.fn fun c => some (cell' c)) y (35 : TypeId) 0 0 1 0 false T.leaf)) T.leaf).node (some (AObj.cells (T.fn fun c => some (cell c)) z (35 : TypeId) 0 0 1 0 false T.leaf)) T.leaf, next := 2, glob := G }) (ze P 12 [.slg 0 0 0 n 0] ⟨(.node .leaf (some (.cells (.fn fun c => some (cell c)) z 35 0 0 1 0 false .leaf)) .leaf), 1, G⟩)) ∧ (Goal P (0) 48 (fun x _ => x = AV.str w) (zc P 48 [.str [], .int .u64 (IntKind.u64.wrap (↑m : Int))] G)) ∧ (w.length ≤ w.length ∧ 0 < w.length ∧ xV w.length (1) = true) ∧ (zb fun c => some (cell c)) ∧ (zb fun c => some (cell' c)) ∧ (zb fun k => some (AV.int IntKind.u8 (↑(w.getD k (0 : UInt8)).toNat : Int))) ∧ K (ECa cell cell' w w.length (Int.ofNat (0)) m cp z y (w.length * 1) G)) := by kernel_rfl
theorem ezC : Obl P 14 (fun v h => R v h) 1 K [.run 8, (.callh [(0, 0, [])] [0] (.nils 0 0) ⟨(.node .leaf (some (.cells (.fn fun c => some (cell c)) z 35 0 0 1 0 false .leaf)) .leaf), 1, G⟩), .run 12, (.callv [0, 1] (.str w)), .run 40, .opw false, .run 23, .can 1 [0, 1, 2] [4, 14, 15, 16] []] ((ze P 14 [.slg 0 0 0 n 0] ⟨(.node .leaf (some (.cells (.fn fun c => some (cell c)) z 35 0 0 1 0 false .leaf)) .leaf), 1, G⟩)) = ((zb fun c => some (cell c)) ∧ (zb fun c => some (cell c)) ∧ (Goal P (1) 12 (fun x k => x = AV.nils 0 0 ∧ k = { objs := T.leaf.node (some (AObj.cells (T.fn fun c => some (cell c)) z (35 : TypeId) 0 0 1 0 false T.leaf)) T.leaf, next := 1, glob := G }) (ze P 12 [.slg 0 0 0 n 0] ⟨(.node .leaf (some (.cells (.fn fun c => some (cell c)) z 35 0 0 1 0 false .leaf)) .leaf), 1, G⟩)) ∧ (Goal P (0) 48 (fun x _ => x = AV.str w) (zc P 48 [.str [], .int .u64 0] G)) ∧ (w.length ≤ w.length ∧ 0 < w.length ∧ xV w.length (1) = true) ∧ (zb fun c => some (cell c)) ∧ (zb fun k => some (AV.int IntKind.u8 (↑(w.getD k (0 : UInt8)).toNat : Int))) ∧ K (ECn cell w w.length cp z (w.length * 1) G)) := by kernel_rfl
theorem eyCy : Obl P 14 (fun v h => R v h) 1 K [.run 5, .know 17 true, .run 6, .op, .op, .slot 19 (.agg [.str p, .int .i64 a, .int .i64 c]), .run 13, (.callv [0, 1] (.str w)), .run 1, (.callv [0, 1] (.str t)), .run 1, (.callv [0, 1] (.str t2)), .run 41, .opw false, .run 20, .told 3 (.fn fun k => some (AV.int IntKind.u8 (↑((s ++ t2).getD k (0 : UInt8)).toNat : Int))) (s ++ t2).length, .can 1 [0, 1, 2, 3] [4, 14, 15, 16] []] ((ECa cell cell' s L i m lo z y N G)) = ((decide (i < (↑m : Int)) = true) ∧ ((0 : Int) ≤ i ∧ i < (↑m : Int)) ∧ (0 + i.toNat * 3 + 3 ≤ y) ∧ (AV.agg [cell' (0 + i.toNat * 3), cell' (0 + i.toNat * 3 + 1), cell' (0 + i.toNat * 3 + 2)] = AV.agg [AV.str p, AV.int IntKind.i64 a, AV.int IntKind.i64 c]) ∧ (Goal P (0) 49 (fun x _ => x = AV.str w) (zc P 49 [.str [], .str p] G)) ∧ (some (AV.int IntKind.u64 (IntKind.u64.wrap c)) = some (AV.int IntKind.u64 (IntKind.u64.wrap c))) ∧ (some (AV.int IntKind.i64 c) = some (AV.int IntKind.i64 c)) ∧ (some (AV.int IntKind.u64 (IntKind.u64.wrap a)) = some (AV.int IntKind.u64 (IntKind.u64.wrap a))) ∧ (some (AV.int IntKind.i64 a) = some (AV.int IntKind.i64 a)) ∧ (Goal P (0) 48 (fun x _ => x = AV.str t) (zc P 48 [.str w, .int .u64 (IntKind.u64.wrap a)] G)) ∧ (some (AV.int IntKind.u64 (IntKind.u64.wrap c)) = some (AV.int IntKind.u64 (IntKind.u64.wrap c))) ∧ (some (AV.int IntKind.i64 c) = some (AV.int IntKind.i64 c)) ∧ (Goal P (0) 48 (fun x _ => x = AV.str t2) (zc P 48 [.str t, .int .u64 (IntKind.u64.wrap c)] G)) ∧ (t2.length ≤ t2.length ∧ 0 < t2.length ∧ 0 + L * 1 ≤ N ∧ 0 ≤ 0 + L * 1 ∧ 0 = 0 * BS ∧ xV (L + t2.length) (1) = true ∧ N < 0 + (L + t2.length) * 1) ∧ (yJ ((s ++ t2).length) ((.fn fun k => some (AV.int IntKind.u8 (↑((s ++ t2).getD k (0 : UInt8)).toNat : Int)))) ((.fn fun k => bif (0 + L * BS).ble k && k.blt (0 + L * BS + t2.length * BS) then (fun k => some (AV.int IntKind.u8 (↑(t2.getD k (0 : UInt8)).toNat : Int))) (k - (0 + L * BS)) else (T.fn fun k => some (AV.int IntKind.u8 (↑(s.getD k (0 : UInt8)).toNat : Int))).get k))) ∧ ((s ++ t2).length = 0 + L * 1 + t2.length * 1) ∧ (zb fun c => some (cell c)) ∧ (zb fun c => some (cell' c)) ∧ (zb fun k => some (AV.int IntKind.u8 (↑((s ++ t2).getD k (0 : UInt8)).toNat : Int))) ∧ K (ECa cell cell' (s ++ t2) (L + t2.length) (IntKind.i64.wrap (i + (1 : Int))) m cp z y (s ++ t2).length G)) := by kernel_rfl
end
section
set_option linter.unusedSectionVars false
variable (R : AV → AHeap → Prop) (cell cell' : Nat → AV) (u u' : Nat → Int) (s p w t t2 : List UInt8) (a c i : Int) (n m cp z y lo off N L : Nat) (b : Bool) (G : T (T AV)) (_K : AM → Prop)
include R cell cell' u u' s p w t t2 a c i n m cp z y lo off N L b G _K
theorem exCn : Obl P 14 (fun v h => R v h) 1 _K [.run 5, .know 17 false, .run 15, .slot 6 (.slg 3 0 0 (n + 1) 0), .run 6, .ext s, .run 7, .can 1 [0] [2] [], .done] ((ECa cell cell' s L i m lo z y N G)) = ((decide (i < (↑m : Int)) = false) ∧ (AV.slg (3) (0) (0) L (0) = AV.slg (3) (0) (0) (n + 1) (0)) ∧ ((0 : Int) < (↑L : Int) ∧ (↑L : Int) < (2 : Int) ^ 40 ∧ (↑L : Int).toNat ≤ N ∧ P.cellsOf (5) = 1 ∧ zS (zG (T.fn fun k => some (AV.int IntKind.u8 (↑(s.getD k (0 : UInt8)).toNat : Int))) 0 (↑L : Int).toNat) = some (AV.str s)) ∧ (zb fun c => some (cell c)) ∧ (R (.str s) (⟨(.node .leaf (some (.cells (.fn fun c => some (cell c)) z 35 0 0 1 0 false .leaf)) .leaf), 1, G⟩))) := by kernel_rfl
theorem enC : Obl P 14 (fun v h => R v h) 1 _K [.run 20, .slot 6 (.slg 2 0 0 (n + 1) 0), .run 6, .ext s, .run 7, .can 1 [0] [2] [], .done] ((ECn cell s L lo z N G)) = ((AV.slg (2) (0) (0) L (0) = AV.slg (2) (0) (0) (n + 1) (0)) ∧ ((0 : Int) < (↑L : Int) ∧ (↑L : Int) < (2 : Int) ^ 40 ∧ (↑L : Int).toNat ≤ N ∧ P.cellsOf (5) = 1 ∧ zS (zG (T.fn fun k => some (AV.int IntKind.u8 (↑(s.getD k (0 : UInt8)).toNat : Int))) 0 (↑L : Int).toNat) = some (AV.str s)) ∧ (zb fun c => some (cell c)) ∧ (R (.str s) (⟨(.node .leaf (some (.cells (.fn fun c => some (cell c)) z 35 0 0 1 0 false .leaf)) .leaf), 1, G⟩))) := by kernel_rfl
theorem ee : Obl P 14 (fun v h => R v h) 0 _K [.run 8, (.callh [] [0] (.nils 0 0) ⟨.leaf, 0, G⟩), .run 12, (.callv [0, 1] (.str w)), .run 40, .opw false, .run 43, .slot 6 (.slg 1 0 0 (n + 1) 0), .run 6, .ext w, .run 7, .can 0 [] [2] [], .done] ((ze P 14 [.nils 0 0] ⟨.leaf, 0, G⟩)) = ((Goal P (0) 12 (fun x k => x = AV.nils 0 0 ∧ k = { objs := T.leaf, next := 0, glob := G }) (zc P 12 [.nils 0 0] G)) ∧ (Goal P (0) 48 (fun x _ => x = AV.str w) (zc P 48 [.str [], .int .u64 0] G)) ∧ (w.length ≤ w.length ∧ 0 < w.length ∧ xV w.length (1) = true) ∧ (AV.slg (1) (0) (0) w.length (0) = AV.slg (1) (0) (0) (n + 1) (0)) ∧ ((0 : Int) < (↑w.length : Int) ∧ (↑w.length : Int) < (2 : Int) ^ 40 ∧ (↑w.length : Int).toNat ≤ w.length * 1 ∧ P.cellsOf (5) = 1 ∧ zS (zG (T.fn fun k => some (AV.int IntKind.u8 (↑(w.getD k (0 : UInt8)).toNat : Int))) 0 (↑w.length : Int).toNat) = some (AV.str w)) ∧ (R (.str w) (⟨.leaf, 0, G⟩))) := by kernel_rfl
end
theorem sortN (R : AV → AHeap → Prop) (G : T (T AV)) (_K : AM → Prop) : Obl P 12 (fun v h => R v h) 0 _K [.run 181, .done] ((ze P 12 [.nils 0 0] ⟨.leaf, 0, G⟩)) = ((R (.nils 0 0) (⟨.leaf, 0, G⟩))) := by kernel_rfl
theorem zbK (s : List UInt8) : zb fun k => some (AV.int IntKind.u8 ((s.getD k (0 : UInt8)).toNat : Int)) := by
 intro k v h
 cases h
 rfl
theorem zaN : ∀ u : List UInt8, yi (zr u) = some u
 | [] => rfl
 | b :: r => by
  have ih := zaN r
  unfold yi at ih ⊢
  rw [show zr (b :: r) = .int .u8 b.toNat :: zr r from rfl, qh, ih, show zbJ (.int .u8 b.toNat) = some b from by show some (UInt8.ofNat (b.toNat : Int).toNat) = _; rw [Int.toNat_natCast, UInt8.ofNat_toNat]]
theorem zd0 (u : List UInt8) (n : Nat) (hn : n = u.length) : zS (zG (T.fn fun k => some (AV.int IntKind.u8 ((u.getD k (0 : UInt8)).toNat : Int))) 0 n) = some (.str u) := by
 subst hn
 obtain ⟨l, h1, h2, h3, h4⟩ := qH (c := T.fn fun k => some (AV.int IntKind.u8 ((u.getD k (0 : UInt8)).toNat : Int))) (off := 0) (n := u.length) (fun k _ => ⟨_, rfl, rfl⟩)
 have hl : l = zr u := by
  refine List.ext_getElem? fun i => ?_
  rcases Nat.lt_or_ge i u.length with hi | hi
  · rw [h4 i (AV.int IntKind.u8 ((u.getD i (0 : UInt8)).toNat : Int)) hi (by rw [Nat.zero_add]; rfl)]
    unfold zr
    rw [List.getElem?_map, List.getElem?_eq_getElem hi, List.getD_eq_getElem?_getD, List.getElem?_eq_getElem hi]
    rfl
  · rw [List.getElem?_eq_none (by omega), List.getElem?_eq_none (by unfold zr; simpa using hi)]
 unfold zS
 rw [h1, hl]
 show zij (yi (zr u)) = _
 rw [zaN]
 rfl
theorem zm8 (s t : List UInt8) (L : Nat) (hL : L = s.length) {b : Nat} (hb : b = 1) :
 yJ ((s ++ t).length) (.fn fun k => some (AV.int IntKind.u8 (((s ++ t).getD k (0 : UInt8)).toNat : Int))) (.fn fun k => bif (0 + L * b).ble k && k.blt (0 + L * b + t.length * b) then (fun k => some (AV.int IntKind.u8 ((t.getD k (0 : UInt8)).toNat : Int))) (k - (0 + L * b)) else (T.fn fun k => some (AV.int IntKind.u8 ((s.getD k (0 : UInt8)).toNat : Int))).get k) := by
 subst hL hb
 intro k v hk h
 have h : some (AV.int IntKind.u8 (((s ++ t).getD k (0 : UInt8)).toNat : Int)) = some v := h
 rw [← h]
 show (bif (0 + s.length * 1).ble k && k.blt (0 + s.length * 1 + t.length * 1) then some (AV.int IntKind.u8 ((t.getD (k - (0 + s.length * 1)) (0 : UInt8)).toNat : Int)) else some (AV.int IntKind.u8 ((s.getD k (0 : UInt8)).toNat : Int))) = _
 rw [List.length_append] at hk
 by_cases hin : s.length ≤ k
 · have e : ((0 + s.length * 1).ble k && k.blt (0 + s.length * 1 + t.length * 1)) = true := by
    rw [Bool.and_eq_true, Nat.ble_eq, Nat.blt_eq]; omega
   rw [e, cond_true, List.getD_eq_getElem?_getD, List.getD_eq_getElem?_getD, List.getElem?_append_right hin, show k - (0 + s.length * 1) = k - s.length by omega]
 · have e : ((0 + s.length * 1).ble k && k.blt (0 + s.length * 1 + t.length * 1)) = false := by
    rw [← Bool.not_eq_true, Bool.and_eq_true, Nat.ble_eq, Nat.blt_eq]; omega
   rw [e, cond_false, List.getD_eq_getElem?_getD, List.getD_eq_getElem?_getD, List.getElem?_append_left (by omega)]
noncomputable def zdc (d : Dg) : List UInt8 := [] ++ row (IntKind.u64.wrap d.1.length) ++ d.1
noncomputable def zjw (d : Dg) : List UInt8 := zdc d ++ row (IntKind.u64.wrap d.2.1)
noncomputable def one (d : Dg) : List UInt8 := zjw d ++ row (IntKind.u64.wrap d.2.2)
noncomputable def y9 (l : List Dg) : List UInt8 := [] ++ row (l.length : Nat) ++ l.flatMap one
theorem xH (n : Int) : 0 < (row n).length := by
 unfold row
 repeat' split
 all_goals simp
theorem zim {d : Dg} (h : vA d = true) : (one d).length ≤ 227 := by
 have h := of_decide_eq_true h
 have h1 := zN (IntKind.u64.wrap d.1.length)
 have h2 := zN (IntKind.u64.wrap d.2.1)
 have h3 := zN (IntKind.u64.wrap d.2.2)
 unfold one zjw zdc
 simp only [List.length_append, List.length_nil]
 omega
theorem zmi (d : Dg) : 0 < (one d).length := by
 have h1 := xH (IntKind.u64.wrap d.2.2)
 unfold one
 rw [List.length_append]
 omega
theorem ye (n : Int) : 0 ≤ IntKind.u64.wrap n ∧ IntKind.u64.wrap n ≤ 18446744073709551615 := by
 have : IntKind.u64.wrap n = n % 18446744073709551616 := by simp [IntKind.wrap, IntKind.bits, IntKind.signed]
 omega
theorem put0 (n : Int) : Goal P 0 48 (fun x _ => x = .str ([] ++ row (IntKind.u64.wrap n))) (zc P 48 [.str [], .int .u64 (IntKind.u64.wrap n)] GW) :=
 zng [] _ (ye n).1 (ye n).2 (by show 0 + 9 < _; omega)
theorem room (a : Nat) (h : a < 1000000000) : xV a 1 = true := by
 unfold xV
 rw [Bool.and_eq_true, Nat.ble_eq, Nat.blt_eq]
 constructor <;> omega
theorem natw (n : Nat) (h : n < 1000000) : IntKind.u64.wrap (n : Int) = n := IntWalk.u64_in _ (by omega)
theorem zhA {m lo z y off : Nat} {f f' : Nat → Dg} (hy : m * 3 ≤ y) (hm : m < 100000) (hmay : ∀ i, i < m → vA (f' i) = true) {S : List UInt8} :
 ∀ r i (s : List UInt8) L N, i + r = m → L = s.length → N = s.length → 0 < s.length → s.length ≤ 9 + i * 227 → s ++ (sl f' i r).flatMap one = S →
  Goal P 1 14 (fun v h => v = .str S ∧ h = HCo f off z) (ECa (el f) (el f') s L (i : Int) m off z y N GW)
 | 0, i, s, L, N, hi, hL, hN, h0, hs, hS => by
  obtain rfl : i = m := by omega
  obtain rfl : s = S := by rw [← hS]; exact (List.append_nil s).symm
  subst hL hN
  obtain ⟨n, hn⟩ : ∃ n, s.length = n + 1 := ⟨s.length - 1, by omega⟩
  exact Obl.goal (K := Goal P 1 14 _) mix (fun _ h => h) (cast (exCn (fun v h => v = .str s ∧ h = HCo f off z) (el f) (el f') (fun _ => 0) (fun _ => 0) s [] [] [] [] 0 0 i n i 0 z y off 0 s.length s.length false GW _).symm
   ⟨decide_eq_false (by omega), by rw [hn], ⟨by omega, by omega, by rw [Int.toNat_natCast]; exact Nat.le_refl _, by kernel_rfl, zd0 _ _ (Int.toNat_natCast _)⟩, zi _,  rfl, rfl⟩)
 | r + 1, i, s, L, N, hi, hL, hN, h0, hs, hS => by
  subst hL hN
  have hd := hmay i (by omega)
  have hlen := zim hd
  have hpos := zmi (f' i)
  have ih := zhA (lo := lo) (z := z) (off := off) (f := f) hy hm hmay (S := S) r (i + 1) (s ++ one (f' i)) (s.length + (one (f' i)).length) (s ++ one (f' i)).length (by omega) (by rw [List.length_append]) rfl (by rw [List.length_append]; omega) (by rw [List.length_append]; omega) (by
   rw [← hS, List.append_assoc]
   congr 1)
  have hb := of_decide_eq_true hd
  have l1 : (zdc (f' i)).length ≤ 209 := by
   have := zN (IntKind.u64.wrap (f' i).1.length)
   unfold zdc
   simp only [List.length_append, List.length_nil]
   omega
  have l2 : (zjw (f' i)).length ≤ 218 := by
   have := zN (IntKind.u64.wrap (f' i).2.1)
   unfold zjw
   simp only [List.length_append]
   omega
  exact Obl.goal (K := Goal P 1 14 _) mix (fun _ h => h) (cast (eyCy (fun v h => v = .str S ∧ h = HCo f off z) (el f) (el f') (fun _ => 0) (fun _ => 0) s _ (zdc (f' i)) (zjw (f' i)) (one (f' i)) _ _ _ 0 m 0 z y off 0 s.length s.length false GW _).symm
   ⟨decide_eq_true (by omega), ⟨by omega, by omega⟩, by rw [Int.toNat_natCast]; omega, xG f' i, putt [] (f' i).1 (by show 0 + _ + 9 < _; omega), rfl, rfl, rfl, rfl,
    zng (zdc (f' i)) _ (ye _).1 (ye _).2 (by omega), rfl, rfl, zng (zjw (f' i)) _ (ye _).1 (ye _).2 (by omega),
    ⟨Nat.le_refl _, hpos, by omega, by omega, by omega, room _ (by omega), by omega⟩, zm8 s (one (f' i)) _ rfl BS_eq, by rw [List.length_append]; omega, zi _,  zi _, zbK _, by rw [up1 i (by omega)]; exact ih⟩)
theorem ziJ {off z n cp : Nat} {f : Nat → Dg} (hz : n * 3 ≤ z) (hn : n < 100000) {l : List Dg} (hl : So (sl f 0 n) l) :
 Goal P 1 14 (fun v h => v = .str (y9 l) ∧ h = HCo f off z) (ze P 14 [.slg 0 0 0 n 0] (HCo f off z)) := by
 rcases zfG (off := off) (z := z) (n := n) (cp := cp) (f := f) hz hn with ⟨h1, h2⟩ | ⟨f', k, y, h1, h2, h3, h4, h5⟩
 · obtain rfl : l = [] := So.uniq hl h1 fun _ => Iff.rfl
   have e : y9 [] = row 0 := by unfold y9; rw [List.flatMap_nil, List.append_nil]; rfl
   have hp := xH 0
   have hlr := zN 0
   have e1 : ([] ++ row 0 : List UInt8) = row 0 := List.nil_append _
   rw [e]
   obtain ⟨q, hq⟩ : ∃ q, (row 0).length = q + 1 := ⟨(row 0).length - 1, by omega⟩
   have h48 := zng [] 0 (by omega) (by omega) (by show 0 + 9 < _; omega)
   rw [e1] at h48
   exact Obl.goal (K := Goal P 1 14 _) mix (fun _ h => h) (cast (ezC (fun v h => v = .str (row 0) ∧ h = HCo f off z) (el f) (el f) (fun _ => 0) (fun _ => 0) [] [] (row 0) [] [] 0 0 0 n 0 cp z 0 off off 0 0 false GW _).symm
    ⟨zi _, zi _,  h2, h48, ⟨Nat.le_refl _, hp, room _ (by omega)⟩, zi _,  zbK _, Obl.goal (K := Goal P 1 14 _) mix (fun _ h => h) (cast (enC (fun v h => v = .str (row 0) ∧ h = HCo f off z) (el f) (el f) (fun _ => 0) (fun _ => 0) (row 0) [] [] [] [] 0 0 0 q 0 0 z 0 off 0 ((row 0).length * 1) (row 0).length false GW _).symm
     ⟨by rw [hq], ⟨by omega, by omega, by rw [Int.toNat_natCast]; omega, by kernel_rfl, zd0 _ _ (Int.toNat_natCast _)⟩, zi _,  rfl, rfl⟩)⟩)
 · obtain rfl : l = sl f' 0 k := So.uniq hl h4 fun _ => Iff.rfl
   have hlr := zN (k : Nat)
   have hp := xH (k : Nat)
   have h48 := put0 (k : Nat)
   rw [natw k (by omega), List.nil_append] at h48
   have hloop := zhA (lo := off) (off := off) (z := z) (y := y) (f := f) (f' := f') (m := k) h3 (by omega) (fun i hi => ((h4.2 _).1 (vN f' k 0 i (by omega) (by omega))).2) (S := y9 (sl f' 0 k)) k 0 (row (k : Nat)) _ ((row (k : Nat)).length * 1) (by omega) rfl (by omega) hp (by omega) (by
    unfold y9
    rw [yj, List.nil_append])
   exact Obl.goal (K := Goal P 1 14 _) mix (fun _ h => h) (cast (esC (fun v h => v = .str (y9 (sl f' 0 k)) ∧ h = HCo f off z) (el f) (el f') (fun _ => 0) (fun _ => 0) [] [] (row (k : Nat)) [] [] 0 0 0 n k cp z y off off 0 0 false GW _).symm
    ⟨zi _, zi _,  zi _, h5, by rw [natw k (by omega)]; exact h48, ⟨Nat.le_refl _, hp, room _ (by omega)⟩, zi _,  zi _, zbK _, hloop⟩)
theorem zhG : Goal P 0 14 (fun v h => v = .str (y9 []) ∧ h = ⟨.leaf, 0, GW⟩) (ze P 14 [.nils 0 0] ⟨.leaf, 0, GW⟩) := by
 have e : y9 [] = [] ++ row 0 := by unfold y9; rw [List.flatMap_nil, List.append_nil]; rfl
 have hp := xH 0
 have hl := zN 0
 have e1 : ([] ++ row 0 : List UInt8) = row 0 := List.nil_append _
 rw [e, e1]
 obtain ⟨n, hn⟩ : ∃ n, (row 0).length = n + 1 := ⟨(row 0).length - 1, by omega⟩
 have h48 := zng [] 0 (by omega) (by omega) (by show 0 + 9 < _; omega)
 rw [e1] at h48
 have h12 : Goal P 0 12 (fun x k => x = .nils 0 0 ∧ k = ⟨.leaf, 0, GW⟩) (zc P 12 [.nils 0 0] GW) := Obl.goal (K := Goal P 0 12 _) mix (fun _ h => h) (cast (sortN (fun x k => x = .nils 0 0 ∧ k = ⟨.leaf, 0, GW⟩) GW (Goal P 0 12 _)).symm ⟨rfl, rfl⟩)
 exact Obl.goal (K := Goal P 0 14 _) mix (fun _ h => h) (cast (ee (fun v h => v = .str (row 0) ∧ h = ⟨.leaf, 0, GW⟩) (el fun _ => zd) (el fun _ => zd) (fun _ => 0) (fun _ => 0) [] [] (row 0) [] [] 0 0 0 n 0 0 0 0 0 0 0 0 false GW _).symm
  ⟨h12, h48, ⟨Nat.le_refl _, hp, room _ (by omega)⟩, by rw [hn], ⟨by omega, by omega, by rw [Int.toNat_natCast]; omega, by kernel_rfl, zd0 _ _ (Int.toNat_natCast _)⟩, rfl, rfl⟩)
end Go.Proofs.YtdbfpjgnlfejmaaDoor.dg
end
section
set_option maxRecDepth 100000
namespace Go.Proofs.YtdbfpjgnlfejmaaDoor.mq
open Go Ev
section
set_option linter.unusedSectionVars false
variable (b : Int) (R : AV → Prop) (_K : AM → Prop)
include b R _K
theorem rfny : Obl P 103 (fun v _ => R v) 0 _K [.run 32, .know 9 false, .run 27, .know 9 true, .run 23, .done] ((zc P 103 [.int .u8 b] GW)) = ((decide (b < Int.ofNat 0) = false) ∧ (decide (b < Int.ofNat 241) = true) ∧ (R (.agg [.int .u8 0, .int .u64 0, .int .u64 0, .int .u64 240, .int .i64 0]))) := by kernel_rfl
theorem rfnny : Obl P 103 (fun v _ => R v) 0 _K [.run 32, .know 9 false, .run 27, .know 9 false, .run 28, .know 9 true, .run 17, .done] ((zc P 103 [.int .u8 b] GW)) = ((decide (b < Int.ofNat 0) = false) ∧ (decide (b < Int.ofNat 241) = false) ∧ (decide (b < Int.ofNat 249) = true) ∧ (R (.agg [.int .u8 241, .int .u64 240, .int .u64 241, .int .u64 2287, .int .i64 1]))) := by kernel_rfl
theorem znp : Obl P 103 (fun v _ => R v) 0 _K [.run 32, .know 9 false, .run 27, .know 9 false, .run 28, .know 9 false, .run 67, .know 9 true, .run 16, .done] ((zc P 103 [.int .u8 b] GW)) = ((decide (b < Int.ofNat 0) = false) ∧ (decide (b < Int.ofNat 241) = false) ∧ (decide (b < Int.ofNat 249) = false) ∧ (decide (b < Int.ofNat 250) = true) ∧ (R (.agg [.int .u8 249, .int .u64 2288, .int .u64 2288, .int .u64 67823, .int .i64 2]))) := by kernel_rfl
theorem zlt : Obl P 103 (fun v _ => R v) 0 _K [.run 32, .know 9 false, .run 27, .know 9 false, .run 28, .know 9 false, .run 67, .know 9 false, .run 68, .know 9 true, .run 16, .done] ((zc P 103 [.int .u8 b] GW)) = ((decide (b < Int.ofNat 0) = false) ∧ (decide (b < Int.ofNat 241) = false) ∧ (decide (b < Int.ofNat 249) = false) ∧ (decide (b < Int.ofNat 250) = false) ∧ (decide (b < Int.ofNat 251) = true) ∧ (R (.agg [.int .u8 250, .int .u64 0, .int .u64 67824, .int .u64 16777215, .int .i64 3]))) := by kernel_rfl
theorem zkq : Obl P 103 (fun v _ => R v) 0 _K [.run 32, .know 9 false, .run 27, .know 9 false, .run 28, .know 9 false, .run 67, .know 9 false, .run 68, .know 9 false, .run 68, .know 9 true, .run 16, .done] ((zc P 103 [.int .u8 b] GW)) = ((decide (b < Int.ofNat 0) = false) ∧ (decide (b < Int.ofNat 241) = false) ∧ (decide (b < Int.ofNat 249) = false) ∧ (decide (b < Int.ofNat 250) = false) ∧ (decide (b < Int.ofNat 251) = false) ∧ (decide (b < Int.ofNat 252) = true) ∧ (R (.agg [.int .u8 251, .int .u64 0, .int .u64 16777216, .int .u64 4294967295, .int .i64 4]))) := by kernel_rfl
theorem zh9 : Obl P 103 (fun v _ => R v) 0 _K [.run 32, .know 9 false, .run 27, .know 9 false, .run 28, .know 9 false, .run 67, .know 9 false, .run 68, .know 9 false, .run 68, .know 9 false, .run 68, .know 9 true, .run 16, .done] ((zc P 103 [.int .u8 b] GW)) = ((decide (b < Int.ofNat 0) = false) ∧ (decide (b < Int.ofNat 241) = false) ∧ (decide (b < Int.ofNat 249) = false) ∧ (decide (b < Int.ofNat 250) = false) ∧ (decide (b < Int.ofNat 251) = false) ∧ (decide (b < Int.ofNat 252) = false) ∧ (decide (b < Int.ofNat 253) = true) ∧ (R (.agg [.int .u8 252, .int .u64 0, .int .u64 4294967296, .int .u64 1099511627775, .int .i64 5]))) := by kernel_rfl
theorem zgs : Obl P 103 (fun v _ => R v) 0 _K [.run 32, .know 9 false, .run 27, .know 9 false, .run 28, .know 9 false, .run 67, .know 9 false, .run 68, .know 9 false, .run 68, .know 9 false, .run 68, .know 9 false, .run 68, .know 9 true, .run 16, .done] ((zc P 103 [.int .u8 b] GW)) = ((decide (b < Int.ofNat 0) = false) ∧ (decide (b < Int.ofNat 241) = false) ∧ (decide (b < Int.ofNat 249) = false) ∧ (decide (b < Int.ofNat 250) = false) ∧ (decide (b < Int.ofNat 251) = false) ∧ (decide (b < Int.ofNat 252) = false) ∧ (decide (b < Int.ofNat 253) = false) ∧ (decide (b < Int.ofNat 254) = true) ∧ (R (.agg [.int .u8 253, .int .u64 0, .int .u64 1099511627776, .int .u64 281474976710655, .int .i64 6]))) := by kernel_rfl
theorem zd1 : Obl P 103 (fun v _ => R v) 0 _K [.run 32, .know 9 false, .run 27, .know 9 false, .run 28, .know 9 false, .run 67, .know 9 false, .run 68, .know 9 false, .run 68, .know 9 false, .run 68, .know 9 false, .run 68, .know 9 false, .run 68, .know 9 true, .run 16, .done] ((zc P 103 [.int .u8 b] GW)) = ((decide (b < Int.ofNat 0) = false) ∧ (decide (b < Int.ofNat 241) = false) ∧ (decide (b < Int.ofNat 249) = false) ∧ (decide (b < Int.ofNat 250) = false) ∧ (decide (b < Int.ofNat 251) = false) ∧ (decide (b < Int.ofNat 252) = false) ∧ (decide (b < Int.ofNat 253) = false) ∧ (decide (b < Int.ofNat 254) = false) ∧ (decide (b < Int.ofNat 255) = true) ∧ (R (.agg [.int .u8 254, .int .u64 0, .int .u64 281474976710656, .int .u64 72057594037927935, .int .i64 7]))) := by kernel_rfl
theorem zeL : Obl P 103 (fun v _ => R v) 0 _K [.run 32, .know 9 false, .run 27, .know 9 false, .run 28, .know 9 false, .run 67, .know 9 false, .run 68, .know 9 false, .run 68, .know 9 false, .run 68, .know 9 false, .run 68, .know 9 false, .run 68, .know 9 false, .run 43, .done] ((zc P 103 [.int .u8 b] GW)) = ((decide (b < Int.ofNat 0) = false) ∧ (decide (b < Int.ofNat 241) = false) ∧ (decide (b < Int.ofNat 249) = false) ∧ (decide (b < Int.ofNat 250) = false) ∧ (decide (b < Int.ofNat 251) = false) ∧ (decide (b < Int.ofNat 252) = false) ∧ (decide (b < Int.ofNat 253) = false) ∧ (decide (b < Int.ofNat 254) = false) ∧ (decide (b < Int.ofNat 255) = false) ∧ (R (.agg [.int .u8 255, .int .u64 0, .int .u64 72057594037927936, .int .u64 18446744073709551615, .int .i64 8]))) := by kernel_rfl
end
noncomputable def zcE (a b c d e : Int) : AV := .agg [.int .u8 a, .int .u64 b, .int .u64 c, .int .u64 d, .int .i64 e]
theorem from0 (b : Int) (h0 : 0 ≤ b) (h1 : b < 241) : Goal P 0 103 (fun x _ => x = zcE 0 0 0 240 0) (zc P 103 [.int .u8 b] GW) :=
 Obl.goal (K := fun _ => False) mix (fun _ h => h.elim) (cast (rfny b (fun x => x = zcE 0 0 0 240 0) _).symm ⟨decide_eq_false (by show ¬ _ < (0 : Int); omega), decide_eq_true (by show _ < (241 : Int); omega), rfl⟩)
theorem zlP (b : Int) (h0 : 241 ≤ b) (h1 : b < 249) : Goal P 0 103 (fun x _ => x = zcE 241 240 241 2287 1) (zc P 103 [.int .u8 b] GW) :=
 Obl.goal (K := fun _ => False) mix (fun _ h => h.elim) (cast (rfnny b (fun x => x = zcE 241 240 241 2287 1) _).symm ⟨decide_eq_false (by show ¬ _ < (0 : Int); omega), decide_eq_false (by show ¬ _ < (241 : Int); omega), decide_eq_true (by show _ < (249 : Int); omega), rfl⟩)
theorem zmd (b : Int) (h0 : 249 ≤ b) (h1 : b < 250) : Goal P 0 103 (fun x _ => x = zcE 249 2288 2288 67823 2) (zc P 103 [.int .u8 b] GW) :=
 Obl.goal (K := fun _ => False) mix (fun _ h => h.elim) (cast (znp b (fun x => x = zcE 249 2288 2288 67823 2) _).symm ⟨decide_eq_false (by show ¬ _ < (0 : Int); omega), decide_eq_false (by show ¬ _ < (241 : Int); omega), decide_eq_false (by show ¬ _ < (249 : Int); omega), decide_eq_true (by show _ < (250 : Int); omega), rfl⟩)
theorem zlF (b : Int) (h0 : 250 ≤ b) (h1 : b < 251) : Goal P 0 103 (fun x _ => x = zcE 250 0 67824 16777215 3) (zc P 103 [.int .u8 b] GW) :=
 Obl.goal (K := fun _ => False) mix (fun _ h => h.elim) (cast (zlt b (fun x => x = zcE 250 0 67824 16777215 3) _).symm ⟨decide_eq_false (by show ¬ _ < (0 : Int); omega), decide_eq_false (by show ¬ _ < (241 : Int); omega), decide_eq_false (by show ¬ _ < (249 : Int); omega), decide_eq_false (by show ¬ _ < (250 : Int); omega), decide_eq_true (by show _ < (251 : Int); omega), rfl⟩)
theorem zlO (b : Int) (h0 : 251 ≤ b) (h1 : b < 252) : Goal P 0 103 (fun x _ => x = zcE 251 0 16777216 4294967295 4) (zc P 103 [.int .u8 b] GW) :=
 Obl.goal (K := fun _ => False) mix (fun _ h => h.elim) (cast (zkq b (fun x => x = zcE 251 0 16777216 4294967295 4) _).symm ⟨decide_eq_false (by show ¬ _ < (0 : Int); omega), decide_eq_false (by show ¬ _ < (241 : Int); omega), decide_eq_false (by show ¬ _ < (249 : Int); omega), decide_eq_false (by show ¬ _ < (250 : Int); omega), decide_eq_false (by show ¬ _ < (251 : Int); omega), decide_eq_true (by show _ < (252 : Int); omega), rfl⟩)
theorem zk8 (b : Int) (h0 : 252 ≤ b) (h1 : b < 253) : Goal P 0 103 (fun x _ => x = zcE 252 0 4294967296 1099511627775 5) (zc P 103 [.int .u8 b] GW) :=
 Obl.goal (K := fun _ => False) mix (fun _ h => h.elim) (cast (zh9 b (fun x => x = zcE 252 0 4294967296 1099511627775 5) _).symm ⟨decide_eq_false (by show ¬ _ < (0 : Int); omega), decide_eq_false (by show ¬ _ < (241 : Int); omega), decide_eq_false (by show ¬ _ < (249 : Int); omega), decide_eq_false (by show ¬ _ < (250 : Int); omega), decide_eq_false (by show ¬ _ < (251 : Int); omega), decide_eq_false (by show ¬ _ < (252 : Int); omega), decide_eq_true (by show _ < (253 : Int); omega), rfl⟩)
theorem zlK (b : Int) (h0 : 253 ≤ b) (h1 : b < 254) : Goal P 0 103 (fun x _ => x = zcE 253 0 1099511627776 281474976710655 6) (zc P 103 [.int .u8 b] GW) :=
 Obl.goal (K := fun _ => False) mix (fun _ h => h.elim) (cast (zgs b (fun x => x = zcE 253 0 1099511627776 281474976710655 6) _).symm ⟨decide_eq_false (by show ¬ _ < (0 : Int); omega), decide_eq_false (by show ¬ _ < (241 : Int); omega), decide_eq_false (by show ¬ _ < (249 : Int); omega), decide_eq_false (by show ¬ _ < (250 : Int); omega), decide_eq_false (by show ¬ _ < (251 : Int); omega), decide_eq_false (by show ¬ _ < (252 : Int); omega), decide_eq_false (by show ¬ _ < (253 : Int); omega), decide_eq_true (by show _ < (254 : Int); omega), rfl⟩)
theorem zlQ (b : Int) (h0 : 254 ≤ b) (h1 : b < 255) : Goal P 0 103 (fun x _ => x = zcE 254 0 281474976710656 72057594037927935 7) (zc P 103 [.int .u8 b] GW) :=
 Obl.goal (K := fun _ => False) mix (fun _ h => h.elim) (cast (zd1 b (fun x => x = zcE 254 0 281474976710656 72057594037927935 7) _).symm ⟨decide_eq_false (by show ¬ _ < (0 : Int); omega), decide_eq_false (by show ¬ _ < (241 : Int); omega), decide_eq_false (by show ¬ _ < (249 : Int); omega), decide_eq_false (by show ¬ _ < (250 : Int); omega), decide_eq_false (by show ¬ _ < (251 : Int); omega), decide_eq_false (by show ¬ _ < (252 : Int); omega), decide_eq_false (by show ¬ _ < (253 : Int); omega), decide_eq_false (by show ¬ _ < (254 : Int); omega), decide_eq_true (by show _ < (255 : Int); omega), rfl⟩)
theorem zlJ (b : Int) (h0 : 255 ≤ b) : Goal P 0 103 (fun x _ => x = zcE 255 0 72057594037927936 18446744073709551615 8) (zc P 103 [.int .u8 b] GW) :=
 Obl.goal (K := fun _ => False) mix (fun _ h => h.elim) (cast (zeL b (fun x => x = zcE 255 0 72057594037927936 18446744073709551615 8) _).symm ⟨decide_eq_false (by show ¬ _ < (0 : Int); omega), decide_eq_false (by show ¬ _ < (241 : Int); omega), decide_eq_false (by show ¬ _ < (249 : Int); omega), decide_eq_false (by show ¬ _ < (250 : Int); omega), decide_eq_false (by show ¬ _ < (251 : Int); omega), decide_eq_false (by show ¬ _ < (252 : Int); omega), decide_eq_false (by show ¬ _ < (253 : Int); omega), decide_eq_false (by show ¬ _ < (254 : Int); omega), decide_eq_false (by show ¬ _ < (255 : Int); omega), rfl⟩)
end Go.Proofs.YtdbfpjgnlfejmaaDoor.mq
end
section
set_option maxRecDepth 100000
namespace Go.Proofs.YtdbfpjgnlfejmaaDoor.mq
open Go Ev
def tl (f : Nat) : Nat := if f ≤ 240 then 0 else if f < 249 then 1 else if f = 249 then 2 else f - 247
def be (l : List UInt8) : Int := l.foldl (fun v b => v * 256 + b.toNat) 0
def val (f : Nat) (t : List UInt8) : Int := if f ≤ 240 then f else if f < 249 then be t + 240 + 256 * ((f : Int) - 241) else if f = 249 then be t + 2288 else be t
def zx (f : Nat) : Int := if f ≤ 240 then 0 else if f < 249 then 241 else if f = 249 then 2288 else if f = 250 then 67824 else if f = 251 then 16777216 else if f = 252 then 4294967296 else if f = 253 then 1099511627776 else if f = 254 then 281474976710656 else 72057594037927936
def xN (f : Nat) : Int := if f ≤ 240 then 240 else if f < 249 then 2287 else if f = 249 then 67823 else if f = 250 then 16777215 else if f = 251 then 4294967295 else if f = 252 then 1099511627775 else if f = 253 then 281474976710655 else if f = 254 then 72057594037927935 else 18446744073709551615
theorem zm2 (x : Int) : (B x).toNat = (x % 256).toNat := by
 unfold B
 rw [UInt8.toNat_ofNat']
 omega
theorem qM {x : Int} {b : UInt8} (h : x % 256 = b.toNat) : B x = b := by
 apply UInt8.toNat_inj.1
 rw [zm2, h]; rfl
theorem jj (x : Int) : ((B x).toNat : Int) = x % 256 := by rw [zm2]; omega
theorem zg (b : UInt8) : b.toNat < 256 := b.toNat_lt
theorem zfw (n : Int) (h0 : 0 ≤ n) (h1 : n ≤ 18446744073709551615) : ∃ f t, row n = f :: t ∧ t.length = tl f.toNat ∧ val f.toNat t = n ∧ zx f.toNat ≤ n ∧ n ≤ xN f.toNat := by
 unfold row
 have b0 := jj n
 have b1 := jj (n / 256)
 have b2 := jj (n / 65536)
 have b3 := jj (n / 16777216)
 have b4 := jj (n / 4294967296)
 have b5 := jj (n / 1099511627776)
 have b6 := jj (n / 281474976710656)
 have b7 := jj (n / 72057594037927936)
 split
 · rename_i h
   have e : (B n).toNat ≤ 240 := by omega
   refine ⟨_, _, rfl, ?_⟩
   simp only [tl, val, zx, xN, if_pos e, List.length_nil, true_and]
   omega
 split
 · have c0 := jj (241 + (n - 240) / 256)
   have c1 := jj (n - 240)
   have e : ¬ (B (241 + (n - 240) / 256)).toNat ≤ 240 := by omega
   have e2 : (B (241 + (n - 240) / 256)).toNat < 249 := by omega
   refine ⟨_, _, rfl, ?_⟩
   have r0 : (241 + (n - 240) / 256) % 256 = 241 + (n - 240) / 256 := by omega
   rw [r0] at c0
   simp only [tl, val, zx, xN, if_neg e, if_pos e2, List.length_cons, List.length_nil, be, List.foldl]
   refine ⟨trivial, ?_, ?_, ?_⟩ <;> omega
 split
 · have c1 := jj (n - 2288)
   have c2 := jj ((n - 2288) / 256)
   refine ⟨_, _, rfl, by simp [tl], ?_⟩
   simp [val, zx, xN, be, List.foldl]
   omega
 split
 · refine ⟨_, _, rfl, by simp [tl], ?_⟩
   simp [val, zx, xN, be, List.foldl]
   omega
 split
 · refine ⟨_, _, rfl, by simp [tl], ?_⟩
   simp [val, zx, xN, be, List.foldl]
   omega
 split
 · refine ⟨_, _, rfl, by simp [tl], ?_⟩
   simp [val, zx, xN, be, List.foldl]
   omega
 split
 · refine ⟨_, _, rfl, by simp [tl], ?_⟩
   simp [val, zx, xN, be, List.foldl]
   omega
 split
 · refine ⟨_, _, rfl, by simp [tl], ?_⟩
   simp [val, zx, xN, be, List.foldl]
   omega
 · refine ⟨_, _, rfl, by simp [tl], ?_⟩
   simp [val, zx, xN, be, List.foldl]
   omega
theorem len1 {t : List UInt8} (h : t.length = 1) : ∃ a, t = [a] := by
 match t, h with
 | [a], _ => exact ⟨a, rfl⟩
theorem zlj {t : List UInt8} {k : Nat} (h : t.length = k + 1) : ∃ a r, t = a :: r ∧ r.length = k := by
 match t, h with
 | a :: r, h => exact ⟨a, r, rfl, by simpa using h⟩
theorem rv2 (a1 a2 : UInt8) (h0 : 2288 ≤ (((0 * 256 + (a1.toNat : Int)) * 256 + (a2.toNat : Int)) + 2288)) (h1 : (((0 * 256 + (a1.toNat : Int)) * 256 + (a2.toNat : Int)) + 2288) ≤ 67823) : row (((0 * 256 + (a1.toNat : Int)) * 256 + (a2.toNat : Int)) + 2288) = [249, a1, a2] := by
 have := zg a1; have := zg a2
 rw [row, if_neg (by omega), if_neg (by omega), if_pos (by omega)]
 rw [qM (b := a1) (by omega), qM (b := a2) (by omega)]
theorem rv3 (a1 a2 a3 : UInt8) (h0 : 67824 ≤ (((0 * 256 + (a1.toNat : Int)) * 256 + (a2.toNat : Int)) * 256 + (a3.toNat : Int))) (h1 : (((0 * 256 + (a1.toNat : Int)) * 256 + (a2.toNat : Int)) * 256 + (a3.toNat : Int)) ≤ 16777215) : row (((0 * 256 + (a1.toNat : Int)) * 256 + (a2.toNat : Int)) * 256 + (a3.toNat : Int)) = [250, a1, a2, a3] := by
 have := zg a1; have := zg a2; have := zg a3
 rw [row, if_neg (by omega), if_neg (by omega), if_neg (by omega), if_pos (by omega)]
 rw [qM (b := a1) (by omega), qM (b := a2) (by omega), qM (b := a3) (by omega)]
theorem rv4 (a1 a2 a3 a4 : UInt8) (h0 : 16777216 ≤ ((((0 * 256 + (a1.toNat : Int)) * 256 + (a2.toNat : Int)) * 256 + (a3.toNat : Int)) * 256 + (a4.toNat : Int))) (h1 : ((((0 * 256 + (a1.toNat : Int)) * 256 + (a2.toNat : Int)) * 256 + (a3.toNat : Int)) * 256 + (a4.toNat : Int)) ≤ 4294967295) : row ((((0 * 256 + (a1.toNat : Int)) * 256 + (a2.toNat : Int)) * 256 + (a3.toNat : Int)) * 256 + (a4.toNat : Int)) = [251, a1, a2, a3, a4] := by
 have := zg a1; have := zg a2; have := zg a3; have := zg a4
 rw [row, if_neg (by omega), if_neg (by omega), if_neg (by omega), if_neg (by omega), if_pos (by omega)]
 rw [qM (b := a1) (by omega), qM (b := a2) (by omega), qM (b := a3) (by omega), qM (b := a4) (by omega)]
theorem rv5 (a1 a2 a3 a4 a5 : UInt8) (h0 : 4294967296 ≤ (((((0 * 256 + (a1.toNat : Int)) * 256 + (a2.toNat : Int)) * 256 + (a3.toNat : Int)) * 256 + (a4.toNat : Int)) * 256 + (a5.toNat : Int))) (h1 : (((((0 * 256 + (a1.toNat : Int)) * 256 + (a2.toNat : Int)) * 256 + (a3.toNat : Int)) * 256 + (a4.toNat : Int)) * 256 + (a5.toNat : Int)) ≤ 1099511627775) : row (((((0 * 256 + (a1.toNat : Int)) * 256 + (a2.toNat : Int)) * 256 + (a3.toNat : Int)) * 256 + (a4.toNat : Int)) * 256 + (a5.toNat : Int)) = [252, a1, a2, a3, a4, a5] := by
 have := zg a1; have := zg a2; have := zg a3; have := zg a4; have := zg a5
 rw [row, if_neg (by omega), if_neg (by omega), if_neg (by omega), if_neg (by omega), if_neg (by omega), if_pos (by omega)]
 rw [qM (b := a1) (by omega), qM (b := a2) (by omega), qM (b := a3) (by omega), qM (b := a4) (by omega), qM (b := a5) (by omega)]
theorem rv6 (a1 a2 a3 a4 a5 a6 : UInt8) (h0 : 1099511627776 ≤ ((((((0 * 256 + (a1.toNat : Int)) * 256 + (a2.toNat : Int)) * 256 + (a3.toNat : Int)) * 256 + (a4.toNat : Int)) * 256 + (a5.toNat : Int)) * 256 + (a6.toNat : Int))) (h1 : ((((((0 * 256 + (a1.toNat : Int)) * 256 + (a2.toNat : Int)) * 256 + (a3.toNat : Int)) * 256 + (a4.toNat : Int)) * 256 + (a5.toNat : Int)) * 256 + (a6.toNat : Int)) ≤ 281474976710655) : row ((((((0 * 256 + (a1.toNat : Int)) * 256 + (a2.toNat : Int)) * 256 + (a3.toNat : Int)) * 256 + (a4.toNat : Int)) * 256 + (a5.toNat : Int)) * 256 + (a6.toNat : Int)) = [253, a1, a2, a3, a4, a5, a6] := by
 have := zg a1; have := zg a2; have := zg a3; have := zg a4; have := zg a5; have := zg a6
 rw [row, if_neg (by omega), if_neg (by omega), if_neg (by omega), if_neg (by omega), if_neg (by omega), if_neg (by omega), if_pos (by omega)]
 rw [qM (b := a1) (by omega), qM (b := a2) (by omega), qM (b := a3) (by omega), qM (b := a4) (by omega), qM (b := a5) (by omega), qM (b := a6) (by omega)]
theorem rv7 (a1 a2 a3 a4 a5 a6 a7 : UInt8) (h0 : 281474976710656 ≤ (((((((0 * 256 + (a1.toNat : Int)) * 256 + (a2.toNat : Int)) * 256 + (a3.toNat : Int)) * 256 + (a4.toNat : Int)) * 256 + (a5.toNat : Int)) * 256 + (a6.toNat : Int)) * 256 + (a7.toNat : Int))) (h1 : (((((((0 * 256 + (a1.toNat : Int)) * 256 + (a2.toNat : Int)) * 256 + (a3.toNat : Int)) * 256 + (a4.toNat : Int)) * 256 + (a5.toNat : Int)) * 256 + (a6.toNat : Int)) * 256 + (a7.toNat : Int)) ≤ 72057594037927935) : row (((((((0 * 256 + (a1.toNat : Int)) * 256 + (a2.toNat : Int)) * 256 + (a3.toNat : Int)) * 256 + (a4.toNat : Int)) * 256 + (a5.toNat : Int)) * 256 + (a6.toNat : Int)) * 256 + (a7.toNat : Int)) = [254, a1, a2, a3, a4, a5, a6, a7] := by
 have := zg a1; have := zg a2; have := zg a3; have := zg a4; have := zg a5; have := zg a6; have := zg a7
 rw [row, if_neg (by omega), if_neg (by omega), if_neg (by omega), if_neg (by omega), if_neg (by omega), if_neg (by omega), if_neg (by omega), if_pos (by omega)]
 rw [qM (b := a1) (by omega), qM (b := a2) (by omega), qM (b := a3) (by omega), qM (b := a4) (by omega), qM (b := a5) (by omega), qM (b := a6) (by omega), qM (b := a7) (by omega)]
theorem rv8 (a1 a2 a3 a4 a5 a6 a7 a8 : UInt8) (h0 : 72057594037927936 ≤ ((((((((0 * 256 + (a1.toNat : Int)) * 256 + (a2.toNat : Int)) * 256 + (a3.toNat : Int)) * 256 + (a4.toNat : Int)) * 256 + (a5.toNat : Int)) * 256 + (a6.toNat : Int)) * 256 + (a7.toNat : Int)) * 256 + (a8.toNat : Int))) (h1 : ((((((((0 * 256 + (a1.toNat : Int)) * 256 + (a2.toNat : Int)) * 256 + (a3.toNat : Int)) * 256 + (a4.toNat : Int)) * 256 + (a5.toNat : Int)) * 256 + (a6.toNat : Int)) * 256 + (a7.toNat : Int)) * 256 + (a8.toNat : Int)) ≤ 18446744073709551615) : row ((((((((0 * 256 + (a1.toNat : Int)) * 256 + (a2.toNat : Int)) * 256 + (a3.toNat : Int)) * 256 + (a4.toNat : Int)) * 256 + (a5.toNat : Int)) * 256 + (a6.toNat : Int)) * 256 + (a7.toNat : Int)) * 256 + (a8.toNat : Int)) = [255, a1, a2, a3, a4, a5, a6, a7, a8] := by
 have := zg a1; have := zg a2; have := zg a3; have := zg a4; have := zg a5; have := zg a6; have := zg a7; have := zg a8
 rw [row, if_neg (by omega), if_neg (by omega), if_neg (by omega), if_neg (by omega), if_neg (by omega), if_neg (by omega), if_neg (by omega), if_neg (by omega)]
 rw [qM (b := a1) (by omega), qM (b := a2) (by omega), qM (b := a3) (by omega), qM (b := a4) (by omega), qM (b := a5) (by omega), qM (b := a6) (by omega), qM (b := a7) (by omega), qM (b := a8) (by omega)]
theorem zmp (f : UInt8) (t : List UInt8) (ht : t.length = tl f.toNat) (h0 : zx f.toNat ≤ val f.toNat t) (h1 : val f.toNat t ≤ xN f.toNat) : row (val f.toNat t) = f :: t := by
 have hf := zg f
 by_cases c : f.toNat ≤ 240
 · simp only [tl, val, zx, xN, if_pos c] at *
   obtain rfl := List.eq_nil_of_length_eq_zero ht
   rw [row, if_pos (by omega)]
   congr 1
   exact qM (by omega)
 by_cases c2 : f.toNat < 249
 · simp only [tl, val, zx, xN, if_neg c, if_pos c2] at *
   obtain ⟨a, rfl⟩ := len1 ht
   simp only [be, List.foldl] at *
   have := zg a
   rw [row, if_neg (by omega), if_pos (by omega)]
   congr 1
   · exact qM (by omega)
   · congr 1; exact qM (by omega)
 have hcs : f.toNat = (249 : UInt8).toNat ∨ f.toNat = (250 : UInt8).toNat ∨ f.toNat = (251 : UInt8).toNat ∨ f.toNat = (252 : UInt8).toNat ∨ f.toNat = (253 : UInt8).toNat ∨ f.toNat = (254 : UInt8).toNat ∨ f.toNat = (255 : UInt8).toNat := by simp; omega
 clear c c2 hf
 rcases hcs with c4 | c4 | c4 | c4 | c4 | c4 | c4 <;> obtain rfl := UInt8.toNat_inj.1 c4 <;> clear c4
 · have ht2 : t.length = 2 := ht.trans (by decide)
   clear ht
   obtain ⟨a1, r, rfl, hr⟩ := zlj ht2
   obtain ⟨a2, rfl⟩ := len1 hr
   · have e : val (249 : UInt8).toNat [a1, a2] = (((0 * 256 + (a1.toNat : Int)) * 256 + (a2.toNat : Int)) + 2288) := by simp [val, be, List.foldl]
     have e0 : zx (249 : UInt8).toNat = 2288 := by simp [zx]
     have e1 : xN (249 : UInt8).toNat = 67823 := by simp [xN]
     rw [e, e0] at h0; rw [e, e1] at h1; rw [e]
     exact rv2 a1 a2 h0 h1
 · have ht : t.length = 3 := by simpa [tl] using ht
   match t, ht with
   | [a1, a2, a3], _ =>
    have e : val (250 : UInt8).toNat [a1, a2, a3] = (((0 * 256 + (a1.toNat : Int)) * 256 + (a2.toNat : Int)) * 256 + (a3.toNat : Int)) := by simp [val, be, List.foldl]
    have e0 : zx (250 : UInt8).toNat = 67824 := by simp [zx]
    have e1 : xN (250 : UInt8).toNat = 16777215 := by simp [xN]
    rw [e, e0] at h0; rw [e, e1] at h1; rw [e]
    exact rv3 a1 a2 a3 h0 h1
 · have ht : t.length = 4 := by simpa [tl] using ht
   match t, ht with
   | [a1, a2, a3, a4], _ =>
    have e : val (251 : UInt8).toNat [a1, a2, a3, a4] = ((((0 * 256 + (a1.toNat : Int)) * 256 + (a2.toNat : Int)) * 256 + (a3.toNat : Int)) * 256 + (a4.toNat : Int)) := by simp [val, be, List.foldl]
    have e0 : zx (251 : UInt8).toNat = 16777216 := by simp [zx]
    have e1 : xN (251 : UInt8).toNat = 4294967295 := by simp [xN]
    rw [e, e0] at h0; rw [e, e1] at h1; rw [e]
    exact rv4 a1 a2 a3 a4 h0 h1
 · have ht : t.length = 5 := by simpa [tl] using ht
   match t, ht with
   | [a1, a2, a3, a4, a5], _ =>
    have e : val (252 : UInt8).toNat [a1, a2, a3, a4, a5] = (((((0 * 256 + (a1.toNat : Int)) * 256 + (a2.toNat : Int)) * 256 + (a3.toNat : Int)) * 256 + (a4.toNat : Int)) * 256 + (a5.toNat : Int)) := by simp [val, be, List.foldl]
    have e0 : zx (252 : UInt8).toNat = 4294967296 := by simp [zx]
    have e1 : xN (252 : UInt8).toNat = 1099511627775 := by simp [xN]
    rw [e, e0] at h0; rw [e, e1] at h1; rw [e]
    exact rv5 a1 a2 a3 a4 a5 h0 h1
 · have ht : t.length = 6 := by simpa [tl] using ht
   match t, ht with
   | [a1, a2, a3, a4, a5, a6], _ =>
    have e : val (253 : UInt8).toNat [a1, a2, a3, a4, a5, a6] = ((((((0 * 256 + (a1.toNat : Int)) * 256 + (a2.toNat : Int)) * 256 + (a3.toNat : Int)) * 256 + (a4.toNat : Int)) * 256 + (a5.toNat : Int)) * 256 + (a6.toNat : Int)) := by simp [val, be, List.foldl]
    have e0 : zx (253 : UInt8).toNat = 1099511627776 := by simp [zx]
    have e1 : xN (253 : UInt8).toNat = 281474976710655 := by simp [xN]
    rw [e, e0] at h0; rw [e, e1] at h1; rw [e]
    exact rv6 a1 a2 a3 a4 a5 a6 h0 h1
 · have ht : t.length = 7 := by simpa [tl] using ht
   match t, ht with
   | [a1, a2, a3, a4, a5, a6, a7], _ =>
    have e : val (254 : UInt8).toNat [a1, a2, a3, a4, a5, a6, a7] = (((((((0 * 256 + (a1.toNat : Int)) * 256 + (a2.toNat : Int)) * 256 + (a3.toNat : Int)) * 256 + (a4.toNat : Int)) * 256 + (a5.toNat : Int)) * 256 + (a6.toNat : Int)) * 256 + (a7.toNat : Int)) := by simp [val, be, List.foldl]
    have e0 : zx (254 : UInt8).toNat = 281474976710656 := by simp [zx]
    have e1 : xN (254 : UInt8).toNat = 72057594037927935 := by simp [xN]
    rw [e, e0] at h0; rw [e, e1] at h1; rw [e]
    exact rv7 a1 a2 a3 a4 a5 a6 a7 h0 h1
 · have ht : t.length = 8 := by simpa [tl] using ht
   match t, ht with
   | [a1, a2, a3, a4, a5, a6, a7, a8], _ =>
    have e : val (255 : UInt8).toNat [a1, a2, a3, a4, a5, a6, a7, a8] = ((((((((0 * 256 + (a1.toNat : Int)) * 256 + (a2.toNat : Int)) * 256 + (a3.toNat : Int)) * 256 + (a4.toNat : Int)) * 256 + (a5.toNat : Int)) * 256 + (a6.toNat : Int)) * 256 + (a7.toNat : Int)) * 256 + (a8.toNat : Int)) := by simp [val, be, List.foldl]
    have e0 : zx (255 : UInt8).toNat = 72057594037927936 := by simp [zx]
    have e1 : xN (255 : UInt8).toNat = 18446744073709551615 := by simp [xN]
    rw [e, e0] at h0; rw [e, e1] at h1; rw [e]
    exact rv8 a1 a2 a3 a4 a5 a6 a7 a8 h0 h1
def xm : List UInt8 → Option (Int × Nat)
 | [] => none
 | f :: t => if tl f.toNat ≤ t.length ∧ row (val f.toNat (t.take (tl f.toNat))) = f :: t.take (tl f.toNat) then some (val f.toNat (t.take (tl f.toNat)), 1 + tl f.toNat) else none
theorem yt (f : UInt8) (t : List UInt8) : xm (f :: t) = if tl f.toNat ≤ t.length ∧ row (val f.toNat (t.take (tl f.toNat))) = f :: t.take (tl f.toNat) then some (val f.toNat (t.take (tl f.toNat)), 1 + tl f.toNat) else none := rfl
theorem zbT (f : UInt8) : tl f.toNat ≤ 8 := by
 have := zg f
 unfold tl
 repeat' split
 all_goals omega
theorem wz : ∀ (t : List UInt8) (v : Int), 0 ≤ v → 0 ≤ t.foldl (fun v b => v * 256 + (b.toNat : Int)) v ∧ t.foldl (fun v b => v * 256 + (b.toNat : Int)) v < (v + 1) * 256 ^ t.length
 | [], v, h => by simp only [List.foldl, List.length_nil, Int.pow_zero]; omega
 | b :: t, v, h => by
  have hb := zg b
  obtain ⟨h1, h2⟩ := wz t (v * 256 + b.toNat) (by omega)
  refine ⟨h1, Int.lt_of_lt_of_le h2 ?_⟩
  rw [List.length_cons, Int.pow_succ, ← Int.mul_assoc]
  have h3 : (v * 256 + (b.toNat : Int) + 1) ≤ (v + 1) * 256 := by omega
  have h4 : (0 : Int) ≤ 256 ^ t.length := Int.pow_nonneg (by omega)
  calc (v * 256 + (b.toNat : Int) + 1) * 256 ^ t.length ≤ ((v + 1) * 256) * 256 ^ t.length := Int.mul_le_mul_of_nonneg_right h3 h4
   _ = (v + 1) * 256 ^ t.length * 256 := by rw [Int.mul_assoc, Int.mul_comm 256, ← Int.mul_assoc]
theorem xI (f : UInt8) (t : List UInt8) (ht : t.length = tl f.toNat) : 0 ≤ val f.toNat t ∧ val f.toNat t ≤ 18446744073709551615 := by
 obtain ⟨h1, h2⟩ := wz t 0 (by omega)
 have hf := zg f
 have h8 := zbT f
 have h3 : (256 : Int) ^ t.length ≤ 256 ^ 8 := by
  have := Nat.pow_le_pow_right (n := 256) (by omega) (show t.length ≤ 8 by omega)
  exact_mod_cast this
 unfold val be
 split
 · omega
 split
 · rename_i c c2
   simp only [tl, if_neg c, if_pos c2] at ht
   rw [ht] at h2
   omega
 split
 · rename_i c c2 c3
   simp only [tl, c3] at ht
   simp at ht
   rw [ht] at h2
   omega
 · omega
theorem xe {l : List UInt8} {n : Int} {k : Nat} (h : xm l = some (n, k)) : 0 ≤ n ∧ n ≤ 18446744073709551615 ∧ row n = l.take k ∧ k ≤ l.length ∧ (row n).length = k := by
 match l with
 | [] => cases h
 | f :: t =>
  rw [yt] at h
  split at h
  · rename_i hc
    cases h
    have hl : (t.take (tl f.toNat)).length = tl f.toNat := by simp; omega
    obtain ⟨h1, h2⟩ := xI f _ hl
    refine ⟨h1, h2, ?_, by simp; omega, ?_⟩
    · rw [hc.2, Nat.add_comm, List.take_succ_cons]
    · rw [hc.2, List.length_cons, hl]; omega
  · cases h
theorem yb (n : Int) (h0 : 0 ≤ n) (h1 : n ≤ 18446744073709551615) (s : List UInt8) : xm (row n ++ s) = some (n, (row n).length) := by
 obtain ⟨f, t, e, ht, hv, _, _⟩ := zfw n h0 h1
 have htk : (t ++ s).take (tl f.toNat) = t := by rw [← ht]; simp
 rw [e, List.cons_append]
 rw [yt, htk, hv, if_pos ⟨by simp; omega, e⟩, List.length_cons, ht, Nat.add_comm]
theorem xp (f : UInt8) (t : List UInt8) (ht : t.length = tl f.toNat) : row (val f.toNat t) = f :: t ↔ zx f.toNat ≤ val f.toNat t ∧ val f.toNat t ≤ xN f.toNat := by
 refine ⟨fun h => ?_, fun h => zmp f t ht h.1 h.2⟩
 obtain ⟨b1, b2⟩ := xI f t ht
 obtain ⟨f', t', e, _, _, c1, c2⟩ := zfw (val f.toNat t) b1 b2
 rw [e] at h
 cases h
 exact ⟨c1, c2⟩
end Go.Proofs.YtdbfpjgnlfejmaaDoor.mq
end
