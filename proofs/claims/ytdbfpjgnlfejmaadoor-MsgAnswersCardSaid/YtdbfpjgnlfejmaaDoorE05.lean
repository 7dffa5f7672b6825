import Derived.Deep.Slices
import Derived.Deep.Strs
import Derived.OpenShut
import Derived.Test.YtdbfpjgnlfejmaaDoorE00
import Derived.Test.YtdbfpjgnlfejmaaDoorE01
import Derived.Test.YtdbfpjgnlfejmaaDoorE02
import Derived.Test.YtdbfpjgnlfejmaaDoorE03
import Derived.Test.YtdbfpjgnlfejmaaDoorE04
section
set_option maxRecDepth 100000
set_option linter.unusedVariables false
namespace Go.Proofs.YtdbfpjgnlfejmaaDoor.dg
open Go Ev mq Go.Sort Go.Shelf
theorem zgU (a c : Int) : Goal P 0 42 (fun v _ => v = .int .i64 (ci a c)) (zc P 42 [.int .i64 a, .int .i64 c] .leaf) := by
 have h1 : ∀ x : Int, (x != x) = false := fun x => by simp
 unfold ci
 by_cases h : a < c
 · rw [if_pos h]
   exact Obl.goal (K := Goal P 0 42 _) mix (fun _ h => h) (cast (ciy (fun v => v = .int .i64 (-1)) _ _ _).symm ⟨h1 _, h1 _, decide_eq_true h, rfl⟩)
 · rw [if_neg h]
   by_cases k : a > c
   · rw [if_pos k]
     exact Obl.goal (K := Goal P 0 42 _) mix (fun _ h => h) (cast (ciny (fun v => v = .int .i64 1) _ _ _).symm ⟨h1 _, h1 _, decide_eq_false h, decide_eq_true k, rfl⟩)
   · rw [if_neg k]
     exact Obl.goal (K := Goal P 0 42 _) mix (fun _ h => h) (cast (cinn (fun v => v = .int .i64 0) _ _ _).symm ⟨h1 _, h1 _, decide_eq_false h, decide_eq_false k, rfl⟩)
theorem zej {a : Int} (h : a ≠ 0) : (a != 0) = true := by simp [h]
theorem wh {a : Int} (h : ¬ a ≠ 0) : (a != 0) = false := by simp at h; simp [h]
theorem zmO (x y : Dg) : Goal P 0 37 (fun v _ => v = .int .i64 (cf x y)) (zc P 37 [.agg [.str x.1, .int .i64 x.2.1, .int .i64 x.2.2], .agg [.str y.1, .int .i64 y.2.1, .int .i64 y.2.2]] .leaf) := by
 unfold cf
 by_cases h1 : Lib.compareBytes x.1 y.1 ≠ 0
 · rw [if_pos h1]
   exact Obl.goal (K := Goal P 0 37 _) mix (fun _ h => h) (cast (cmy (fun v => v = .int .i64 (Lib.compareBytes x.1 y.1)) _ _ _ _ _ _ 0 0 _).symm ⟨zej h1, rfl⟩)
 · rw [if_neg h1]
   by_cases h2 : ci x.2.1 y.2.1 ≠ 0
   · rw [if_pos h2]
     exact Obl.goal (K := Goal P 0 37 _) mix (fun _ h => h) (cast (cmny (fun v => v = .int .i64 (ci x.2.1 y.2.1)) _ _ _ _ _ _ (ci x.2.1 y.2.1) 0 _).symm ⟨wh h1, zgU _ _, zej h2, rfl⟩)
   · rw [if_neg h2]
     by_cases h3 : ci x.2.2 y.2.2 ≠ 0
     · exact Obl.goal (K := Goal P 0 37 _) mix (fun _ h => h) (cast (cmnny (fun v => v = .int .i64 (ci x.2.2 y.2.2)) _ _ _ _ _ _ (ci x.2.1 y.2.1) (ci x.2.2 y.2.2) _).symm ⟨wh h1, zgU _ _, wh h2, zgU _ _, zej h3, rfl⟩)
     · have e : ci x.2.2 y.2.2 = 0 := Decidable.not_not.1 h3
       exact Obl.goal (K := Goal P 0 37 _) mix (fun _ h => h) (cast (cmnn (fun v => v = .int .i64 (ci x.2.2 y.2.2)) _ _ _ _ _ _ (ci x.2.1 y.2.1) (ci x.2.2 y.2.2) _).symm ⟨wh h1, zgU _ _, wh h2, zgU _ _, wh h3, by rw [e]⟩)
theorem zfN {f : FuncId} {args : List AV} {vs : List Value} {a : AFrame} {Q : AV → Prop} (ha : qz P f args .normal = some a) (w : World) (hv : VRels (fun _ _ => none) args vs)
 (k : Goal P 0 f (fun v _ => Q v) ⟨a, [], ⟨.leaf, 0, .leaf⟩⟩) : Calls P f vs.toArray w fun r w' => ∃ v v' R, Q v ∧ VRel R v v' ∧ r = .returned v' ∧ Old w w' := by
 intro cs
 have hs : Sim P (Env.of w) cs ⟨a, [], ⟨.leaf, 0, .leaf⟩⟩ (Frame.enter P f vs.toArray .normal) cs w :=
  ⟨Base.of w, _, [], rfl, rfl, .start (fun g c h => by cases h), .start w, qZ ha hv (.inl rfl), rfl⟩
 obtain ⟨fr', w', B, R, v, v', h', s1, s2, s3, s4, s5, s6, s7, s8⟩ := k (Env.of w) cs _ _ _ (fun i r L e => by cases e) hs
 exact ⟨.returned v', w', fr', ⟨v, v', R, s8, s4, rfl, (s7.all s5 s6).old fun _ e => e⟩, s1, s3, s2⟩
theorem zi9 {w w' : World} (h : Old w w') : ∃ q os', w' = grow (w.drewN q) os' := by
 refine ⟨w'.drawn - w.drawn, w'.heap.extract w.heap.size w'.heap.size, ?_⟩
 have hd : w.drawn + (w'.drawn - w.drawn) = w'.drawn := Nat.add_sub_cancel' h.drawn
 obtain ⟨heap', tape', drawn', os', output'⟩ := w'
 have e1 : os' = w.os := h.os
 have e2 : tape' = w.tape := h.tape
 have e3 : output' = w.output := h.output
 have hs : w.heap.size ≤ heap'.size := h.size
 have hb : ∀ k, k < w.heap.size → heap'[k]? = w.heap[k]? := h.other
 have eh : heap' = w.heap ++ heap'.extract w.heap.size heap'.size := by
  apply Array.ext_getElem?
  intro k
  by_cases hk : k < w.heap.size
  · rw [Array.getElem?_append_left hk]; exact hb k hk
  · rw [Array.getElem?_append_right (by omega), Array.getElem?_extract]
    by_cases hk2 : k < heap'.size
    · rw [if_pos (by omega)]; congr 1; omega
    · rw [if_neg (by omega), Array.getElem?_eq_none (by omega)]
 subst e1 e2 e3
 show _ = ({ w.drewN (drawn' - w.drawn) with heap := w.heap ++ heap'.extract w.heap.size heap'.size } : World)
 rw [← eh]
 show _ = ({ heap := heap', tape := w.tape, drawn := w.drawn + (drawn' - w.drawn), os := w.os, output := w.output } : World)
 rw [hd]
def enc (d : Dg) : List Value := [.string ⟨d.1.toArray⟩, .int .i64 d.2.1, .int .i64 d.2.2]
theorem zhG (R : Bij) (d : Dg) : VRels R (sc d) (enc d) := .cons rfl (.cons rfl (.cons rfl .nil))
theorem zi7 (blk off size : Nat) (w : World) : CmpLays P 37 #[] enc 3 cf blk off size w := by
 intro m os dk _ x y
 have ha : qz P 37 [.agg [.str x.1, .int .i64 x.2.1, .int .i64 x.2.2], .agg [.str y.1, .int .i64 y.2.1, .int .i64 y.2.2]] .normal = some (zc P 37 [.agg [.str x.1, .int .i64 x.2.1, .int .i64 x.2.2], .agg [.str y.1, .int .i64 y.2.1, .int .i64 y.2.2]] .leaf).top := by kernel_rfl
 have h := zfN (vs := [.agg (enc x).toArray, .agg (enc y).toArray]) ha (sortWorldK enc 3 w blk off m dk os) (.cons ⟨enc x, rfl, zhG _ x⟩ (.cons ⟨enc y, rfl, zhG _ y⟩ .nil)) (zmO x y)
 refine (show Calls P 37 (#[.agg (enc x).toArray, .agg (enc y).toArray] ++ #[]) _ _ from h).mono ?_
 rintro e w' ⟨v, v', R, rfl, rfl, rfl, hold⟩
 exact ⟨rfl, zi9 hold⟩
theorem rerow {B : Base} {R : Bij} {h : AHeap} {w W : World} (k : HRel P B R h w) (hB : B.n ≤ w.heap.size) {i r : Nat} {c c' : T AV} {n el lo hi nv fz : Nat} {sg : Bool} {ex : T Nat} {e : Nat} {L : Ev.Loc} {cs cs' : Array Value} {f0 f1 : Nat}
 (hL : R i r = some L) (ho : h.get i = some (.cells c n el lo hi nv fz sg ex)) (c1 : lo ≤ r) (c2 : r ≤ hi) (he : zA ex n hi r = some e)
 (g1 : w.heap[L.block]? = some (.cells cs el (f0, f1))) (G1 : W.heap[L.block]? = some (.cells cs' el (f0, f1))) (hsz : cs'.size = cs.size)
 (hs : w.heap.size ≤ W.heap.size) (hoth : ∀ b, b < w.heap.size → b ≠ L.block → W.heap[b]? = w.heap[b]?)
 (hos : W.os = w.os) (ht : W.tape = w.tape) (hout : W.output = w.output) (hd : w.drawn ≤ W.drawn)
 (hc : ∀ j v, j < e → L.minus ≤ j → c'.get j = some v → ∃ x, cs'[j - L.minus]? = some x ∧ VRel R v x) :
 HRel P B R (h.put i (.cells c' e el r r nv fz sg ex)) W ∧ Keeps R w R W := by
 obtain ⟨L', hL', cs0, a0, b0, g1', g2, g3, g4, g5⟩ := k.ver hL ho c1 c2 he
 rw [hL] at hL'; cases hL'
 rw [g1] at g1'
 cases g1'
 have hob := k.obj' hL ho
 have hlt := xk g1
 refine ⟨?_, ⟨hos, ht, hout, hs, R.le_refl, fun b hb hn => ⟨hoth b hb (fun e => hn i r L hL e.symm), hn⟩, hd⟩⟩
 refine k.touch i _ (k.live hL) R.le_refl (by rw [x4]; exact Nat.le_refl _) ?_ (fun j => jS h i j _) (fun _ _ _ => rfl) (fun j r' M hj e => hoth _ (k.place j r' M e).2 ?_) ?_ hs (fun r' M e => ⟨(k.place i r' M e).1, Nat.lt_of_lt_of_le (k.place i r' M e).2 hs, fun j r'' M' hj e' hb => hj (k.apart _ _ _ _ _ _ e' e hb (.inr (k.notRo ho rfl)))⟩) (k.same i) (vh _ _ _) (fun b hb => hoth b (Nat.lt_of_lt_of_le (Base.low_lt hb) hB) (fun e => (k.off hL (k.notRo ho rfl) hb) e)) (k.notRo ho rfl)
 · rw [x4]
   rcases Nat.lt_or_ge i h.next with h1 | h1
   · exact h1
   · rw [k.fresh i h1] at hL; cases hL
 · exact fun hb => hj (k.apart _ _ _ _ _ _ e hL hb (.inr (k.notRo ho rfl)))
 · refine ⟨Nat.le_refl _, by have := hob.2.1; omega, hob.2.2.1, fun r' e' a1 a2 a3 => ?_, fun r' e' a1 a2 a3 => by
    obtain rfl : r' = r := by omega
    simp [zA] at a3; omega⟩
   obtain rfl : r' = r := by omega
   simp [zA] at a3; subst a3
   exact ⟨L, hL, cs', f0, f1, G1, by rw [hsz]; exact g2, by rw [hsz]; exact g3, ⟨g4.1, fun j a b => by rw [hsz]; exact g4.2 j a b⟩, fun j v a1 a2 a3 => hc j v a1 a2 a3⟩
theorem sizeOf35 (w : World) : (Go.sizeOf 35).run P w = .ok 3 w := Tryd.sizeOf35 w
theorem isAgg35 (w : World) : (isAgg 35).run P w = .ok true w := Tryd.isAgg35 w
theorem zi4 : ∀ args w, (callFunc 37 args).run P w = .ok (.enter 37 args) w := enters_of Tryd.func37 (by kernel_rfl) rfl
theorem zl3 (a : Array Dg) : a.toList = sl (fun i => a[i]!) 0 a.size := by
 refine List.ext_getElem? fun i => ?_
 rcases Nat.lt_or_ge i a.size with h | h
 · rw [jO _ _ _ _ h, Nat.zero_add, Array.getElem?_toList, Array.getElem?_eq_getElem h, getElem!_pos a i h]
 · rw [List.getElem?_eq_none (by simpa using h), List.getElem?_eq_none (by rw [x7]; exact h)]
theorem zjI (R : Bij) (f : Nat → Dg) (j : Nat) (d : Dg) (hd : f (j / 3) = d) : VRel R (el f j) (enc d)[j % 3]! := by
 subst hd
 have h := zdM f j
 have hr : j % 3 = 0 ∨ j % 3 = 1 ∨ j % 3 = 2 := by omega
 rcases hr with e | e | e <;> rw [e] at h ⊢ <;> rw [← Option.some.inj h] <;> rfl
theorem zmP {R : Bij} {f : Nat → Dg} {j : Nat} {x : Value} (h : VRel R (el f j) x) : x = (enc (f (j / 3)))[j % 3]! := by
 have h2 := zdM f j
 have hr : j % 3 = 0 ∨ j % 3 = 1 ∨ j % 3 = 2 := by omega
 rcases hr with e | e | e <;> rw [e] at h2 ⊢ <;> rw [← Option.some.inj h2] at h <;> exact h
theorem zjd {f g : Nat → Dg} {j : Nat} (h : f (j / 3) = g (j / 3)) : el f j = el g j := by
 unfold el
 rw [h]
theorem zjD (f : Nat → Dg) (n z : Nat) (h0 : 0 < n) (hz : n * 3 ≤ z) (hn : n < 1000000) (h : AHeap) (oid : Nat) (ho : h.get oid = some (.cells (.fn fun c => some (el f c)) z 35 0 0 1 0 false .leaf)) :
 ∃ f', Up (sl f' 0 n) ∧ (∀ x, x ∈ sl f' 0 n ↔ x ∈ sl f 0 n) ∧ zjk P 36 [.slg oid 0 0 n 0, .fn (.func 37) [] []] h (.tup []) (h.put oid (.cells (.fn fun c => some (el f' c)) z 35 0 0 1 0 false .leaf)) := by
 generalize hdd : (sl f 0 n).toArray = d
 have hsz : d.size = n := by rw [← hdd]; simp [x7]
 have hget : ∀ i, i < n → d[i]! = f i := fun i hi => by
  rw [getElem!_pos d i (by omega)]
  have h1 := jO f n 0 i hi
  have h2 : d[i]? = some (f i) := by rw [← hdd]; simpa using h1
  rw [Array.getElem?_eq_getElem (by omega)] at h2
  exact Option.some.inj h2
 obtain ⟨hp, hs⟩ := pdq_sorts (ltOf cf) swo d 0 d.size (Lib.bitLen d.size) true true (Nat.zero_le _) (Nat.le_refl _) (Or.inl rfl)
 have hask := fun (B : Base) (R : Bij) (w : World) (blk cap : Nat) (hH : HoldsK enc 3 w blk 0 d) (hblk : blk < w.heap.size) =>
  AnyQ.slices_SortFunc_eq Tryd.sortL 3 isAgg35 sizeOf35 enc (fun _ => rfl) (fun x v hv => by simp [enc] at hv; rcases hv with rfl | rfl | rfl <;> rfl) cf swo 37 #[] blk 0 cap d w zi4 (zi7 blk 0 d.size w) hH hblk (by omega)
 generalize pdq (ltOf cf) d 0 d.size (Lib.bitLen d.size) true true = d' at hp hs hask
 have hsz' : d'.size = n := by rw [hp.1, hsz]
 have hsl : sl (fun i => if i < n then d'[i]! else f i) 0 n = d'.toList := by
  rw [zl3, hsz']
  exact xA n 0 fun t _ ht => if_pos (by omega)
 refine ⟨fun i => if i < n then d'[i]! else f i, ?_, fun x => ?_, ?_⟩
 · rw [hsl]
   refine List.pairwise_iff_getElem.2 fun i j hi hj hij => ?_
   have hi' : i < d'.size := by simpa using hi
   have hj' : j < d'.size := by simpa using hj
   have := hs i j (Nat.zero_le _) hij (by omega)
   rw [getElem!_pos d' j hj', getElem!_pos d' i hi'] at this
   rw [Array.getElem_toList, Array.getElem_toList]
   exact (zcw _ _).1 this
 · rw [hsl]
   have hperm := hp.2.2
   rw [show d'.extract 0 d.size = d' by rw [← hp.1]; exact Array.extract_size, Array.extract_size] at hperm
   rw [hperm.mem_iff, ← hdd]
 · obtain ⟨objs, next, glob⟩ := h
   intro B R w args' hh hB ha
   obtain ⟨v1, r1, rfl, h1, h2⟩ := ha
   obtain ⟨v2, r2, rfl, h2, h3⟩ := h2
   cases h3
   obtain ⟨L, a, hL, hm, hkap, rfl, haddr⟩ := h1
   obtain ⟨_, a1, b1, rfl, hf1, hc1⟩ := h2
   cases hf1
   cases hc1
   have hm0 : L.minus = 0 := by omega
   obtain rfl := haddr (by omega)
   rw [hm0]
   obtain ⟨L', hL', cs, f0, f1, g1, g2, g3, g4, g5⟩ := hh.ver hL ho (Nat.le_refl _) (Nat.le_refl _) (e := z) rfl
   rw [hL] at hL'
   cases hL'
   rw [hm0] at g2 g3 g4 g5
   have hlt := xk g1
   have hfr : ∀ j : Nat, (decide (f0 ≤ j) && decide (j < f1)) = false := fun j => by
    cases hd : (decide (f0 ≤ j) && decide (j < f1)) with
    | false => rfl
    | true =>
     simp only [Bool.and_eq_true, decide_eq_true_eq] at hd
     rcases g4.2 j hd.1 hd.2 with h1 | h1
     · omega
     · exact absurd h1.1 (by simp)
   have hH : HoldsK enc 3 w L.block 0 d := by
    intro j hj
    rw [size_flatK, hsz] at hj
    obtain ⟨x, hx, hr⟩ := g5 j (el f j) (by omega) (Nat.zero_le _) rfl
    rw [Nat.sub_zero] at hx
    constructor
    · rw [get_flatK _ _ _ _ (by rw [hsz]; exact hj), hget _ (by omega)]
      simp only [World.cell?, g1, Nat.zero_add]
      show cs[j]? = _
      rw [hx, zmP hr]
      rfl
    · simp only [World.frozen?, g1, Nat.zero_add]
      exact hfr j
   refine (show Calls P 36 #[.slice (some ⟨L.block, 0, none⟩) n (L.kap - 0), .func (.func 37) #[] #[]] w _ from hsz ▸ hask B R w L.block (L.kap - 0) hH hlt).mono ?_
   rintro e w' ⟨rfl, q, os, rfl⟩
   have hheap : (sortWorldK enc 3 w L.block 0 q d' os).heap = w.heap.modify L.block (onCells (putCells id 0 (flatK enc 3 d'))) ++ os := rfl
   have hrr := rerow (W := sortWorldK enc 3 w L.block 0 q d' os) (c' := .fn fun c => some (el (fun i => if i < n then d'[i]! else f i) c)) (cs' := putCells id 0 (flatK enc 3 d') cs) hh hB hL ho (Nat.le_refl _) (Nat.le_refl _) (e := z) rfl g1
    (by rw [hheap, Array.getElem?_append_left (by simpa using hlt), Array.getElem?_modify, if_pos rfl, g1]; rfl)
    (by simp [putCells]) (by rw [hheap]; simp) (fun b hb hne => by rw [hheap, Array.getElem?_append_left (by simpa using hb), Array.getElem?_modify, if_neg (fun e => hne e.symm)])
    rfl rfl rfl (Nat.le_add_right _ _) (fun j v hj _ hv => by
     rw [hm0, Nat.sub_zero]
     have hv : some (el (fun i => if i < n then d'[i]! else f i) j) = some v := hv
     cases hv
     obtain ⟨x, hx, hr⟩ := g5 j (el f j) hj (Nat.zero_le _) rfl
     rw [Nat.sub_zero] at hx
     have hput : (putCells id 0 (flatK enc 3 d') cs)[j]? = some (if 0 ≤ j ∧ j < 0 + (flatK enc 3 d').size then id (flatK enc 3 d')[j - 0]! else x) := by
      simp only [putCells, Array.getElem?_mapIdx, hx, Option.map_some]
     rw [hput, size_flatK, hsz', Nat.sub_zero]
     by_cases hj3 : j < n * 3
     · rw [if_pos ⟨Nat.zero_le _, by omega⟩]
       refine ⟨_, rfl, ?_⟩
       show VRel R _ (flatK enc 3 d')[j]!
       rw [get_flatK _ _ _ _ (by rw [hsz']; exact hj3)]
       exact zjI R _ j _ (if_pos (by omega))
     · rw [if_neg (by omega)]
       refine ⟨_, rfl, ?_⟩
       have e : el (fun i => if i < n then d'[i]! else f i) j = el f j := zjd (if_neg (show ¬ j / 3 < n by omega))
       rw [e]
       exact hr)
   exact ⟨R, .tuple #[], rfl, ⟨[], rfl, rfl⟩, hrr.1, hrr.2⟩
end Go.Proofs.YtdbfpjgnlfejmaaDoor.dg
end
section
set_option maxRecDepth 100000
namespace Go.Proofs.YtdbfpjgnlfejmaaDoor.dg
open Go Ev mq Go.ChangeShapes Go.WideShapes Go.Deep
def elo (f : Nat → Dg) (off c : Nat) : AV := el f (c - off)
theorem wc (f : Nat → Dg) (off u : Nat) : AV.agg [elo f off (off + u * 3), elo f off (off + u * 3 + 1), elo f off (off + u * 3 + 2)] = AV.agg [.str (f u).1, .int .i64 (f u).2.1, .int .i64 (f u).2.2] := by
 unfold elo
 rw [show off + u * 3 - off = 0 + u * 3 by omega, show off + u * 3 + 1 - off = 0 + u * 3 + 1 by omega, show off + u * 3 + 2 - off = 0 + u * 3 + 2 by omega]
 exact xI f u
theorem zji {H : Type} {enc' : TypeId × Value → H} {w : World} {b0 : Nat} {v : Value} {d : DataW H} {ps : List MemPlace} (hv : Value.okWide P w .any b0 22 v) (h : DataW.Trod enc' P w 0 (fun _ => true) true 22 v d ps) :
 v = .slice none 0 0 ∨ ∃ (a : Addr) (len cap : Nat) (f : Nat → Dg), v = .slice (some a) len cap ∧ len ≤ cap ∧ cap ≤ maxLen ∧ ∀ i, i < cap * 3 → w.cell? (a.add i) = some (enc (f (i / 3)))[i % 3]! := by
 have u22 : P.underlying 22 = some (.slice 35) := by kernel_rfl
 have u3 : P.underlying 3 = some (.int .i64) := by kernel_rfl
 have u9 : P.underlying 9 = some .string := by kernel_rfl
 have c35 : P.cellsOf 35 = 3 := by kernel_rfl
 have c3 : P.cellsOf 3 = 1 := by kernel_rfl
 have c9 : P.cellsOf 9 = 1 := by kernel_rfl
 obtain ⟨fs, u35, f0, f1, f2⟩ : ∃ fs : Array Field, P.underlying 35 = some (.struct fs) ∧ (fs[0]?.map fun f => (f.type, f.offset)) = some (9, 0) ∧ (fs[1]?.map fun f => (f.type, f.offset)) = some (3, 1) ∧ (fs[2]?.map fun f => (f.type, f.offset)) = some (3, 2) :=
  ⟨(match P.underlying 35 with | some (.struct fs) => fs | _ => #[]), by kernel_rfl, by kernel_rfl, by kernel_rfl, by kernel_rfl⟩
 obtain ⟨a, l, c, rfl⟩ := okWide_slice u22 hv
 obtain ⟨fuel, h⟩ := h
 rcases Go.Deep.open_slice u22 h with ⟨hcs, _⟩ | ⟨a', len, cap, m, n, D, Pl, hcs, _, hl, hm, hmm, _, hx⟩
 · simp only [Value.cells, List.cons.injEq, and_true] at hcs
   exact .inl hcs
 simp only [Value.cells, List.cons.injEq, and_true] at hcs
 refine .inr ⟨a', len, cap, ?_⟩
 have hmc : m = cap := by simpa using hmm
 subst hmc
 have each : ∀ i, i < m → ∃ q : Dg, w.cell? (a'.add (i * 3)) = some (.string ⟨q.1.toArray⟩) ∧ w.cell? (a'.add (i * 3 + 1)) = some (.int .i64 q.2.1) ∧ w.cell? (a'.add (i * 3 + 2)) = some (.int .i64 q.2.2) := by
  intro i hi
  obtain ⟨cs', h1, h2⟩ := hx i hi
  rw [c35] at h1
  obtain ⟨_, hlen, hcell⟩ := World.cells?_some h1
  obtain ⟨xs, k, hk, hxy, _, hxl, hf⟩ := DataW.trod_struct u35 h2
  match cs', hlen with
  | [v0, v1, v2], _ =>
   obtain ⟨g0, q0, r0⟩ := Option.map_eq_some_iff.1 f0
   obtain ⟨g1, q1, r1⟩ := Option.map_eq_some_iff.1 f1
   obtain ⟨g2, q2, r2⟩ := Option.map_eq_some_iff.1 f2
   simp only [Prod.mk.injEq] at r0 r1 r2
   have hn : 2 < xs.length := by
    rw [hxl]
    exact (Array.getElem?_eq_some_iff.1 q2).1
   have k0 := hf 0 g0 q0
   have k1 := hf 1 g1 q1
   have k2 := hf 2 g2 q2
   rw [r0.1, r0.2, c9, List.getElem?_eq_getElem (by omega)] at k0
   rw [r1.1, r1.2, c3, List.getElem?_eq_getElem (by omega)] at k1
   rw [r2.1, r2.2, c3, List.getElem?_eq_getElem (by omega)] at k2
   obtain ⟨n0, e0, _, _⟩ := DataW.trod_string u9 k0
   obtain ⟨n1, e1, _, _⟩ := DataW.trod_int u3 k1
   obtain ⟨n2, e2, _, _⟩ := DataW.trod_int u3 k2
   obtain rfl : v0 = Value.string n0 := (List.cons.inj (show [v0] = [Value.string n0] from e0)).1
   obtain rfl : v1 = Value.int .i64 n1 := (List.cons.inj (show [v1] = [Value.int .i64 n1] from e1)).1
   obtain rfl : v2 = Value.int .i64 n2 := (List.cons.inj (show [v2] = [Value.int .i64 n2] from e2)).1
   have t0 := hcell 0 (by omega)
   have t1 := hcell 1 (by omega)
   have t2 := hcell 2 (by omega)
   rw [add_add] at t0 t1 t2
   refine ⟨(n0.data.toList, n1, n2), ?_, by simpa using t1, by simpa using t2⟩
   rw [Array.toArray_toList]
   simpa using t0
 obtain ⟨q, hq⟩ := Go.Deep.choose_lt each
 refine ⟨q, hcs, hl, hm, fun i hi => ?_⟩
 obtain ⟨g0, g1, g2⟩ := hq (i / 3) (by omega)
 have hr : i % 3 = 0 ∨ i % 3 = 1 ∨ i % 3 = 2 := by omega
 rcases hr with e | e | e
 · rw [show i / 3 * 3 = i by omega] at g0
   rw [g0, e]; rfl
 · rw [show i / 3 * 3 + 1 = i by omega] at g1
   rw [g1, e]; rfl
 · rw [show i / 3 * 3 + 2 = i by omega] at g2
   rw [g2, e]; rfl
theorem zfU {w : World} {v : Value} (h : v = .slice none 0 0 ∨ ∃ (a : Addr) (len cap : Nat) (f : Nat → Dg), v = .slice (some a) len cap ∧ len ≤ cap ∧ cap ≤ maxLen ∧ ∀ i, i < cap * 3 → w.cell? (a.add i) = some (enc (f (i / 3)))[i % 3]!) :
 v = .slice none 0 0 ∨ (∃ a, v = .slice (some a) 0 0) ∨ ∃ (b off len cap : Nat) (f : Nat → Dg), v = .slice (some ⟨b, off, none⟩) len cap ∧ len ≤ cap ∧ (Inp.mk true b (.fn fun j => some (elo f off j)) off (off + cap * 3)).holds w := by
 rcases h with h | ⟨a, len, cap, f, rfl, hl, hm, hc⟩
 · exact .inl h
 by_cases h0 : cap = 0
 · subst h0
   obtain rfl : len = 0 := by omega
   exact .inr (.inl ⟨a, rfl⟩)
 · obtain ⟨b, off, rfl, hi⟩ := zki (g := fun i => el f i) hc (fun i _ => zjI _ f i _ rfl) (by omega)
   exact .inr (.inr ⟨b, off, len, cap, f, rfl, hl, hi⟩)
end Go.Proofs.YtdbfpjgnlfejmaaDoor.dg
end
section
set_option maxRecDepth 100000
set_option linter.unusedVariables false
namespace Go.Proofs.YtdbfpjgnlfejmaaDoor.dg
open Go Ev mq
def wl : List (List UInt8) := [[], [115, 121, 110, 116, 97, 120], [99, 121, 99, 108, 101], [105, 109, 112, 111, 114, 116], [116, 119, 105, 99, 101], [116, 121, 112, 101], [110, 97, 109, 101], [102, 105, 101, 108, 100], [97, 114, 105, 116, 121], [99, 97, 108, 108], [119, 114, 111, 110, 103], [114, 111, 108, 108], [115, 105, 122, 101], [101, 113, 117, 97, 108]]
def wdv (c : Int) : List UInt8 := if 0 ≤ c ∧ c < 14 then wl.getD c.toNat [] else []
theorem zbq (c : Int) : Goal P 0 16 (fun x _ => x = .str (wdv c)) (zc P 16 [.int .i64 c] GW) := by
 by_cases h1 : c < 0
 · have e : wdv c = [] := if_neg (by omega)
   rw [e]
   exact Obl.goal (K := Goal P 0 16 _) mix (fun _ h => h) (cast (wdy (fun v => v = .str []) c _).symm ⟨decide_eq_true h1, rfl⟩)
 · by_cases h2 : c ≥ 14
   · have e : wdv c = [] := if_neg (by omega)
     rw [e]
     exact Obl.goal (K := Goal P 0 16 _) mix (fun _ h => h) (cast (wdny (fun v => v = .str []) c _).symm ⟨decide_eq_false h1, decide_eq_true h2, rfl⟩)
   · have hc : c = 0 ∨ c = 1 ∨ c = 2 ∨ c = 3 ∨ c = 4 ∨ c = 5 ∨ c = 6 ∨ c = 7 ∨ c = 8 ∨ c = 9 ∨ c = 10 ∨ c = 11 ∨ c = 12 ∨ c = 13 := by omega
     rcases hc with rfl | rfl | rfl | rfl | rfl | rfl | rfl | rfl | rfl | rfl | rfl | rfl | rfl | rfl <;> exact Goal.ofRun mix (n := 60) (by kernel_rfl) fun _ => rfl
theorem zfa (c : Int) : (!(wdv c == ([] : List UInt8))) = decide (1 ≤ c ∧ c ≤ 13) := by
 by_cases h1 : c < 0 ∨ c ≥ 14
 · have e : wdv c = [] := if_neg (by omega)
   rw [e, decide_eq_false (by omega)]
   rfl
 · have hc : c = 0 ∨ c = 1 ∨ c = 2 ∨ c = 3 ∨ c = 4 ∨ c = 5 ∨ c = 6 ∨ c = 7 ∨ c = 8 ∨ c = 9 ∨ c = 10 ∨ c = 11 ∨ c = 12 ∨ c = 13 := by omega
   rcases hc with rfl | rfl | rfl | rfl | rfl | rfl | rfl | rfl | rfl | rfl | rfl | rfl | rfl | rfl <;> rfl
theorem zjW (d : Dg) : Goal P 0 35 (fun x _ => x = .bool (kU d)) (zc P 35 [.agg [.str d.1, .int .i64 d.2.1, .int .i64 d.2.2]] GW) := by
 unfold kU
 by_cases h1 : 1 ≤ d.2.2 ∧ d.2.2 ≤ 13
 · by_cases h2 : 0 ≤ d.2.1
   · by_cases h3 : d.2.1 ≤ 2147483647
     · exact Obl.goal (K := Goal P 0 35 _) mix (fun _ h => h) (cast (myyyy (fun v => v = .bool (decide (1 ≤ d.2.2 ∧ d.2.2 ≤ 13 ∧ 0 ≤ d.2.1 ∧ d.2.1 ≤ 2147483647 ∧ d.1.length ≤ 200))) _ (wdv d.2.2) _ _ _ _).symm ⟨zbq _, by rw [zfa]; exact decide_eq_true h1, decide_eq_true h2, decide_eq_true h3, by
        congr 1
        rw [decide_eq_decide]
        omega⟩)
     · rw [decide_eq_false (by omega)]
       exact Obl.goal (K := Goal P 0 35 _) mix (fun _ h => h) (cast (myyyn (fun v => v = .bool false) _ (wdv d.2.2) _ _ _ _).symm ⟨zbq _, by rw [zfa]; exact decide_eq_true h1, decide_eq_true h2, decide_eq_false h3, rfl⟩)
   · rw [decide_eq_false (by omega)]
     exact Obl.goal (K := Goal P 0 35 _) mix (fun _ h => h) (cast (myyn (fun v => v = .bool false) _ (wdv d.2.2) _ _ _ _).symm ⟨zbq _, by rw [zfa]; exact decide_eq_true h1, decide_eq_false h2, rfl⟩)
 · rw [decide_eq_false (by omega)]
   exact Obl.goal (K := Goal P 0 35 _) mix (fun _ h => h) (cast (myn (fun v => v = .bool false) _ (wdv d.2.2) _ _ _ _).symm ⟨zbq _, by rw [zfa]; exact decide_eq_false h1, rfl⟩)
noncomputable def HC (f : Nat → Dg) (y : Nat) (G : T (T AV)) : AHeap := ⟨(.node .leaf (some (.cells (.fn fun c => some (el f c)) y 35 0 0 1 0 false .leaf)) .leaf), 1, G⟩
theorem up1 (k : Nat) (h : k < 1000000) : IntKind.i64.wrap ((k : Int) + 1) = ((k + 1 : Nat) : Int) := by rw [IntWalk.i64_in _ (by omega)]; omega
theorem dn1 (k : Nat) (h : k < 1000000) (h0 : 0 < k) : IntKind.i64.wrap ((k : Int) - 1) = ((k - 1 : Nat) : Int) := by rw [IntWalk.i64_in _ (by omega)]; omega
theorem zmy {x p : Dg} {r : List Dg} (h : x = p) : dl p (x :: r) = dl x r := by
 show (if x = p then dl x r else x :: dl x r) = _
 rw [if_pos h]
theorem zmt {x p : Dg} {r : List Dg} (h : ¬ x = p) : dl p (x :: r) = x :: dl x r := by
 show (if x = p then dl x r else x :: dl x r) = _
 rw [if_neg h]
theorem zd8 {y n k0 : Nat} {G : T (T AV)} {F : List Dg} (hy : n * 3 ≤ y) (hn : n < 1000000) :
 ∀ r w j k2 (g : Nat → Dg), j + r = n → j = k0 + k2 → 0 < k2 → 0 < w → w + 1 ≤ j → sl g 0 w ++ dl (g (j - 1)) (sl g j r) = F →
  ∃ f' m, 0 < m ∧ m ≤ n ∧ sl f' 0 m = F ∧ Goal P 1 44 (fun v h => v = .slg 0 0 0 m 0 ∧ h = HC f' y G) (CoB (el g) (w : Int) (k2 : Int) n y k0 G)
 | 0, w, j, k2, g, hj, hk, h2, h0, hw, hF => by
  obtain rfl : j = n := by omega
  refine ⟨clr g w j zd, w, h0, by omega, ?_, ?_⟩
  · rw [← hF]
    show _ = sl g 0 w ++ []
    rw [List.append_nil]
    exact xA w 0 fun t h1 h2 => by unfold clr; rw [if_neg (by omega)]
  · exact Obl.goal (K := Goal P 1 44 _) mix (fun _ h => h) (cast (cdn (fun v h => v = .slg 0 0 0 w 0 ∧ h = HC (clr g w j zd) y G) (el g) (el (clr g w j zd)) [] [] 0 0 0 0 _ _ _ _ _ false _ _).symm
     ⟨decide_eq_false (by omega), ⟨by omega, by omega⟩, ⟨by rw [Int.toNat_natCast]; omega, by rw [Int.toNat_natCast]; omega, by omega⟩, zmz g w j y, rfl, ⟨by omega, by omega⟩, rfl, rfl⟩)
 | r + 1, w, j, k2, g, hj, hk, h2, h0, hw, hF => by
  have hF : sl g 0 w ++ dl (g (j - 1)) (g j :: sl g (j + 1) r) = F := hF
  have e2 := dn1 k2 (by omega) h2
  have a1 : AV.agg [el g (0 + k0 * 3 + ((k2 : Int)).toNat * 3), el g (0 + k0 * 3 + ((k2 : Int)).toNat * 3 + 1), el g (0 + k0 * 3 + ((k2 : Int)).toNat * 3 + 2)] = AV.agg [.str (g j).1, .int .i64 (g j).2.1, .int .i64 (g j).2.2] := by
   rw [← xI g j, Int.toNat_natCast, show 0 + k0 * 3 + k2 * 3 = 0 + j * 3 by omega]
  have a2 : AV.agg [el g (0 + k0 * 3 + (IntKind.i64.wrap ((k2 : Int) - 1)).toNat * 3), el g (0 + k0 * 3 + (IntKind.i64.wrap ((k2 : Int) - 1)).toNat * 3 + 1), el g (0 + k0 * 3 + (IntKind.i64.wrap ((k2 : Int) - 1)).toNat * 3 + 2)] = AV.agg [.str (g (j - 1)).1, .int .i64 (g (j - 1)).2.1, .int .i64 (g (j - 1)).2.2] := by
   rw [← xI g (j - 1), e2, Int.toNat_natCast, show 0 + k0 * 3 + (k2 - 1) * 3 = 0 + (j - 1) * 3 by omega]
  by_cases he : g j = g (j - 1)
  · obtain ⟨f', m, q0, q1, q2, q3⟩ := zd8 (k0 := k0) (G := G) (F := F) hy hn r w (j + 1) (k2 + 1) g (by omega) (by omega) (by omega) h0 (by omega) (by
     rw [← hF, zmy he, Nat.add_sub_cancel])
    refine ⟨f', m, q0, q1, q2, Obl.goal (K := Goal P 1 44 _) mix (fun _ h => h) (cast (ccyn (fun v h => v = .slg 0 0 0 m 0 ∧ h = HC f' y G) (el g) (el g) _ _ _ _ _ _ _ _ _ _ _ false _ _).symm
     ⟨decide_eq_true (by omega), ⟨by omega, by omega⟩, by rw [Int.toNat_natCast]; omega, a1, by rw [e2]; omega, by rw [e2, Int.toNat_natCast]; omega, a2, fun h => by rw [ne35, decide_eq_true he]; rfl, rfl, ze _, ?_⟩)⟩
    rw [up1 k2 (by omega)]
    exact q3
  · obtain ⟨f', m, q0, q1, q2, q3⟩ := zd8 (k0 := k0) (G := G) (F := F) hy hn r (w + 1) (j + 1) (k2 + 1) (upd g w (g j)) (by omega) (by omega) (by omega) (by omega) (by omega) (by
     rw [← hF, zmt he, yP, Nat.zero_add, Nat.add_sub_cancel, List.append_assoc, List.singleton_append]
     have e1 : upd g w (g j) w = g j := by unfold upd; rw [if_pos rfl]
     have e3 : upd g w (g j) j = g j := by unfold upd; rw [if_neg (by omega)]
     rw [e1, e3, xA (s := upd g w (g j)) (s' := g) w 0 fun t h1 h2 => by unfold upd; rw [if_neg (by omega)],
      xA (s := upd g w (g j)) (s' := g) r (j + 1) fun t h1 h2 => by unfold upd; rw [if_neg (by omega)]])
    refine ⟨f', m, q0, q1, q2, Obl.goal (K := Goal P 1 44 _) mix (fun _ h => h) (cast (ccyy (fun v h => v = .slg 0 0 0 m 0 ∧ h = HC f' y G) (el g) (el (upd g w (g j))) _ _ _ _ _ _ _ _ _ _ _ true _ _).symm
     ⟨decide_eq_true (by omega), ⟨by omega, by omega⟩, by rw [Int.toNat_natCast]; omega, a1, by rw [e2]; omega, by rw [e2, Int.toNat_natCast]; omega, a2, fun h => by rw [ne35, decide_eq_false he]; rfl, rfl, ⟨by omega, by omega⟩, by rw [Int.toNat_natCast]; omega, a1, ⟨by omega, by omega⟩,
      ⟨trivial, by show 0 + ((w : Int)).toNat * 3 + 3 ≤ y; rw [Int.toNat_natCast]; omega, by omega⟩, zmh g w (g j) y, rfl, ze _, ?_⟩)⟩
    rw [up1 k2 (by omega), up1 w (by omega)]
    exact q3
theorem zgK {y n : Nat} {f : Nat → Dg} {G : T (T AV)} {F : List Dg} (hy : n * 3 ≤ y) (hn : n < 1000000) :
 ∀ r k, k + r = n → 0 < k → sl f 0 k ++ dl (f (k - 1)) (sl f k r) = F →
  ∃ f' m, 0 < m ∧ m ≤ n ∧ sl f' 0 m = F ∧ Goal P 1 44 (fun v h => v = .slg 0 0 0 m 0 ∧ h = HC f' y G) (CoA (el f) (k : Int) n y G)
 | 0, k, hk, h0, hF => by
  obtain rfl : k = n := by omega
  refine ⟨f, k, h0, Nat.le_refl _, by rw [← hF]; exact (List.append_nil _).symm, ?_⟩
  exact Obl.goal (K := Goal P 1 44 _) mix (fun _ h => h) (cast (cbn (fun v h => v = .slg 0 0 0 k 0 ∧ h = HC f y G) (el f) (el f) [] [] 0 0 0 0 _ 0 _ _ 0 false _ _).symm ⟨decide_eq_false (by omega), rfl, rfl⟩)
 | r + 1, k, hk, h0, hF => by
  have hF : sl f 0 k ++ dl (f (k - 1)) (f k :: sl f (k + 1) r) = F := hF
  have e2 := dn1 k (by omega) h0
  have a1 := xI f k
  have a2 : AV.agg [el f (0 + (IntKind.i64.wrap ((k : Int) - 1)).toNat * 3), el f (0 + (IntKind.i64.wrap ((k : Int) - 1)).toNat * 3 + 1), el f (0 + (IntKind.i64.wrap ((k : Int) - 1)).toNat * 3 + 2)] = AV.agg [.str (f (k - 1)).1, .int .i64 (f (k - 1)).2.1, .int .i64 (f (k - 1)).2.2] := by
   rw [← xI f (k - 1), e2, Int.toNat_natCast]
  by_cases he : f k = f (k - 1)
  · obtain ⟨f', m, q0, q1, q2, q3⟩ := zd8 (y := y) (n := n) (k0 := k) (G := G) (F := F) hy hn r k (k + 1) 1 f (by omega) (by omega) (by omega) h0 (by omega) (by
     rw [← hF, zmy he, Nat.add_sub_cancel])
    exact ⟨f', m, q0, q1, q2, Obl.goal (K := Goal P 1 44 _) mix (fun _ h => h) (cast (cbyy (fun v h => v = .slg 0 0 0 m 0 ∧ h = HC f' y G) (el f) (el f) _ _ _ _ _ _ _ 0 _ _ 0 true _ _).symm
     ⟨decide_eq_true (by omega), ⟨by omega, by omega⟩, by rw [Int.toNat_natCast]; omega, a1, by rw [e2]; omega, by rw [e2, Int.toNat_natCast]; omega, a2, fun h => by rw [zmu, decide_eq_true he], rfl, ⟨by omega, by omega⟩, ze _, q3⟩)⟩
  · obtain ⟨f', m, q0, q1, q2, q3⟩ := zgK (f := f) (G := G) (F := F) hy hn r (k + 1) (by omega) (by omega) (by
     rw [← hF, zmt he, yP, Nat.zero_add, Nat.add_sub_cancel, List.append_assoc, List.singleton_append])
    refine ⟨f', m, q0, q1, q2, Obl.goal (K := Goal P 1 44 _) mix (fun _ h => h) (cast (cbyn (fun v h => v = .slg 0 0 0 m 0 ∧ h = HC f' y G) (el f) (el f) _ _ _ _ _ _ _ 0 _ _ 0 false _ _).symm
     ⟨decide_eq_true (by omega), ⟨by omega, by omega⟩, by rw [Int.toNat_natCast]; omega, a1, by rw [e2]; omega, by rw [e2, Int.toNat_natCast]; omega, a2, fun h => by rw [zmu, decide_eq_false he], rfl, ze _, ?_⟩)⟩
    rw [up1 k (by omega)]
    exact q3
theorem zfw {y n : Nat} {f : Nat → Dg} {G : T (T AV)} (h0 : 0 < n) (hy : n * 3 ≤ y) (hn : n < 1000000) :
 ∃ f' m, 0 < m ∧ m ≤ n ∧ sl f' 0 m = ded (sl f 0 n) ∧ Goal P 1 44 (fun v h => v = .slg 0 0 0 m 0 ∧ h = HC f' y G) (zg P 44 [.slg 0 0 0 n 0] (HC f y G)) := by
 obtain ⟨r, rfl⟩ : ∃ r, n = r + 1 := ⟨n - 1, by omega⟩
 by_cases h : r = 0
 · subst h
   exact ⟨f, 1, by omega, by omega, rfl, Obl.goal (K := Goal P 1 44 _) mix (fun _ h => h) (cast (cay (fun v h => v = .slg 0 0 0 1 0 ∧ h = HC f y G) (el f) (el f) [] [] 0 0 0 0 0 0 _ _ 0 false _ _).symm ⟨decide_eq_true (by omega), rfl, rfl⟩)⟩
 · obtain ⟨f', m, q0, q1, q2, q3⟩ := zgK (y := y) (n := r + 1) (f := f) (G := G) (F := ded (sl f 0 (r + 1))) hy hn r 1 (by omega) (by omega) rfl
   exact ⟨f', m, q0, q1, q2, Obl.goal (K := Goal P 1 44 _) mix (fun _ h => h) (cast (can (fun v h => v = .slg 0 0 0 m 0 ∧ h = HC f' y G) (el f) (el f) [] [] 0 0 0 0 0 0 _ _ 0 false _ _).symm ⟨decide_eq_false (by omega), ze _, q3⟩)⟩
noncomputable def HCo (f : Nat → Dg) (off z : Nat) : AHeap := ⟨(.node .leaf (some (.cells (.fn fun c => some (el f c)) z 35 0 0 1 0 false .leaf)) .leaf), 1, GW⟩
noncomputable def HCw (f f' : Nat → Dg) (off z y : Nat) : AHeap := ⟨(.node (.node .leaf (some (.cells (.fn fun c => some (el f' c)) y 35 0 0 1 0 false .leaf)) .leaf) (some (.cells (.fn fun c => some (el f c)) z 35 0 0 1 0 false .leaf)) .leaf), 2, GW⟩
def SoC (f : Nat → Dg) (n off z : Nat) (m : AM) : Prop :=
 (So (sl f 0 n) [] ∧ Goal P 1 12 (fun v h => v = .nils 0 0 ∧ h = HCo f off z) m) ∨
  ∃ f' k y, 0 < k ∧ k ≤ n ∧ k * 3 ≤ y ∧ So (sl f 0 n) (sl f' 0 k) ∧ Goal P 1 12 (fun v h => v = .slg 1 0 0 k 0 ∧ h = HCw f f' off z y) m
theorem zdK {off z n cp : Nat} {f : Nat → Dg} (hz : n * 3 ≤ z) (hn : n < 100000) :
 ∀ r i m y (g : Nat → Dg), i + r = n → 0 < m → m ≤ i → y = m * 3 → sl g 0 m = (sl f 0 i).filter kU → SoC f n off z (SCb (el f) (el g) (i : Int) n m cp off off z y GW)
 | 0, i, m, y, g, hi, h0, hm, hy, hg => by
  obtain rfl : i = n := by omega
  subst hy
  obtain ⟨f2, u1, u2, u3⟩ := zjD g m (m * 3) h0 (Nat.le_refl _) (by omega) (HCw f g off z (m * 3)) 1 (by kernel_rfl)
  obtain ⟨f3, k, k0, k1, k2, k3⟩ := zfw (y := m * 3) (n := m) (f := f2) (G := GW) h0 (Nat.le_refl _) (by omega)
  have hput : (HCw f g off z (m * 3)).put 1 (.cells (.fn fun c => some (el f2 c)) (m * 3) 35 0 0 1 0 false .leaf) = HCw f f2 off z (m * 3) := by kernel_rfl
  rw [hput] at u3
  refine .inr ⟨f3, k, m * 3, k0, by omega, by omega, ⟨by rw [k2]; exact zk0 u1, fun x => by rw [k2, zlg, u2, hg, List.mem_filter]⟩, ?_⟩
  exact Obl.goal (K := Goal P 1 12 _) mix (fun _ h => h) (cast (Cbn (fun v h => v = .slg 1 0 0 k 0 ∧ h = HCw f f3 off z (m * 3)) (el f) (el g) (el f2) (el f3) [] 0 0 _ _ _ _ off off z _ k false _ _).symm
   ⟨decide_eq_false (by omega), u3, ze _, ze _, k3, rfl, rfl⟩)
 | r + 1, i, m, y, g, hi, h0, hm, hy, hg => by
  have hfl : (sl f 0 (i + 1)).filter kU = (sl f 0 i).filter kU ++ [f i].filter kU := by rw [yP, Nat.zero_add, List.filter_append]
  have hmay := zjW (f i)
  by_cases hb : kU (f i) = true
  · have ih := zdK (off := off) (cp := cp) (f := f) hz hn r (i + 1) (m + 1) (0 + m * 3 + 3) (upd g m (f i)) (by omega) (by omega) (by omega) (by omega) (by
     rw [hfl, List.filter_cons_of_pos hb, List.filter_nil, ← hg, yP, Nat.zero_add]
     have e1 : upd g m (f i) m = f i := by unfold upd; rw [if_pos rfl]
     rw [e1, xA (s := upd g m (f i)) (s' := g) m 0 fun t h1 h2 => by unfold upd; rw [if_neg (by omega)]])
    have goal : ∀ R : AV → AHeap → Prop, Goal P 1 12 R (SCb (el f) (el (upd g m (f i))) ((i + 1 : Nat) : Int) n (m + 1) cp off off z (0 + m * 3 + 3) GW) → Goal P 1 12 R (SCb (el f) (el g) (i : Int) n m cp off off z y GW) := fun R h =>
     Obl.goal (K := Goal P 1 12 R) mix (fun _ h => h) (cast (Cbyy R (el f) (el g) (el (upd g m (f i))) (el g) _ _ _ _ _ _ _ off off z _ 0 true _ _).symm
      ⟨decide_eq_true (by omega), ⟨by omega, by omega⟩, by rw [Int.toNat_natCast]; omega, xI f i, by rw [hb] at hmay; exact hmay, rfl,
       ⟨⟨by rw [yC]; omega, fun k hk => by
        rw [yC] at hk
        have hr : k = 0 ∨ k = 1 ∨ k = 2 := by omega
        rcases hr with h | h | h <;> subst h <;> exact ⟨_, rfl, rfl⟩⟩, by omega, by omega, by omega, by omega, by
         unfold zR
         rw [Bool.and_eq_true, Nat.ble_eq, Nat.blt_eq]
         constructor <;> omega, by omega⟩, zcC g m _ _ _ yC, rfl, ze _, ze _, by rw [up1 i (by omega)]; exact h⟩)
    rcases ih with ⟨h1, h2⟩ | ⟨f', k, y', h1, h2, h3, h4, h5⟩
    · exact .inl ⟨h1, goal _ h2⟩
    · exact .inr ⟨f', k, y', h1, h2, h3, h4, goal _ h5⟩
  · have ih := zdK (off := off) (cp := cp) (f := f) hz hn r (i + 1) m y g (by omega) h0 (by omega) hy (by
     rw [hfl, List.filter_cons_of_neg hb, List.filter_nil, List.append_nil, ← hg])
    have goal : ∀ R : AV → AHeap → Prop, Goal P 1 12 R (SCb (el f) (el g) ((i + 1 : Nat) : Int) n m cp off off z y GW) → Goal P 1 12 R (SCb (el f) (el g) (i : Int) n m cp off off z y GW) := fun R h =>
     Obl.goal (K := Goal P 1 12 R) mix (fun _ h => h) (cast (Cbyn R (el f) (el g) (el g) (el g) _ _ _ _ _ _ _ off off z _ 0 false _ _).symm
      ⟨decide_eq_true (by omega), ⟨by omega, by omega⟩, by rw [Int.toNat_natCast]; omega, xI f i, by rw [Bool.not_eq_true] at hb; rw [hb] at hmay; exact hmay, rfl, ze _, ze _, by rw [up1 i (by omega)]; exact h⟩)
    rcases ih with ⟨h1, h2⟩ | ⟨f', k, y', h1, h2, h3, h4, h5⟩
    · exact .inl ⟨h1, goal _ h2⟩
    · exact .inr ⟨f', k, y', h1, h2, h3, h4, goal _ h5⟩
theorem zh3 {off z n cp : Nat} {f : Nat → Dg} (hz : n * 3 ≤ z) (hn : n < 100000) :
 ∀ r i, i + r = n → (sl f 0 i).filter kU = [] → SoC f n off z (SCa (el f) (i : Int) n cp off off z GW)
 | 0, i, hi, hg => by
  obtain rfl : i = n := by omega
  refine .inl ⟨⟨.nil, fun x => by rw [← List.mem_filter, hg]⟩, ?_⟩
  exact Obl.goal (K := Goal P 1 12 _) mix (fun _ h => h) (cast (Can (fun v h => v = .nils 0 0 ∧ h = HCo f off z) (el f) (el f) (el f) (el f) [] 0 0 _ _ 0 cp off off z 0 0 false _ _).symm ⟨decide_eq_false (by omega), rfl, rfl⟩)
 | r + 1, i, hi, hg => by
  have hfl : (sl f 0 (i + 1)).filter kU = (sl f 0 i).filter kU ++ [f i].filter kU := by rw [yP, Nat.zero_add, List.filter_append]
  have hmay := zjW (f i)
  by_cases hb : kU (f i) = true
  · have ih := zdK (off := off) (cp := cp) (f := f) hz hn r (i + 1) 1 3 (fun _ => f i) (by omega) (by omega) (by omega) (by omega) (by
     rw [hfl, List.filter_cons_of_pos hb, List.filter_nil, hg]; rfl)
    have goal : ∀ R : AV → AHeap → Prop, Goal P 1 12 R (SCb (el f) (el fun _ => f i) ((i + 1 : Nat) : Int) n 1 cp off off z 3 GW) → Goal P 1 12 R (SCa (el f) (i : Int) n cp off off z GW) := fun R h =>
     Obl.goal (K := Goal P 1 12 R) mix (fun _ h => h) (cast (Cayy R (el f) (el fun _ => f i) (el f) (el f) _ _ _ _ _ 0 cp off off z 0 0 true _ _).symm
      ⟨decide_eq_true (by omega), ⟨by omega, by omega⟩, by rw [Int.toNat_natCast]; omega, xI f i, by rw [hb] at hmay; exact hmay, rfl, zaO _ _ _, rfl, ze _, ze _, by rw [up1 i (by omega)]; exact h⟩)
    rcases ih with ⟨h1, h2⟩ | ⟨f', k, y', h1, h2, h3, h4, h5⟩
    · exact .inl ⟨h1, goal _ h2⟩
    · exact .inr ⟨f', k, y', h1, h2, h3, h4, goal _ h5⟩
  · have ih := zh3 (off := off) (cp := cp) (f := f) hz hn r (i + 1) (by omega) (by
     rw [hfl, List.filter_cons_of_neg hb, List.filter_nil, List.append_nil, hg])
    have goal : ∀ R : AV → AHeap → Prop, Goal P 1 12 R (SCa (el f) ((i + 1 : Nat) : Int) n cp off off z GW) → Goal P 1 12 R (SCa (el f) (i : Int) n cp off off z GW) := fun R h =>
     Obl.goal (K := Goal P 1 12 R) mix (fun _ h => h) (cast (Cayn R (el f) (el f) (el f) (el f) _ _ _ _ _ 0 cp off off z 0 0 false _ _).symm
      ⟨decide_eq_true (by omega), ⟨by omega, by omega⟩, by rw [Int.toNat_natCast]; omega, xI f i, by rw [Bool.not_eq_true] at hb; rw [hb] at hmay; exact hmay, rfl, ze _, by rw [up1 i (by omega)]; exact h⟩)
    rcases ih with ⟨h1, h2⟩ | ⟨f', k, y', h1, h2, h3, h4, h5⟩
    · exact .inl ⟨h1, goal _ h2⟩
    · exact .inr ⟨f', k, y', h1, h2, h3, h4, goal _ h5⟩
theorem ze7 {off z n cp : Nat} {f : Nat → Dg} (hz : n * 3 ≤ z) (hn : n < 100000) : SoC f n off z (zg P 12 [.slg 0 0 0 n 0] (HCo f off z)) := by
 have goal : ∀ R : AV → AHeap → Prop, Goal P 1 12 R (SCa (el f) ((0 : Nat) : Int) n cp off off z GW) → Goal P 1 12 R (zg P 12 [.slg 0 0 0 n 0] (HCo f off z)) := fun R h =>
  Obl.goal (K := Goal P 1 12 R) mix (fun _ h => h) (cast (Cst R (el f) (el f) (el f) (el f) [] 0 0 0 n 0 cp off off z 0 0 false GW _).symm ⟨ze _, h⟩)
 rcases zh3 (off := off) (cp := cp) (f := f) hz hn n 0 (by omega) rfl with ⟨h1, h2⟩ | ⟨f', k, y', h1, h2, h3, h4, h5⟩
 · exact .inl ⟨h1, goal _ h2⟩
 · exact .inr ⟨f', k, y', h1, h2, h3, h4, goal _ h5⟩
end Go.Proofs.YtdbfpjgnlfejmaaDoor.dg
end
section
set_option maxRecDepth 100000
set_option linter.unusedVariables false
namespace Go.Proofs.YtdbfpjgnlfejmaaDoor.dg
open Go Ev mq
noncomputable def BS : Nat := P.types[5].size
theorem BS_eq : BS = 1 := by kernel_rfl
noncomputable def ECa (cell cell' : Nat → AV) (s : List UInt8) (L : Nat) (i : Int) (m lo z y N : Nat) (G : T (T AV)) : AM := ⟨⟨14, 34, (.node (.node (.node (.node (.node .leaf (some (.int .i64 (↑m : Int))) .leaf) none .leaf) none .leaf) none .leaf) none (.node (.node (.node (.node .leaf (some (.int .i64 i)) .leaf) none .leaf) (some (.ptr 1 0 0)) .leaf) none (.node .leaf none (.node .leaf (some (.slg 2 0 0 m 0)) .leaf)))),
 [.code (cd P (14 : Nat) [(1 : Nat), (1 : Nat), (1 : Nat), (1 : Nat), (0 : Nat), (1 : Nat), (0 : Nat), (0 : Nat)]), .inLoop (cd P (14 : Nat) [(1 : Nat), (1 : Nat), (1 : Nat), (1 : Nat), (0 : Nat), (1 : Nat), (0 : Nat), (0 : Nat)]), .inBlock 0, .code (cd P (14 : Nat) [(1 : Nat), (1 : Nat), (1 : Nat), (1 : Nat), (1 : Nat)])], [], .run, CallKind.normal, none⟩,
 [],
 ⟨(.node (.node (.node .leaf (some (.cells (.fn fun k => some (AV.int IntKind.u8 (↑(s.getD k (0 : UInt8)).toNat : Int))) N 5 0 0 1 0 false .leaf)) .leaf) (some (.cells (.node (.node .leaf (some (.slg 3 0 0 L 0)) .leaf) (some (.ptr 1 0 0)) .leaf) 2 69 0 0 1 0 false .leaf)) .leaf) (some (.cells (.fn fun c => some (cell c)) z 35 0 0 1 0 false .leaf)) (.node .leaf (some (.cells (.fn fun c => some (cell' c)) y 35 0 0 1 0 false .leaf)) .leaf)), 4, G⟩⟩
noncomputable def ECn (cell : Nat → AV) (s : List UInt8) (L lo z N : Nat) (G : T (T AV)) : AM := ⟨⟨14, 34, (.node (.node (.node (.node (.node .leaf (some (.int .i64 0)) .leaf) none .leaf) none .leaf) none .leaf) none (.node (.node (.node (.node .leaf (some (.int .i64 0)) .leaf) none .leaf) (some (.ptr 1 0 0)) .leaf) none (.node .leaf none (.node .leaf (some (.nils 0 0)) .leaf)))),
 [.code (cd P (14 : Nat) [(1 : Nat), (1 : Nat), (1 : Nat), (1 : Nat), (0 : Nat), (1 : Nat), (0 : Nat), (0 : Nat)]), .inLoop (cd P (14 : Nat) [(1 : Nat), (1 : Nat), (1 : Nat), (1 : Nat), (0 : Nat), (1 : Nat), (0 : Nat), (0 : Nat)]), .inBlock 0, .code (cd P (14 : Nat) [(1 : Nat), (1 : Nat), (1 : Nat), (1 : Nat), (1 : Nat)])], [], .run, CallKind.normal, none⟩,
 [],
 ⟨(.node (.node .leaf (some (.cells (.node (.node .leaf (some (.slg 2 0 0 L 0)) .leaf) (some (.ptr 1 0 0)) .leaf) 2 69 0 0 1 0 false .leaf)) .leaf) (some (.cells (.fn fun c => some (cell c)) z 35 0 0 1 0 false .leaf)) (.node .leaf (some (.cells (.fn fun k => some (AV.int IntKind.u8 (↑(s.getD k (0 : UInt8)).toNat : Int))) N 5 0 0 1 0 false .leaf)) .leaf)), 3, G⟩⟩
section
set_option linter.unusedSectionVars false
variable (R : AV → AHeap → Prop) (cell cell' : Nat → AV) (u u' : Nat → Int) (s p w t t2 : List UInt8) (a c i : Int) (n m cp z y lo off N L : Nat) (b : Bool) (G : T (T AV)) (K : AM → Prop)
include R cell cell' u u' s p w t t2 a c i n m cp z y lo off N L b G K
theorem esC : Obl P 14 (fun v h => R v h) 1 K [.run 8, (.callh [(0, 0, [])] [0] (.slg 1 0 0 m 0) ⟨(.node (.node .leaf (some (.cells (.fn fun c => some (cell' c)) y 35 0 0 1 0 false .leaf)) .leaf) (some (.cells (.fn fun c => some (cell c)) z 35 0 0 1 0 false .leaf)) .leaf), 2, G⟩), .run 12, (.callv [0, 1] (.str w)), .run 40, .opw false, .run 23, .can 1 [0, 2, 1, 3] [4, 14, 15, 16] []] ((zg P 14 [.slg 0 0 0 n 0] ⟨(.node .leaf (some (.cells (.fn fun c => some (cell c)) z 35 0 0 1 0 false .leaf)) .leaf), 1, G⟩)) = ((za fun c => some (cell c)) ∧ (za fun c => some (cell c)) ∧ (za fun c => some (cell' c)) ∧ (Goal P (1) 12 (fun x k => x = AV.slg 1 0 0 m 0 ∧ k = { objs := (T.leaf.node (some (AObj.cells (T.fn fun c => some (cell' c)) y (35 : TypeId) 0 0 1 0 false T.leaf)) T.leaf).node (some (AObj.cells (T.fn fun c => some (cell c)) z (35 : TypeId) 0 0 1 0 false T.leaf)) T.leaf, next := 2, glob := G }) (zg P 12 [.slg 0 0 0 n 0] ⟨(.node .leaf (some (.cells (.fn fun c => some (cell c)) z 35 0 0 1 0 false .leaf)) .leaf), 1, G⟩)) ∧ (Goal P (0) 48 (fun x _ => x = AV.str w) (zc P 48 [.str [], .int .u64 (IntKind.u64.wrap (↑m : Int))] G)) ∧ (w.length ≤ w.length ∧ 0 < w.length ∧ zR w.length (1) = true) ∧ (za fun c => some (cell c)) ∧ (za fun c => some (cell' c)) ∧ (za fun k => some (AV.int IntKind.u8 (↑(w.getD k (0 : UInt8)).toNat : Int))) ∧ K (ECa cell cell' w w.length (Int.ofNat (0)) m cp z y (w.length * 1) G)) := by kernel_rfl
theorem ezC : Obl P 14 (fun v h => R v h) 1 K [.run 8, (.callh [(0, 0, [])] [0] (.nils 0 0) ⟨(.node .leaf (some (.cells (.fn fun c => some (cell c)) z 35 0 0 1 0 false .leaf)) .leaf), 1, G⟩), .run 12, (.callv [0, 1] (.str w)), .run 40, .opw false, .run 23, .can 1 [0, 1, 2] [4, 14, 15, 16] []] ((zg P 14 [.slg 0 0 0 n 0] ⟨(.node .leaf (some (.cells (.fn fun c => some (cell c)) z 35 0 0 1 0 false .leaf)) .leaf), 1, G⟩)) = ((za fun c => some (cell c)) ∧ (za fun c => some (cell c)) ∧ (Goal P (1) 12 (fun x k => x = AV.nils 0 0 ∧ k = { objs := T.leaf.node (some (AObj.cells (T.fn fun c => some (cell c)) z (35 : TypeId) 0 0 1 0 false T.leaf)) T.leaf, next := 1, glob := G }) (zg P 12 [.slg 0 0 0 n 0] ⟨(.node .leaf (some (.cells (.fn fun c => some (cell c)) z 35 0 0 1 0 false .leaf)) .leaf), 1, G⟩)) ∧ (Goal P (0) 48 (fun x _ => x = AV.str w) (zc P 48 [.str [], .int .u64 0] G)) ∧ (w.length ≤ w.length ∧ 0 < w.length ∧ zR w.length (1) = true) ∧ (za fun c => some (cell c)) ∧ (za fun k => some (AV.int IntKind.u8 (↑(w.getD k (0 : UInt8)).toNat : Int))) ∧ K (ECn cell w w.length cp z (w.length * 1) G)) := by kernel_rfl
theorem eyCy : Obl P 14 (fun v h => R v h) 1 K [.run 5, .know 17 true, .run 6, .op, .op, .slot 19 (.agg [.str p, .int .i64 a, .int .i64 c]), .run 13, (.callv [0, 1] (.str w)), .run 1, (.callv [0, 1] (.str t)), .run 1, (.callv [0, 1] (.str t2)), .run 41, .opw false, .run 20, .told 3 (.fn fun k => some (AV.int IntKind.u8 (↑((s ++ t2).getD k (0 : UInt8)).toNat : Int))) (s ++ t2).length, .can 1 [0, 1, 2, 3] [4, 14, 15, 16] []] ((ECa cell cell' s L i m lo z y N G)) = ((decide (i < (↑m : Int)) = true) ∧ ((0 : Int) ≤ i ∧ i < (↑m : Int)) ∧ (0 + i.toNat * 3 + 3 ≤ y) ∧ (AV.agg [cell' (0 + i.toNat * 3), cell' (0 + i.toNat * 3 + 1), cell' (0 + i.toNat * 3 + 2)] = AV.agg [AV.str p, AV.int IntKind.i64 a, AV.int IntKind.i64 c]) ∧ (Goal P (0) 49 (fun x _ => x = AV.str w) (zc P 49 [.str [], .str p] G)) ∧ (some (AV.int IntKind.u64 (IntKind.u64.wrap c)) = some (AV.int IntKind.u64 (IntKind.u64.wrap c))) ∧ (some (AV.int IntKind.i64 c) = some (AV.int IntKind.i64 c)) ∧ (some (AV.int IntKind.u64 (IntKind.u64.wrap a)) = some (AV.int IntKind.u64 (IntKind.u64.wrap a))) ∧ (some (AV.int IntKind.i64 a) = some (AV.int IntKind.i64 a)) ∧ (Goal P (0) 48 (fun x _ => x = AV.str t) (zc P 48 [.str w, .int .u64 (IntKind.u64.wrap a)] G)) ∧ (some (AV.int IntKind.u64 (IntKind.u64.wrap c)) = some (AV.int IntKind.u64 (IntKind.u64.wrap c))) ∧ (some (AV.int IntKind.i64 c) = some (AV.int IntKind.i64 c)) ∧ (Goal P (0) 48 (fun x _ => x = AV.str t2) (zc P 48 [.str t, .int .u64 (IntKind.u64.wrap c)] G)) ∧ (t2.length ≤ t2.length ∧ 0 < t2.length ∧ 0 + L * 1 ≤ N ∧ 0 ≤ 0 + L * 1 ∧ 0 = 0 * BS ∧ zR (L + t2.length) (1) = true ∧ N < 0 + (L + t2.length) * 1) ∧ (zY ((s ++ t2).length) ((.fn fun k => some (AV.int IntKind.u8 (↑((s ++ t2).getD k (0 : UInt8)).toNat : Int)))) ((.fn fun k => bif (0 + L * BS).ble k && k.blt (0 + L * BS + t2.length * BS) then (fun k => some (AV.int IntKind.u8 (↑(t2.getD k (0 : UInt8)).toNat : Int))) (k - (0 + L * BS)) else (T.fn fun k => some (AV.int IntKind.u8 (↑(s.getD k (0 : UInt8)).toNat : Int))).get k))) ∧ ((s ++ t2).length = 0 + L * 1 + t2.length * 1) ∧ (za fun c => some (cell c)) ∧ (za fun c => some (cell' c)) ∧ (za fun k => some (AV.int IntKind.u8 (↑((s ++ t2).getD k (0 : UInt8)).toNat : Int))) ∧ K (ECa cell cell' (s ++ t2) (L + t2.length) (IntKind.i64.wrap (i + (1 : Int))) m cp z y (s ++ t2).length G)) := by kernel_rfl
end
section
set_option linter.unusedSectionVars false
variable (R : AV → AHeap → Prop) (cell cell' : Nat → AV) (u u' : Nat → Int) (s p w t t2 : List UInt8) (a c i : Int) (n m cp z y lo off N L : Nat) (b : Bool) (G : T (T AV)) (_K : AM → Prop)
include R cell cell' u u' s p w t t2 a c i n m cp z y lo off N L b G _K
theorem exCn : Obl P 14 (fun v h => R v h) 1 _K [.run 5, .know 17 false, .run 15, .slot 6 (.slg 3 0 0 (n + 1) 0), .run 6, .ext s, .run 7, .can 1 [0] [2] [], .done] ((ECa cell cell' s L i m lo z y N G)) = ((decide (i < (↑m : Int)) = false) ∧ (AV.slg (3) (0) (0) L (0) = AV.slg (3) (0) (0) (n + 1) (0)) ∧ ((0 : Int) < (↑L : Int) ∧ (↑L : Int) < (2 : Int) ^ 40 ∧ (↑L : Int).toNat ≤ N ∧ P.cellsOf (5) = 1 ∧ zK (zy (T.fn fun k => some (AV.int IntKind.u8 (↑(s.getD k (0 : UInt8)).toNat : Int))) 0 (↑L : Int).toNat) = some (AV.str s)) ∧ (za fun c => some (cell c)) ∧ (R (.str s) (⟨(.node .leaf (some (.cells (.fn fun c => some (cell c)) z 35 0 0 1 0 false .leaf)) .leaf), 1, G⟩))) := by kernel_rfl
theorem enC : Obl P 14 (fun v h => R v h) 1 _K [.run 20, .slot 6 (.slg 2 0 0 (n + 1) 0), .run 6, .ext s, .run 7, .can 1 [0] [2] [], .done] ((ECn cell s L lo z N G)) = ((AV.slg (2) (0) (0) L (0) = AV.slg (2) (0) (0) (n + 1) (0)) ∧ ((0 : Int) < (↑L : Int) ∧ (↑L : Int) < (2 : Int) ^ 40 ∧ (↑L : Int).toNat ≤ N ∧ P.cellsOf (5) = 1 ∧ zK (zy (T.fn fun k => some (AV.int IntKind.u8 (↑(s.getD k (0 : UInt8)).toNat : Int))) 0 (↑L : Int).toNat) = some (AV.str s)) ∧ (za fun c => some (cell c)) ∧ (R (.str s) (⟨(.node .leaf (some (.cells (.fn fun c => some (cell c)) z 35 0 0 1 0 false .leaf)) .leaf), 1, G⟩))) := by kernel_rfl
theorem ee : Obl P 14 (fun v h => R v h) 0 _K [.run 8, (.callh [] [0] (.nils 0 0) ⟨.leaf, 0, G⟩), .run 12, (.callv [0, 1] (.str w)), .run 40, .opw false, .run 43, .slot 6 (.slg 1 0 0 (n + 1) 0), .run 6, .ext w, .run 7, .can 0 [] [2] [], .done] ((zg P 14 [.nils 0 0] ⟨.leaf, 0, G⟩)) = ((Goal P (0) 12 (fun x k => x = AV.nils 0 0 ∧ k = { objs := T.leaf, next := 0, glob := G }) (zc P 12 [.nils 0 0] G)) ∧ (Goal P (0) 48 (fun x _ => x = AV.str w) (zc P 48 [.str [], .int .u64 0] G)) ∧ (w.length ≤ w.length ∧ 0 < w.length ∧ zR w.length (1) = true) ∧ (AV.slg (1) (0) (0) w.length (0) = AV.slg (1) (0) (0) (n + 1) (0)) ∧ ((0 : Int) < (↑w.length : Int) ∧ (↑w.length : Int) < (2 : Int) ^ 40 ∧ (↑w.length : Int).toNat ≤ w.length * 1 ∧ P.cellsOf (5) = 1 ∧ zK (zy (T.fn fun k => some (AV.int IntKind.u8 (↑(w.getD k (0 : UInt8)).toNat : Int))) 0 (↑w.length : Int).toNat) = some (AV.str w)) ∧ (R (.str w) (⟨.leaf, 0, G⟩))) := by kernel_rfl
end
theorem sortN (R : AV → AHeap → Prop) (G : T (T AV)) (_K : AM → Prop) : Obl P 12 (fun v h => R v h) 0 _K [.run 181, .done] ((zg P 12 [.nils 0 0] ⟨.leaf, 0, G⟩)) = ((R (.nils 0 0) (⟨.leaf, 0, G⟩))) := by kernel_rfl
theorem xB (s : List UInt8) : za fun k => some (AV.int IntKind.u8 ((s.getD k (0 : UInt8)).toNat : Int)) := by
 intro k v h
 cases h
 rfl
theorem zah : ∀ u : List UInt8, qy (zM u) = some u
 | [] => rfl
 | b :: r => by
  have ih := zah r
  unfold qy at ih ⊢
  rw [show zM (b :: r) = .int .u8 b.toNat :: zM r from rfl, qT, ih, show zcA (.int .u8 b.toNat) = some b from by show some (UInt8.ofNat (b.toNat : Int).toNat) = _; rw [Int.toNat_natCast, UInt8.ofNat_toNat]]
theorem w9 (u : List UInt8) (n : Nat) (hn : n = u.length) : zK (zy (T.fn fun k => some (AV.int IntKind.u8 ((u.getD k (0 : UInt8)).toNat : Int))) 0 n) = some (.str u) := by
 subst hn
 obtain ⟨l, h1, h2, h3, h4⟩ := qr (c := T.fn fun k => some (AV.int IntKind.u8 ((u.getD k (0 : UInt8)).toNat : Int))) (off := 0) (n := u.length) (fun k _ => ⟨_, rfl, rfl⟩)
 have hl : l = zM u := by
  refine List.ext_getElem? fun i => ?_
  rcases Nat.lt_or_ge i u.length with hi | hi
  · rw [h4 i (AV.int IntKind.u8 ((u.getD i (0 : UInt8)).toNat : Int)) hi (by rw [Nat.zero_add]; rfl)]
    unfold zM
    rw [List.getElem?_map, List.getElem?_eq_getElem hi, List.getD_eq_getElem?_getD, List.getElem?_eq_getElem hi]
    rfl
  · rw [List.getElem?_eq_none (by omega), List.getElem?_eq_none (by unfold zM; simpa using hi)]
 unfold zK
 rw [h1, hl]
 show zjm (qy (zM u)) = _
 rw [zah]
 rfl
theorem qI (s t : List UInt8) (L : Nat) (hL : L = s.length) {b : Nat} (hb : b = 1) :
 zY ((s ++ t).length) (.fn fun k => some (AV.int IntKind.u8 (((s ++ t).getD k (0 : UInt8)).toNat : Int))) (.fn fun k => bif (0 + L * b).ble k && k.blt (0 + L * b + t.length * b) then (fun k => some (AV.int IntKind.u8 ((t.getD k (0 : UInt8)).toNat : Int))) (k - (0 + L * b)) else (T.fn fun k => some (AV.int IntKind.u8 ((s.getD k (0 : UInt8)).toNat : Int))).get k) := by
 subst hL hb
 intro k v hk h
 have h : some (AV.int IntKind.u8 (((s ++ t).getD k (0 : UInt8)).toNat : Int)) = some v := h
 rw [← h]
 show (bif (0 + s.length * 1).ble k && k.blt (0 + s.length * 1 + t.length * 1) then some (AV.int IntKind.u8 ((t.getD (k - (0 + s.length * 1)) (0 : UInt8)).toNat : Int)) else some (AV.int IntKind.u8 ((s.getD k (0 : UInt8)).toNat : Int))) = _
 rw [List.length_append] at hk
 by_cases hin : s.length ≤ k
 · have e : ((0 + s.length * 1).ble k && k.blt (0 + s.length * 1 + t.length * 1)) = true := by
    rw [Bool.and_eq_true, Nat.ble_eq, Nat.blt_eq]; omega
   rw [e, cond_true, List.getD_eq_getElem?_getD, List.getD_eq_getElem?_getD, List.getElem?_append_right hin, show k - (0 + s.length * 1) = k - s.length by omega]
 · have e : ((0 + s.length * 1).ble k && k.blt (0 + s.length * 1 + t.length * 1)) = false := by
    rw [← Bool.not_eq_true, Bool.and_eq_true, Nat.ble_eq, Nat.blt_eq]; omega
   rw [e, cond_false, List.getD_eq_getElem?_getD, List.getD_eq_getElem?_getD, List.getElem?_append_left (by omega)]
noncomputable def zen (d : Dg) : List UInt8 := [] ++ row (IntKind.u64.wrap d.1.length) ++ d.1
noncomputable def zkW (d : Dg) : List UInt8 := zen d ++ row (IntKind.u64.wrap d.2.1)
noncomputable def one (d : Dg) : List UInt8 := zkW d ++ row (IntKind.u64.wrap d.2.2)
noncomputable def zS (l : List Dg) : List UInt8 := [] ++ row (l.length : Nat) ++ l.flatMap one
theorem xn (n : Int) : 0 < (row n).length := by
 unfold row
 repeat' split
 all_goals simp
theorem zdO {d : Dg} (h : kU d = true) : (one d).length ≤ 227 := by
 have h := of_decide_eq_true h
 have h1 := zh (IntKind.u64.wrap d.1.length)
 have h2 := zh (IntKind.u64.wrap d.2.1)
 have h3 := zh (IntKind.u64.wrap d.2.2)
 unfold one zkW zen
 simp only [List.length_append, List.length_nil]
 omega
theorem zk6 (d : Dg) : 0 < (one d).length := by
 have h1 := xn (IntKind.u64.wrap d.2.2)
 unfold one
 rw [List.length_append]
 omega
theorem yf (n : Int) : 0 ≤ IntKind.u64.wrap n ∧ IntKind.u64.wrap n ≤ 18446744073709551615 := by
 have : IntKind.u64.wrap n = n % 18446744073709551616 := by simp [IntKind.wrap, IntKind.bits, IntKind.signed]
 omega
theorem put0 (n : Int) : Goal P 0 48 (fun x _ => x = .str ([] ++ row (IntKind.u64.wrap n))) (zc P 48 [.str [], .int .u64 (IntKind.u64.wrap n)] GW) :=
 zcU [] _ (yf n).1 (yf n).2 (by show 0 + 9 < _; omega)
theorem room (a : Nat) (h : a < 1000000000) : zR a 1 = true := by
 unfold zR
 rw [Bool.and_eq_true, Nat.ble_eq, Nat.blt_eq]
 constructor <;> omega
theorem zlD (n : Nat) (h : n < 1000000) : IntKind.u64.wrap (n : Int) = n := IntWalk.u64_in _ (by omega)
theorem zhY {m lo z y off : Nat} {f f' : Nat → Dg} (hy : m * 3 ≤ y) (hm : m < 100000) (hmay : ∀ i, i < m → kU (f' i) = true) {S : List UInt8} :
 ∀ r i (s : List UInt8) L N, i + r = m → L = s.length → N = s.length → 0 < s.length → s.length ≤ 9 + i * 227 → s ++ (sl f' i r).flatMap one = S →
  Goal P 1 14 (fun v h => v = .str S ∧ h = HCo f off z) (ECa (el f) (el f') s L (i : Int) m off z y N GW)
 | 0, i, s, L, N, hi, hL, hN, h0, hs, hS => by
  obtain rfl : i = m := by omega
  obtain rfl : s = S := by rw [← hS]; exact (List.append_nil s).symm
  subst hL hN
  obtain ⟨n, hn⟩ : ∃ n, s.length = n + 1 := ⟨s.length - 1, by omega⟩
  exact Obl.goal (K := Goal P 1 14 _) mix (fun _ h => h) (cast (exCn (fun v h => v = .str s ∧ h = HCo f off z) (el f) (el f') (fun _ => 0) (fun _ => 0) s [] [] [] [] 0 0 i n i 0 z y off 0 s.length s.length false GW _).symm
   ⟨decide_eq_false (by omega), by rw [hn], ⟨by omega, by omega, by rw [Int.toNat_natCast]; exact Nat.le_refl _, by kernel_rfl, w9 _ _ (Int.toNat_natCast _)⟩, ze _,  rfl, rfl⟩)
 | r + 1, i, s, L, N, hi, hL, hN, h0, hs, hS => by
  subst hL hN
  have hd := hmay i (by omega)
  have hlen := zdO hd
  have hpos := zk6 (f' i)
  have ih := zhY (lo := lo) (z := z) (off := off) (f := f) hy hm hmay (S := S) r (i + 1) (s ++ one (f' i)) (s.length + (one (f' i)).length) (s ++ one (f' i)).length (by omega) (by rw [List.length_append]) rfl (by rw [List.length_append]; omega) (by rw [List.length_append]; omega) (by
   rw [← hS, List.append_assoc]
   congr 1)
  have hb := of_decide_eq_true hd
  have l1 : (zen (f' i)).length ≤ 209 := by
   have := zh (IntKind.u64.wrap (f' i).1.length)
   unfold zen
   simp only [List.length_append, List.length_nil]
   omega
  have l2 : (zkW (f' i)).length ≤ 218 := by
   have := zh (IntKind.u64.wrap (f' i).2.1)
   unfold zkW
   simp only [List.length_append]
   omega
  exact Obl.goal (K := Goal P 1 14 _) mix (fun _ h => h) (cast (eyCy (fun v h => v = .str S ∧ h = HCo f off z) (el f) (el f') (fun _ => 0) (fun _ => 0) s _ (zen (f' i)) (zkW (f' i)) (one (f' i)) _ _ _ 0 m 0 z y off 0 s.length s.length false GW _).symm
   ⟨decide_eq_true (by omega), ⟨by omega, by omega⟩, by rw [Int.toNat_natCast]; omega, xI f' i, putt [] (f' i).1 (by show 0 + _ + 9 < _; omega), rfl, rfl, rfl, rfl,
    zcU (zen (f' i)) _ (yf _).1 (yf _).2 (by omega), rfl, rfl, zcU (zkW (f' i)) _ (yf _).1 (yf _).2 (by omega),
    ⟨Nat.le_refl _, hpos, by omega, by omega, by omega, room _ (by omega), by omega⟩, qI s (one (f' i)) _ rfl BS_eq, by rw [List.length_append]; omega, ze _,  ze _, xB _, by rw [up1 i (by omega)]; exact ih⟩)
theorem zgB {off z n cp : Nat} {f : Nat → Dg} (hz : n * 3 ≤ z) (hn : n < 100000) {l : List Dg} (hl : So (sl f 0 n) l) :
 Goal P 1 14 (fun v h => v = .str (zS l) ∧ h = HCo f off z) (zg P 14 [.slg 0 0 0 n 0] (HCo f off z)) := by
 rcases ze7 (off := off) (z := z) (n := n) (cp := cp) (f := f) hz hn with ⟨h1, h2⟩ | ⟨f', k, y, h1, h2, h3, h4, h5⟩
 · obtain rfl : l = [] := So.uniq hl h1 fun _ => Iff.rfl
   have e : zS [] = row 0 := by unfold zS; rw [List.flatMap_nil, List.append_nil]; rfl
   have hp := xn 0
   have hlr := zh 0
   have e1 : ([] ++ row 0 : List UInt8) = row 0 := List.nil_append _
   rw [e]
   obtain ⟨q, hq⟩ : ∃ q, (row 0).length = q + 1 := ⟨(row 0).length - 1, by omega⟩
   have h48 := zcU [] 0 (by omega) (by omega) (by show 0 + 9 < _; omega)
   rw [e1] at h48
   exact Obl.goal (K := Goal P 1 14 _) mix (fun _ h => h) (cast (ezC (fun v h => v = .str (row 0) ∧ h = HCo f off z) (el f) (el f) (fun _ => 0) (fun _ => 0) [] [] (row 0) [] [] 0 0 0 n 0 cp z 0 off off 0 0 false GW _).symm
    ⟨ze _, ze _,  h2, h48, ⟨Nat.le_refl _, hp, room _ (by omega)⟩, ze _,  xB _, Obl.goal (K := Goal P 1 14 _) mix (fun _ h => h) (cast (enC (fun v h => v = .str (row 0) ∧ h = HCo f off z) (el f) (el f) (fun _ => 0) (fun _ => 0) (row 0) [] [] [] [] 0 0 0 q 0 0 z 0 off 0 ((row 0).length * 1) (row 0).length false GW _).symm
     ⟨by rw [hq], ⟨by omega, by omega, by rw [Int.toNat_natCast]; omega, by kernel_rfl, w9 _ _ (Int.toNat_natCast _)⟩, ze _,  rfl, rfl⟩)⟩)
 · obtain rfl : l = sl f' 0 k := So.uniq hl h4 fun _ => Iff.rfl
   have hlr := zh (k : Nat)
   have hp := xn (k : Nat)
   have h48 := put0 (k : Nat)
   rw [zlD k (by omega), List.nil_append] at h48
   have hloop := zhY (lo := off) (off := off) (z := z) (y := y) (f := f) (f' := f') (m := k) h3 (by omega) (fun i hi => ((h4.2 _).1 (jz f' k 0 i (by omega) (by omega))).2) (S := zS (sl f' 0 k)) k 0 (row (k : Nat)) _ ((row (k : Nat)).length * 1) (by omega) rfl (by omega) hp (by omega) (by
    unfold zS
    rw [x7, List.nil_append])
   exact Obl.goal (K := Goal P 1 14 _) mix (fun _ h => h) (cast (esC (fun v h => v = .str (zS (sl f' 0 k)) ∧ h = HCo f off z) (el f) (el f') (fun _ => 0) (fun _ => 0) [] [] (row (k : Nat)) [] [] 0 0 0 n k cp z y off off 0 0 false GW _).symm
    ⟨ze _, ze _,  ze _, h5, by rw [zlD k (by omega)]; exact h48, ⟨Nat.le_refl _, hp, room _ (by omega)⟩, ze _,  ze _, xB _, hloop⟩)
theorem zgk : Goal P 0 14 (fun v h => v = .str (zS []) ∧ h = ⟨.leaf, 0, GW⟩) (zg P 14 [.nils 0 0] ⟨.leaf, 0, GW⟩) := by
 have e : zS [] = [] ++ row 0 := by unfold zS; rw [List.flatMap_nil, List.append_nil]; rfl
 have hp := xn 0
 have hl := zh 0
 have e1 : ([] ++ row 0 : List UInt8) = row 0 := List.nil_append _
 rw [e, e1]
 obtain ⟨n, hn⟩ : ∃ n, (row 0).length = n + 1 := ⟨(row 0).length - 1, by omega⟩
 have h48 := zcU [] 0 (by omega) (by omega) (by show 0 + 9 < _; omega)
 rw [e1] at h48
 have h12 : Goal P 0 12 (fun x k => x = .nils 0 0 ∧ k = ⟨.leaf, 0, GW⟩) (zc P 12 [.nils 0 0] GW) := Obl.goal (K := Goal P 0 12 _) mix (fun _ h => h) (cast (sortN (fun x k => x = .nils 0 0 ∧ k = ⟨.leaf, 0, GW⟩) GW (Goal P 0 12 _)).symm ⟨rfl, rfl⟩)
 exact Obl.goal (K := Goal P 0 14 _) mix (fun _ h => h) (cast (ee (fun v h => v = .str (row 0) ∧ h = ⟨.leaf, 0, GW⟩) (el fun _ => zd) (el fun _ => zd) (fun _ => 0) (fun _ => 0) [] [] (row 0) [] [] 0 0 0 n 0 0 0 0 0 0 0 0 false GW _).symm
  ⟨h12, h48, ⟨Nat.le_refl _, hp, room _ (by omega)⟩, by rw [hn], ⟨by omega, by omega, by rw [Int.toNat_natCast]; omega, by kernel_rfl, w9 _ _ (Int.toNat_natCast _)⟩, rfl, rfl⟩)
end Go.Proofs.YtdbfpjgnlfejmaaDoor.dg
end
section
set_option maxRecDepth 100000
namespace Go.Proofs.YtdbfpjgnlfejmaaDoor.mq
open Go Ev
def be (l : List UInt8) : Int := l.foldl (fun v b => v * 256 + b.toNat) 0
def val (f : Nat) (t : List UInt8) : Int := if f ≤ 240 then f else if f < 249 then be t + 240 + 256 * ((f : Int) - 241) else if f = 249 then be t + 2288 else be t
end Go.Proofs.YtdbfpjgnlfejmaaDoor.mq
end
section
set_option maxRecDepth 100000
set_option linter.unusedVariables false
namespace Go.Proofs.YtdbfpjgnlfejmaaDoor.mq
open Go Ev
noncomputable def rd (A : AV) (sp : Bool) (f : Nat → Option AV) (n : Nat) : AHeap := ⟨.node (.node .leaf (some (.cells (.fn f) n 5 0 0 1 0 true .leaf)) .leaf) (some (.cells (.node (.node .leaf (some (.bool sp)) .leaf) (some A) .leaf) 2 101 0 0 1 0 false .leaf)) .leaf, 2, GW⟩
def yy (s : List UInt8) (j : Nat) : Int := ((s.getD j 0).toNat : Int)
noncomputable def rd3 (A : AV) (sp : Bool) (s : List UInt8) (a b c d e : Int) : AHeap := ⟨(.node (.node .leaf (some (.cells (.fn fun j => some (AV.int IntKind.u8 (yy s j))) s.length 5 0 0 1 0 true .leaf)) .leaf) (some (.cells (.node (.node .leaf (some (.bool sp)) .leaf) (some A) .leaf) 2 101 0 0 1 0 false .leaf)) (.node .leaf (some (.cells (.node (.node (.node .leaf (some (.int .u64 a)) .leaf) (some (.int .u64 b)) .leaf) (some (.int .u8 c)) (.node (.node .leaf (some (.int .i64 d)) .leaf) (some (.int .u64 e)) .leaf)) 5 130 0 0 1 0 false .leaf)) .leaf)), 3, GW⟩
def ahead (s : List UInt8) (len : Nat) : List UInt8 := s.drop (s.length - len)
noncomputable def NL (s : List UInt8) (v j : Int) (o t y x : Nat) (f0 b0 l0 m0 tl0 : Int) (G : T (T AV)) : AM := ⟨⟨76, 67, (.node (.node .leaf none (.node (.node .leaf none (.node (.node .leaf (some (.int .i64 (t : Int))) .leaf) none .leaf)) none .leaf)) none (.node (.node (.node .leaf (some (.int .u64 v)) (.node (.node .leaf (some (.slc 1 0 o t t)) .leaf) none .leaf)) none .leaf) none (.node (.node .leaf none (.node (.node .leaf (some (.int .i64 j)) .leaf) none .leaf)) (some (.ptr 2 0 0)) .leaf))),
 [.code (cd P (76 : Nat) [(1 : Nat), (1 : Nat), (1 : Nat), (1 : Nat), (1 : Nat), (1 : Nat), (1 : Nat), (0 : Nat), (1 : Nat), (0 : Nat), (0 : Nat)]), .inLoop (cd P (76 : Nat) [(1 : Nat), (1 : Nat), (1 : Nat), (1 : Nat), (1 : Nat), (1 : Nat), (1 : Nat), (0 : Nat), (1 : Nat), (0 : Nat), (0 : Nat)]), .inBlock 0, .code (cd P (76 : Nat) [(1 : Nat), (1 : Nat), (1 : Nat), (1 : Nat), (1 : Nat), (1 : Nat), (1 : Nat), (1 : Nat)])], [], .run, CallKind.normal, none⟩,
 [],
 ⟨(.node (.node .leaf (some (.cells (.fn fun j => some (.int .u8 (yy s j))) s.length 5 0 0 1 0 true .leaf)) .leaf) (some (.cells (.node (.node .leaf (some (.bool false)) .leaf) (some (.slc 1 0 y x x)) .leaf) 2 101 0 0 1 0 false .leaf)) (.node .leaf (some (.cells (.node (.node (.node .leaf (some (.int .u64 m0)) .leaf) (some (.int .u64 b0)) .leaf) (some (.int .u8 f0)) (.node (.node .leaf (some (.int .i64 tl0)) .leaf) (some (.int .u64 l0)) .leaf)) 5 130 0 0 1 0 false .leaf)) .leaf)), 3, G⟩⟩
theorem z0 (R : AV → AHeap → Prop) (s : List UInt8) (off len c : Nat) (v j : Int) (_K : AM → Prop) : Obl P 76 (fun v h => R v h) 2 _K [.run 30, .know 18 true, .run 27, .done] ((zg P 76 [.fn (.func 77) [.ptr 0 0 0] []] (rd (.slc 1 0 off len c) false (fun j => some (.int .u8 (yy s j))) s.length))) = ((decide (Int.ofNat (1) > IntKind.u64.wrap (↑len : Int)) = true) ∧ (R (.tup [.int .u64 0, .bool false]) (⟨(.node (.node .leaf (some (.cells (.fn fun j => some (AV.int IntKind.u8 (yy s j))) s.length 5 0 0 1 0 true .leaf)) .leaf) (some (.cells (.node (.node .leaf (some (.bool false)) .leaf) (some (.slc 1 0 off len c)) .leaf) 2 101 0 0 1 0 false .leaf)) .leaf), 2, GW⟩))) := by kernel_rfl
theorem z1 (R : AV → AHeap → Prop) (s : List UInt8) (off len c : Nat) (f0 b0 l0 m0 tl0 v j : Int) (_K : AM → Prop) : Obl P 76 (fun v h => R v h) 2 _K [.run 30, .know 18 false, .run 10, .op, .run 20, .op, .run 30, .op, .run 1, .callv [0] (.agg [.int .u8 f0, .int .u64 b0, .int .u64 l0, .int .u64 m0, .int .i64 tl0]), .run 31, .know 18 true, .run 27, .done] ((zg P 76 [.fn (.func 77) [.ptr 0 0 0] []] (rd (.slc 1 0 off len c) false (fun j => some (.int .u8 (yy s j))) s.length))) = ((decide (Int.ofNat (1) > IntKind.u64.wrap (↑len : Int)) = false) ∧ (((0 : Int) ≤ Int.ofNat (1) ∧ Int.ofNat (1) ≤ (↑c : Int)) ∧ (0 : Int) ≤ Int.ofNat (1) ∧ Int.ofNat (1) ≤ (↑(1) : Int)) ∧ ((((0 : Int) ≤ (↑len : Int) ∧ (↑len : Int) ≤ (↑c : Int)) ∧ (0 : Int) ≤ (↑len : Int) ∧ (↑len : Int) ≤ (↑(↑len : Int).toNat : Int)) ∧ (0 : Int) ≤ Int.ofNat (1) ∧ Int.ofNat (1) ≤ (↑(↑len : Int).toNat : Int)) ∧ (off + (1 : Nat) ≤ s.length) ∧ (Goal P (0) 103 (fun v _ => v = AV.agg [AV.int IntKind.u8 f0, AV.int IntKind.u64 b0, AV.int IntKind.u64 l0, AV.int IntKind.u64 m0, AV.int IntKind.i64 tl0]) (zc P 103 [.int .u8 (yy s off)] GW)) ∧ (decide (IntKind.u64.wrap tl0 > IntKind.u64.wrap (↑((↑len : Int).toNat - 1) : Int)) = true) ∧ (R (.tup [.int .u64 0, .bool false]) (rd3 (.slc 1 0 (if (↑len : Int).toNat = 1 then off else off + 1) ((↑len : Int).toNat - 1) ((↑len : Int).toNat - 1)) false s m0 b0 f0 tl0 l0))) := by kernel_rfl
theorem z2 (R : AV → AHeap → Prop) (s : List UInt8) (off len c o t : Nat) (f0 b0 l0 m0 tl0 v j : Int) (K : AM → Prop) : Obl P 76 (fun v h => R v h) 2 K [.run 30, .know 18 false, .run 10, .op, .run 20, .op, .run 30, .op, .run 1, .callv [0] (.agg [.int .u8 f0, .int .u64 b0, .int .u64 l0, .int .u64 m0, .int .i64 tl0]), .run 31, .know 18 false, .run 10, .op, .run 20, .op, .run 30, .op, .run 15, .slot 40 (.slc 1 0 o t t), .slot 41 (.int .i64 (t : Int)), .slot 8 (.int .u64 v), .can 2 [0, 1, 2] [6, 8, 40, 41, 42] []] ((zg P 76 [.fn (.func 77) [.ptr 0 0 0] []] (rd (.slc 1 0 off len c) false (fun j => some (.int .u8 (yy s j))) s.length))) = ((decide (Int.ofNat (1) > IntKind.u64.wrap (↑len : Int)) = false) ∧ (((0 : Int) ≤ Int.ofNat (1) ∧ Int.ofNat (1) ≤ (↑c : Int)) ∧ (0 : Int) ≤ Int.ofNat (1) ∧ Int.ofNat (1) ≤ (↑(1) : Int)) ∧ ((((0 : Int) ≤ (↑len : Int) ∧ (↑len : Int) ≤ (↑c : Int)) ∧ (0 : Int) ≤ (↑len : Int) ∧ (↑len : Int) ≤ (↑(↑len : Int).toNat : Int)) ∧ (0 : Int) ≤ Int.ofNat (1) ∧ Int.ofNat (1) ≤ (↑(↑len : Int).toNat : Int)) ∧ (off + (1 : Nat) ≤ s.length) ∧ (Goal P (0) 103 (fun v _ => v = AV.agg [AV.int IntKind.u8 f0, AV.int IntKind.u64 b0, AV.int IntKind.u64 l0, AV.int IntKind.u64 m0, AV.int IntKind.i64 tl0]) (zc P 103 [.int .u8 (yy s off)] GW)) ∧ (decide (IntKind.u64.wrap tl0 > IntKind.u64.wrap (↑((↑len : Int).toNat - 1) : Int)) = false) ∧ (((0 : Int) ≤ IntKind.u64.wrap tl0 ∧ IntKind.u64.wrap tl0 ≤ (↑((↑len : Int).toNat - 1) : Int)) ∧ (0 : Int) ≤ IntKind.u64.wrap tl0 ∧ IntKind.u64.wrap tl0 ≤ (↑(IntKind.u64.wrap tl0).toNat : Int)) ∧ ((((0 : Int) ≤ (↑((↑len : Int).toNat - 1) : Int) ∧ (↑((↑len : Int).toNat - 1) : Int) ≤ (↑((↑len : Int).toNat - 1) : Int)) ∧ (0 : Int) ≤ (↑((↑len : Int).toNat - 1) : Int) ∧ (↑((↑len : Int).toNat - 1) : Int) ≤ (↑(↑((↑len : Int).toNat - 1) : Int).toNat : Int)) ∧ (0 : Int) ≤ IntKind.u64.wrap tl0 ∧ IntKind.u64.wrap tl0 ≤ (↑(↑((↑len : Int).toNat - 1) : Int).toNat : Int)) ∧ (off + (1 : Nat) ≤ s.length) ∧ (AV.slc (1) (0) (if (IntKind.u64.wrap tl0).toNat = (0 : Nat) then if (↑len : Int).toNat = 1 then off else off + 1 else if (↑len : Int).toNat = 1 then off else off + 1) ((IntKind.u64.wrap tl0).toNat - (0 : Nat)) ((IntKind.u64.wrap tl0).toNat - (0 : Nat)) = AV.slc (1) (0) o t t) ∧ (AV.int IntKind.i64 (↑((IntKind.u64.wrap tl0).toNat - (0 : Nat)) : Int) = AV.int IntKind.i64 (↑t : Int)) ∧ (AV.int IntKind.u64 (IntKind.u64.wrap (IntKind.u8.wrap (yy s off - f0))) = AV.int IntKind.u64 v) ∧ (za fun j => some (AV.int IntKind.u8 (yy s j))) ∧ K (NL s v (Int.ofNat (0)) o t (if (↑((↑len : Int).toNat - 1) : Int).toNat = (IntKind.u64.wrap tl0).toNat then if (↑len : Int).toNat = 1 then off else off + 1 else (if (↑len : Int).toNat = 1 then off else off + 1) + (IntKind.u64.wrap tl0).toNat * 1) ((↑((↑len : Int).toNat - 1) : Int).toNat - (IntKind.u64.wrap tl0).toNat) f0 b0 l0 m0 tl0 GW)) := by kernel_rfl
theorem z3 (R : AV → AHeap → Prop) (s : List UInt8) (o x y t : Nat) (f0 b0 l0 m0 tl0 v v2 j : Int) (K : AM → Prop) : Obl P 76 (fun v h => R v h) 2 K [.run 5, .know 43 true, .run 6, .op, .op, .run 16, .slot 8 (.int .u64 v2), .can 2 [0, 1, 2] [6, 8, 40, 41, 42] []] ((NL s v j o t y x f0 b0 l0 m0 tl0 GW)) = ((decide (j < (↑t : Int)) = true) ∧ ((0 : Int) ≤ j ∧ j < (↑t : Int)) ∧ (o + j.toNat * 1 + (1 : Nat) ≤ s.length) ∧ (AV.int IntKind.u64 (IntKind.u64.wrap (↑(BitVec.ofInt (64) (IntKind.u64.wrap (v * (2 : Int) ^ min (Int.toNat (8 : Int)) IntKind.u64.bits)) ||| BitVec.ofInt (64) (IntKind.u64.wrap (yy s (o + j.toNat * 1)))).toNat : Int)) = AV.int IntKind.u64 v2) ∧ (za fun j => some (AV.int IntKind.u8 (yy s j))) ∧ K (NL s v2 (IntKind.i64.wrap (j + (1 : Int))) o t y x f0 b0 l0 m0 tl0 GW)) := by kernel_rfl
section
set_option linter.unusedSectionVars false
variable (R : AV → AHeap → Prop) (s : List UInt8) (o x y t : Nat) (f0 b0 l0 m0 tl0 v j : Int) (_K : AM → Prop)
include R s o x y t f0 b0 l0 m0 tl0 v j _K
theorem z4 : Obl P 76 (fun v h => R v h) 2 _K [.run 5, .know 43 false, .run 18, .know 60 true, .run 6, .know 65 true, .run 8, .done] ((NL s v j o t y x f0 b0 l0 m0 tl0 GW)) = ((decide (j < (↑t : Int)) = false) ∧ (decide (l0 ≤ IntKind.u64.wrap (v + b0)) = true) ∧ (decide (IntKind.u64.wrap (v + b0) ≤ m0) = true) ∧ (R (.tup [.int .u64 (IntKind.u64.wrap (v + b0)), .bool true]) (rd3 (.slc 1 0 y x x) false s m0 b0 f0 tl0 l0))) := by kernel_rfl
theorem z5 : Obl P 76 (fun v h => R v h) 2 _K [.run 5, .know 43 false, .run 18, .know 60 true, .run 6, .know 65 false, .run 8, .done] ((NL s v j o t y x f0 b0 l0 m0 tl0 GW)) = ((decide (j < (↑t : Int)) = false) ∧ (decide (l0 ≤ IntKind.u64.wrap (v + b0)) = true) ∧ (decide (IntKind.u64.wrap (v + b0) ≤ m0) = false) ∧ (R (.tup [.int .u64 0, .bool false]) (rd3 (.slc 1 0 y x x) false s m0 b0 f0 tl0 l0))) := by kernel_rfl
theorem z6 : Obl P 76 (fun v h => R v h) 2 _K [.run 5, .know 43 false, .run 18, .know 60 false, .run 14, .done] ((NL s v j o t y x f0 b0 l0 m0 tl0 GW)) = ((decide (j < (↑t : Int)) = false) ∧ (decide (l0 ≤ IntKind.u64.wrap (v + b0)) = false) ∧ (R (.tup [.int .u64 0, .bool false]) (rd3 (.slc 1 0 y x x) false s m0 b0 f0 tl0 l0))) := by kernel_rfl
end
section
variable {s : List UInt8} {o y x : Nat} {f0 b0 l0 m0 tl0 : Int} {v0 : Int} {tt : List UInt8} {Q : AV → AHeap → Prop}
end
end Go.Proofs.YtdbfpjgnlfejmaaDoor.mq
end
section
set_option maxRecDepth 100000
set_option linter.unusedVariables false
namespace Go.Proofs.YtdbfpjgnlfejmaaDoor.dg
open Go Ev mq
noncomputable abbrev RG (s : List UInt8) (y x c : Nat) (G : T (T AV)) : AHeap := ⟨(.node (.node .leaf (some (.cells (.fn fun j => some (.int .u8 (yy s j))) s.length 5 0 0 1 0 true .leaf)) .leaf) (some (.cells (.node (.node .leaf (some (.bool false)) .leaf) (some (.slc 1 0 y x c)) .leaf) 2 101 0 0 1 0 false .leaf)) .leaf), 2, G⟩
noncomputable abbrev RZ (s : List UInt8) (G : T (T AV)) : AHeap := ⟨(.node (.node .leaf (some (.cells (.fn fun j => some (.int .u8 (yy s j))) s.length 5 0 0 1 0 true .leaf)) .leaf) (some (.cells (.node (.node .leaf (some (.bool true)) .leaf) (some (.nils 0 0)) .leaf) 2 101 0 0 1 0 false .leaf)) .leaf), 2, G⟩
noncomputable abbrev RB (G : T (T AV)) : AHeap := ⟨(.node .leaf (some (.cells (.node (.node .leaf (some (.bool true)) .leaf) (some (.nils 0 0)) .leaf) 2 101 0 0 1 0 false .leaf)) .leaf), 1, G⟩
noncomputable abbrev RN (s : List UInt8) (G : T (T AV)) : AHeap := ⟨(.node (.node .leaf (some (.cells (.node (.node .leaf (some (.bool false)) .leaf) (some (.slg 0 0 0 s.length 0)) .leaf) 2 101 0 0 1 0 false .leaf)) .leaf) (some (.cells (.fn fun j => some (AV.int IntKind.u8 (yy s j))) s.length 5 0 0 1 0 true .leaf)) .leaf), 2, G⟩
noncomputable def DN (A : AV) (s : List UInt8) (G : T (T AV)) : AM := ⟨⟨19, 38, (.node .leaf (some (.str s)) (.node (.node (.node .leaf (some (.ptr 0 0 0)) .leaf) none .leaf) none .leaf)),
 [.ops (rg P 19 [1, 0]).toList ((rg P 19 [1, 0]).toList.drop 2), .code (cd P (19 : Nat) [(1 : Nat), (1 : Nat)])], [], .run, CallKind.normal, none⟩,
 [],
 ⟨(.node (.node .leaf (some (.cells (.fn fun j => some (.int .u8 (yy s j))) s.length 5 0 0 1 0 true .leaf)) .leaf) (some (.cells (.node (.node .leaf (some (.bool false)) .leaf) (some A) .leaf) 2 101 0 0 1 0 false .leaf)) .leaf), 2, G⟩⟩
noncomputable def DcA (s : List UInt8) (n i : Int) (x y : Nat) (G : T (T AV)) : AM := ⟨⟨19, 38, (.node (.node (.node .leaf none (.node .leaf (some (.int .u64 i)) .leaf)) none (.node .leaf (some (.nils 0 0)) .leaf)) (some (.str s)) (.node (.node .leaf (some (.ptr 0 0 0)) .leaf) none (.node (.node .leaf (some (.int .u64 n)) .leaf) none .leaf))),
 [.code (cd P (19 : Nat) [(1 : Nat), (1 : Nat), (1 : Nat), (0 : Nat), (1 : Nat), (0 : Nat), (0 : Nat)]), .inLoop (cd P (19 : Nat) [(1 : Nat), (1 : Nat), (1 : Nat), (0 : Nat), (1 : Nat), (0 : Nat), (0 : Nat)]), .inBlock 0, .code (cd P (19 : Nat) [(1 : Nat), (1 : Nat), (1 : Nat), (1 : Nat)])], [], .run, CallKind.normal, none⟩,
 [],
 ⟨(.node (.node .leaf (some (.cells (.fn fun j => some (.int .u8 (yy s j))) s.length 5 0 0 1 0 true .leaf)) .leaf) (some (.cells (.node (.node .leaf (some (.bool false)) .leaf) (some (.slc 1 0 y x x)) .leaf) 2 101 0 0 1 0 false .leaf)) .leaf), 2, G⟩⟩
noncomputable def DcZ (s : List UInt8) (G : T (T AV)) : AM := ⟨⟨19, 38, (.node (.node .leaf none (.node .leaf (some (.nils 0 0)) .leaf)) (some (.str s)) (.node (.node .leaf (some (.ptr 0 0 0)) .leaf) none (.node (.node .leaf (some (.int .u64 0)) .leaf) none .leaf))),
 [.ops (rg P 19 [1, 1, 1, 0, 0]).toList ((rg P 19 [1, 1, 1, 0, 0]).toList.drop 2), .code (cd P (19 : Nat) [(1 : Nat), (1 : Nat), (1 : Nat), (0 : Nat), (1 : Nat)]), .code (cd P (19 : Nat) [(1 : Nat), (1 : Nat), (1 : Nat), (1 : Nat)])], [], .run, CallKind.normal, none⟩,
 [],
 ⟨(.node .leaf (some (.cells (.node (.node .leaf (some (.bool true)) .leaf) (some (.nils 0 0)) .leaf) 2 101 0 0 1 0 false .leaf)) .leaf), 1, G⟩⟩
theorem d0 (R : AV → AHeap → Prop) (s : List UInt8) (G : T (T AV)) (K : AM → Prop) : Obl P 19 (fun v h => R v h) 0 K [.run 9, .callh [] [0] (.ptr 1 0 0) (RN s G), .can 0 [1, 0] [0, 8] []] ((zc P 19 [.str s] G)) = ((za fun j => some (.int .u8 (yy s j))) ∧ (Goal P (0) 54 (fun v h => v = AV.ptr (1 : Nat) (0 : Nat) (0 : Nat) ∧ h = RN s G) (zc P 54 [.str s] G)) ∧ (za fun j => some (.int .u8 (yy s j))) ∧ K (DN (.slg 1 0 0 s.length 0) s G)) := by kernel_rfl
theorem d1 (R : AV → AHeap → Prop) (s : List UInt8) (n : Int) (x c x2 y2 : Nat) (G : T (T AV)) (K : AM → Prop) : Obl P 19 (fun v h => R v h) 0 K [.run 11, .callh [(0, 0, []), (1, 0, [0])] [0] (.int .u64 n) (RG s y2 x2 x2 G), .run 4, .can 0 [0, 1] [0, 4, 5, 10, 11] []] ((DN (.slc 1 0 0 x c) s G)) = ((za fun j => some (.int .u8 (yy s j))) ∧ (za fun j => some (.int .u8 (yy s j))) ∧ (Goal P (2) 55 (fun v h => v = AV.int IntKind.u64 n ∧ h = RG s y2 x2 x2 G) (zg P 55 [.ptr 0 0 0] (RG s 0 x c G))) ∧ (za fun j => some (.int .u8 (yy s j))) ∧ K (DcA s n (Int.ofNat (0)) x2 y2 G)) := by kernel_rfl
theorem d2 (R : AV → AHeap → Prop) (s : List UInt8) (x c : Nat) (G : T (T AV)) (K : AM → Prop) : Obl P 19 (fun v h => R v h) 0 K [.run 11, .callh [(0, 0, []), (1, 0, [0])] [0] (.int .u64 0) (RZ s G), .can 0 [0] [0, 4, 5, 10] []] ((DN (.slc 1 0 0 x c) s G)) = ((za fun j => some (.int .u8 (yy s j))) ∧ (za fun j => some (.int .u8 (yy s j))) ∧ (Goal P (2) 55 (fun v h => v = AV.int IntKind.u64 (0 : Int) ∧ h = RZ s G) (zg P 55 [.ptr 0 0 0] (RG s 0 x c G))) ∧ K (DcZ s G)) := by kernel_rfl
theorem d3 (R : AV → AHeap → Prop) (s : List UInt8) (G : T (T AV)) (_K : AM → Prop) : Obl P 19 (fun v h => R v h) 0 _K [.run 69, .can 0 [] [2, 3] [], .run 1, .done] ((DcZ s G)) = ((R (.tup [.nils 0 0, .int .i64 4]) (⟨.leaf, 0, G⟩))) := by kernel_rfl
section
variable {s : List UInt8}
theorem zbv {α : Type} (g : Nat → α) (m r : Nat) : sl g m (r + 1) = g m :: sl g (m + 1) r := rfl
end
end Go.Proofs.YtdbfpjgnlfejmaaDoor.dg
end
section
set_option maxRecDepth 100000
set_option linter.unusedVariables false
namespace Go.Proofs.YtdbfpjgnlfejmaaDoor.dg
open Go Ev mq
noncomputable abbrev HR0 (G : T (T AV)) : AHeap := ⟨(.node .leaf (some (.cells (.node (.node (.node .leaf (some (.nils 0 0)) .leaf) (some (.str [])) .leaf) (some (.int .i64 0)) (.node (.node .leaf (some (.int .u64 0)) .leaf) (some (.nils 0 0)) .leaf)) 5 45 0 0 1 0 false .leaf)) .leaf), 1, G⟩
noncomputable def AN (A : AV) (s : List UInt8) (G : T (T AV)) : AM := ⟨⟨25, 58, (.node (.node (.node .leaf none (.node .leaf (some (.ptr 1 0 0)) .leaf)) none .leaf) none (.node .leaf (some (.ptr 0 0 0)) .leaf)),
 [.ops (rg P 25 [1, 0]).toList ((rg P 25 [1, 0]).toList.drop 2), .code (cd P (25 : Nat) [(1 : Nat), (1 : Nat)])], [], .run, CallKind.normal, none⟩,
 [],
 ⟨(.node (.node .leaf (some (.cells (.node (.node .leaf (some (.bool false)) .leaf) (some A) .leaf) 2 101 0 0 1 0 false .leaf)) .leaf) (some (.cells (.node (.node (.node .leaf (some (.nils 0 0)) .leaf) (some (.str [])) .leaf) (some (.int .i64 0)) (.node (.node .leaf (some (.int .u64 0)) .leaf) (some (.nils 0 0)) .leaf)) 5 45 0 0 1 0 false .leaf)) (.node .leaf (some (.cells (.fn fun j => some (AV.int IntKind.u8 (yy s j))) s.length 5 0 0 1 0 true .leaf)) .leaf)), 3, G⟩⟩
noncomputable def ALA (s t : List UInt8) (n k i : Int) (x y : Nat) (G : T (T AV)) : AM := ⟨⟨25, 58, (.node (.node (.node (.node .leaf none (.node .leaf (some (.int .u64 k)) .leaf)) none .leaf) none .leaf) none (.node (.node (.node .leaf none (.node .leaf (some (.int .u64 i)) .leaf)) (some (.ptr 1 0 0)) .leaf) (some (.ptr 0 0 0)) (.node .leaf (some (.ptr 2 0 0)) .leaf))),
 [.code (cd P (25 : Nat) [(1 : Nat), (1 : Nat), (1 : Nat), (1 : Nat), (1 : Nat), (0 : Nat), (1 : Nat), (0 : Nat), (0 : Nat)]), .inLoop (cd P (25 : Nat) [(1 : Nat), (1 : Nat), (1 : Nat), (1 : Nat), (1 : Nat), (0 : Nat), (1 : Nat), (0 : Nat), (0 : Nat)]), .inBlock 0, .code (cd P (25 : Nat) [(1 : Nat), (1 : Nat), (1 : Nat), (1 : Nat), (1 : Nat), (1 : Nat)])], [], .run, CallKind.normal, none⟩,
 [],
 ⟨(.node (.node (.node .leaf (some (.cells (.fn fun j => some (.int .u8 (yy s j))) s.length 5 0 0 1 0 true .leaf)) .leaf) (some (.cells (.node (.node .leaf (some (.bool false)) .leaf) (some (.slc 3 0 y x x)) .leaf) 2 101 0 0 1 0 false .leaf)) .leaf) (some (.cells (.node (.node (.node .leaf (some (.nils 0 0)) .leaf) (some (.str [])) .leaf) (some (.int .i64 0)) (.node (.node .leaf (some (.int .u64 0)) .leaf) (some (.nils 0 0)) .leaf)) 5 45 0 0 1 0 false .leaf)) (.node .leaf (some (.cells (.node (.node (.node .leaf (some (.nils 0 0)) .leaf) (some (.str t)) .leaf) (some (.int .i64 n)) (.node (.node .leaf (some (.int .u64 0)) .leaf) (some (.nils 0 0)) .leaf)) 5 45 0 0 1 0 false .leaf)) .leaf)), 4, G⟩⟩
theorem a0 (R : AV → AHeap → Prop) (s : List UInt8) (G : T (T AV)) (K : AM → Prop) : Obl P 25 (fun v h => R v h) 0 K [.run 9, .callh [] [0] (.ptr 1 0 0) (RN s G), .can 0 [0, 2, 1] [2, 11] []] ((zc P 25 [.str s] G)) = ((za fun j => some (.int .u8 (yy s j))) ∧ (Goal P (0) 54 (fun v h => v = AV.ptr (1 : Nat) (0 : Nat) (0 : Nat) ∧ h = RN s G) (zc P 54 [.str s] G)) ∧ (za fun j => some (.int .u8 (yy s j))) ∧ K (AN (.slg 2 0 0 s.length 0) s G)) := by kernel_rfl
theorem s1 (R : AV → AHeap → Prop) (s : List UInt8) (x cp : Nat) (G : T (T AV)) (_K : AM → Prop) : Obl P 25 (fun v h => R v h) 0 _K [.run 6, .callh [(1, 0, []), (2, 0, [0])] [0] (.int .u64 0) (RZ s G), .run 16, .callh [(1, 0, [])] [0] (.str []) (RB G), .run 9, .callh [(1, 0, [])] [0] (.int .u64 0) (RB G), .run 15, .callh [(1, 0, [])] [0] (.str []) (RB G), .run 1, .callh [] [0] (.tup [.nils 0 0, .int .i64 4]) ⟨.leaf, 0, G⟩, .run 11, .callh [(1, 0, [])] [0] (.int .u64 0) (RB G), .run 23, .can 0 [0] [2, 3] [], .run 1, .done] ((AN (.slc 2 0 0 x cp) s G)) = ((za fun j => some (.int .u8 (yy s j))) ∧ (za fun j => some (.int .u8 (yy s j))) ∧ (Goal P (2) 55 (fun v h => v = AV.int IntKind.u64 (0 : Int) ∧ h = RZ s G) (zg P 55 [.ptr 0 0 0] (RG s 0 x cp G))) ∧ (Goal P (1) 56 (fun v h => v = AV.str [] ∧ h = RB G) (zg P 56 [.ptr 0 0 0] (RB G))) ∧ (Goal P (1) 55 (fun v h => v = AV.int IntKind.u64 (0 : Int) ∧ h = RB G) (zg P 55 [.ptr 0 0 0] (RB G))) ∧ (Goal P (1) 56 (fun v h => v = AV.str [] ∧ h = RB G) (zg P 56 [.ptr 0 0 0] (RB G))) ∧ (Goal P (0) 19 (fun v h => v = AV.tup [AV.nils (0 : Nat) (0 : Nat), AV.int IntKind.i64 (4 : Int)] ∧ h = { objs := T.leaf, next := (0 : Nat), glob := G }) (zc P 19 [.str []] G)) ∧ (Goal P (1) 55 (fun v h => v = AV.int IntKind.u64 (0 : Int) ∧ h = RB G) (zg P 55 [.ptr 0 0 0] (RB G))) ∧ (R (.tup [.agg [.int .i64 0, .str [], .nils 0 0, .nils 0 0, .int .u64 0], .int .i64 4]) ((HR0 G)))) := by kernel_rfl
theorem s2 (R : AV → AHeap → Prop) (s : List UInt8) (n : Int) (x cp x1 y1 : Nat) (G : T (T AV)) (_K : AM → Prop) : Obl P 25 (fun v h => R v h) 0 _K [.run 6, .callh [(1, 0, []), (2, 0, [0])] [0] (.int .u64 n) (RG s y1 x1 x1 G), .run 8, .know 15 true, .run 7, .can 0 [0] [2, 3] [], .run 1, .done] ((AN (.slc 2 0 0 x cp) s G)) = ((za fun j => some (.int .u8 (yy s j))) ∧ (za fun j => some (.int .u8 (yy s j))) ∧ (Goal P (2) 55 (fun v h => v = AV.int IntKind.u64 n ∧ h = RG s y1 x1 x1 G) (zg P 55 [.ptr 0 0 0] (RG s 0 x cp G))) ∧ (decide (n > (14 : Int)) = true) ∧ (R (.tup [.agg [.int .i64 0, .str [], .nils 0 0, .nils 0 0, .int .u64 0], .int .i64 4]) ((HR0 G)))) := by kernel_rfl
theorem s3 (R : AV → AHeap → Prop) (s : List UInt8) (n : Int) (x cp x1 y1 : Nat) (G : T (T AV)) (_K : AM → Prop) : Obl P 25 (fun v h => R v h) 0 _K [.run 6, .callh [(1, 0, []), (2, 0, [0])] [0] (.int .u64 n) (RG s y1 x1 x1 G), .run 8, .know 15 false, .run 8, .callh [(1, 0, []), (2, 0, [0])] [0] (.str []) (RZ s G), .run 9, .callh [(1, 0, [])] [0] (.int .u64 0) (RB G), .run 15, .callh [(1, 0, [])] [0] (.str []) (RB G), .run 1, .callh [] [0] (.tup [.nils 0 0, .int .i64 4]) ⟨.leaf, 0, G⟩, .run 11, .callh [(1, 0, [])] [0] (.int .u64 0) (RB G), .run 23, .can 0 [0] [2, 3] [], .run 1, .done] ((AN (.slc 2 0 0 x cp) s G)) = ((za fun j => some (.int .u8 (yy s j))) ∧ (za fun j => some (.int .u8 (yy s j))) ∧ (Goal P (2) 55 (fun v h => v = AV.int IntKind.u64 n ∧ h = RG s y1 x1 x1 G) (zg P 55 [.ptr 0 0 0] (RG s 0 x cp G))) ∧ (decide (n > (14 : Int)) = false) ∧ (za fun j => some (.int .u8 (yy s j))) ∧ (za fun j => some (.int .u8 (yy s j))) ∧ (Goal P (2) 56 (fun v h => v = AV.str [] ∧ h = RZ s G) (zg P 56 [.ptr 0 0 0] (RG s y1 x1 x1 G))) ∧ (Goal P (1) 55 (fun v h => v = AV.int IntKind.u64 (0 : Int) ∧ h = RB G) (zg P 55 [.ptr 0 0 0] (RB G))) ∧ (Goal P (1) 56 (fun v h => v = AV.str [] ∧ h = RB G) (zg P 56 [.ptr 0 0 0] (RB G))) ∧ (Goal P (0) 19 (fun v h => v = AV.tup [AV.nils (0 : Nat) (0 : Nat), AV.int IntKind.i64 (4 : Int)] ∧ h = { objs := T.leaf, next := (0 : Nat), glob := G }) (zc P 19 [.str []] G)) ∧ (Goal P (1) 55 (fun v h => v = AV.int IntKind.u64 (0 : Int) ∧ h = RB G) (zg P 55 [.ptr 0 0 0] (RB G))) ∧ (R (.tup [.agg [.int .i64 0, .str [], .nils 0 0, .nils 0 0, .int .u64 0], .int .i64 4]) ((HR0 G)))) := by kernel_rfl
theorem s4 (R : AV → AHeap → Prop) (s t : List UInt8) (n : Int) (x cp x1 y1 x2 y2 : Nat) (G : T (T AV)) (_K : AM → Prop) : Obl P 25 (fun v h => R v h) 0 _K [.run 6, .callh [(1, 0, []), (2, 0, [0])] [0] (.int .u64 n) (RG s y1 x1 x1 G), .run 8, .know 15 false, .run 8, .callh [(1, 0, []), (2, 0, [0])] [0] (.str t) (RG s y2 x2 x2 G), .run 9, .callh [(1, 0, []), (2, 0, [0])] [0] (.int .u64 0) (RZ s G), .run 15, .callh [(1, 0, [])] [0] (.str []) (RB G), .run 1, .callh [] [0] (.tup [.nils 0 0, .int .i64 4]) ⟨.leaf, 0, G⟩, .run 11, .callh [(1, 0, [])] [0] (.int .u64 0) (RB G), .run 23, .can 0 [0] [2, 3] [], .run 1, .done] ((AN (.slc 2 0 0 x cp) s G)) = ((za fun j => some (.int .u8 (yy s j))) ∧ (za fun j => some (.int .u8 (yy s j))) ∧ (Goal P (2) 55 (fun v h => v = AV.int IntKind.u64 n ∧ h = RG s y1 x1 x1 G) (zg P 55 [.ptr 0 0 0] (RG s 0 x cp G))) ∧ (decide (n > (14 : Int)) = false) ∧ (za fun j => some (.int .u8 (yy s j))) ∧ (za fun j => some (.int .u8 (yy s j))) ∧ (Goal P (2) 56 (fun v h => v = AV.str t ∧ h = RG s y2 x2 x2 G) (zg P 56 [.ptr 0 0 0] (RG s y1 x1 x1 G))) ∧ (za fun j => some (.int .u8 (yy s j))) ∧ (za fun j => some (.int .u8 (yy s j))) ∧ (Goal P (2) 55 (fun v h => v = AV.int IntKind.u64 (0 : Int) ∧ h = RZ s G) (zg P 55 [.ptr 0 0 0] (RG s y2 x2 x2 G))) ∧ (Goal P (1) 56 (fun v h => v = AV.str [] ∧ h = RB G) (zg P 56 [.ptr 0 0 0] (RB G))) ∧ (Goal P (0) 19 (fun v h => v = AV.tup [AV.nils (0 : Nat) (0 : Nat), AV.int IntKind.i64 (4 : Int)] ∧ h = { objs := T.leaf, next := (0 : Nat), glob := G }) (zc P 19 [.str []] G)) ∧ (Goal P (1) 55 (fun v h => v = AV.int IntKind.u64 (0 : Int) ∧ h = RB G) (zg P 55 [.ptr 0 0 0] (RB G))) ∧ (R (.tup [.agg [.int .i64 0, .str [], .nils 0 0, .nils 0 0, .int .u64 0], .int .i64 4]) ((HR0 G)))) := by kernel_rfl
theorem s5 (R : AV → AHeap → Prop) (s t : List UInt8) (n k : Int) (x cp x1 y1 x2 y2 x3 y3 : Nat) (G : T (T AV)) (K : AM → Prop) : Obl P 25 (fun v h => R v h) 0 K [.run 6, .callh [(1, 0, []), (2, 0, [0])] [0] (.int .u64 n) (RG s y1 x1 x1 G), .run 8, .know 15 false, .run 8, .callh [(1, 0, []), (2, 0, [0])] [0] (.str t) (RG s y2 x2 x2 G), .run 9, .callh [(1, 0, []), (2, 0, [0])] [0] (.int .u64 k) (RG s y3 x3 x3 G), .run 4, .can 0 [0, 1, 3, 2] [2, 4, 6, 23, 24] []] ((AN (.slc 2 0 0 x cp) s G)) = ((za fun j => some (.int .u8 (yy s j))) ∧ (za fun j => some (.int .u8 (yy s j))) ∧ (Goal P (2) 55 (fun v h => v = AV.int IntKind.u64 n ∧ h = RG s y1 x1 x1 G) (zg P 55 [.ptr 0 0 0] (RG s 0 x cp G))) ∧ (decide (n > (14 : Int)) = false) ∧ (za fun j => some (.int .u8 (yy s j))) ∧ (za fun j => some (.int .u8 (yy s j))) ∧ (Goal P (2) 56 (fun v h => v = AV.str t ∧ h = RG s y2 x2 x2 G) (zg P 56 [.ptr 0 0 0] (RG s y1 x1 x1 G))) ∧ (za fun j => some (.int .u8 (yy s j))) ∧ (za fun j => some (.int .u8 (yy s j))) ∧ (Goal P (2) 55 (fun v h => v = AV.int IntKind.u64 k ∧ h = RG s y3 x3 x3 G) (zg P 55 [.ptr 0 0 0] (RG s y2 x2 x2 G))) ∧ (za fun j => some (.int .u8 (yy s j))) ∧ K (ALA s t (IntKind.i64.wrap n) k (Int.ofNat (0)) x3 y3 G)) := by kernel_rfl
def es (g : Nat → List UInt8) (j : Nat) : AV := .str (g j)
theorem zE (g : Nat → List UInt8) : za fun j => some (es g j) := by
 intro k v h
 cases h
 rfl
theorem zhv (p : List UInt8) : zY 1 (.fn fun j => some (es (fun _ => p) j)) (.node .leaf (some (.str p)) .leaf) := by
 intro k v hk h
 obtain rfl : k = 0 := by omega
 exact h
theorem zg7 (g : Nat → List UInt8) (m : Nat) (p : List UInt8) :
 zY (0 + m * 1 + 1) (.fn fun j => some (es (upd g m p) j)) (.fn fun k => bif (0 + m * 1).ble k && k.blt (0 + m * 1 + 1 * 1) then (fun k => (T.leaf.node (some (AV.str p)) T.leaf).get (0 + k)) (k - (0 + m * 1)) else (T.fn fun j => some (es g j)).get k) := by
 intro k v hk h
 have h : some (es (upd g m p) k) = some v := h
 rw [← h]
 show (bif (0 + m * 1).ble k && k.blt (0 + m * 1 + 1 * 1) then (T.leaf.node (some (AV.str p)) T.leaf).get (0 + (k - (0 + m * 1))) else some (es g k)) = _
 by_cases hin : k = m
 · have e : ((0 + m * 1).ble k && k.blt (0 + m * 1 + 1 * 1)) = true := by
    rw [Bool.and_eq_true, Nat.ble_eq, Nat.blt_eq]; omega
   have e2 : 0 + (k - (0 + m * 1)) = 0 := by omega
   rw [e, cond_true, e2]
   show some (AV.str p) = _
   unfold es upd
   rw [if_pos hin]
 · have e : ((0 + m * 1).ble k && k.blt (0 + m * 1 + 1 * 1)) = false := by
    rw [← Bool.not_eq_true, Bool.and_eq_true, Nat.ble_eq, Nat.blt_eq]; omega
   rw [e, cond_false]
   unfold es upd
   rw [if_neg hin]
def zk (p : List UInt8) : List UInt8 := row (p.length : Nat) ++ p
noncomputable def wj (k : Int) (t : List UInt8) (ps : List (List UInt8)) (ms : List Dg) (nu : Int) : List UInt8 :=
 row k ++ (row (t.length : Nat) ++ (t ++ (row (ps.length : Nat) ++ (ps.flatMap zk ++ (row ((zS ms).length : Nat) ++ (zS ms ++ row nu))))))
section
variable {s : List UInt8}
end
end Go.Proofs.YtdbfpjgnlfejmaaDoor.dg
end
