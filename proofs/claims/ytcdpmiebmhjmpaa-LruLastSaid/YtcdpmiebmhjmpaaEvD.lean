/- Heaps: the evaluator's objects and the model's blocks. -/
import Derived.Test.YtcdpmiebmhjmpaaEvC
import Derived.Laws.World
import Derived.Below
namespace Go.Proofs.Ytcdpmiebmhjmpaa.Ev
open Go

/-- A version lies in the heap. -/
def VerRel (P : Program) (R : Bij) (w : World) (c : T AV) (el : TypeId) (fz : Nat) (sg : Bool) (e : Nat) (L : Loc) : Prop :=
  ∃ (cs : Array Value) (a b : Nat), w.heap[L.block]? = some (.cells cs el (a, b)) ∧ e ≤ cs.size + L.minus ∧
    (L.kap * P.cellsOf el = cs.size + L.minus ∧ P.cellsOf el ∣ L.minus) ∧
    ((a ≤ b ∧ (sg = false → L.kap ≤ L.minus + 9223372036854775807)) ∧ ∀ j, a ≤ j → j < b → j + L.minus < fz ∨ (sg = true ∧ j = cs.size)) ∧
    (∀ k v, k < e → L.minus ≤ k → c.get k = some v → ∃ x, cs[k - L.minus]? = some x ∧ VRel R v x)

def ERel (R : Bij) (a : AEntry) (e : MapEntry) : Prop := VRel R a.key e.key ∧ VRel R a.val e.val ∧ a.born = e.born

def All2 {α β : Type} (r : α → β → Prop) : List α → List β → Prop
  | [], l => l = []
  | a :: as, l => ∃ b bs, l = b :: bs ∧ r a b ∧ All2 r as bs

theorem All2.mono {α β : Type} {r r' : α → β → Prop} (h : ∀ a b, r a b → r' a b) : ∀ {as : List α} {bs : List β}, All2 r as bs → All2 r' as bs
  | [], _, e => e
  | _ :: _, _, e => let ⟨b, bs, e1, e2, e3⟩ := e; ⟨b, bs, e1, h _ _ e2, All2.mono h e3⟩

theorem All2.length {α β : Type} {r : α → β → Prop} : ∀ {as : List α} {bs : List β}, All2 r as bs → bs.length = as.length
  | [], _, e => by cases e; rfl
  | _ :: _, _, e => by obtain ⟨b, bs, rfl, _, e⟩ := e; simp [All2.length e]

theorem All2.append {α β : Type} {r : α → β → Prop} : ∀ {as : List α} {bs : List β} {as' : List α} {bs' : List β}, All2 r as bs → All2 r as' bs' → All2 r (as ++ as') (bs ++ bs')
  | [], _, _, _, e, e' => by cases e; exact e'
  | _ :: _, _, _, _, e, e' => by obtain ⟨b, bs, rfl, h, e⟩ := e; exact ⟨b, _, rfl, h, All2.append e e'⟩

theorem All2.get {α β : Type} {r : α → β → Prop} : ∀ {as : List α} {bs : List β}, All2 r as bs → ∀ (i : Nat) (a : α), as[i]? = some a → ∃ b, bs[i]? = some b ∧ r a b
  | [], _, _, i, x, e => by simp at e
  | _ :: _, _, h, i, x, e => by
    obtain ⟨y, ys, rfl, h1, h2⟩ := h
    cases i with
    | zero => simp at e; subst e; exact ⟨y, by simp, h1⟩
    | succ i => simp at e; obtain ⟨z, hz, hr⟩ := All2.get h2 i x e; exact ⟨z, by simpa using hz, hr⟩

theorem All2.of_get {α β : Type} {r : α → β → Prop} : ∀ {xs : List α} {ys : List β}, ys.length = xs.length → (∀ (i : Nat) (x : α), xs[i]? = some x → ∃ y, ys[i]? = some y ∧ r x y) → All2 r xs ys
  | [], ys, h, _ => by cases ys <;> simp_all [All2]
  | x :: xs, ys, h, g => by
    cases ys with
    | nil => simp at h
    | cons y ys =>
      obtain ⟨z, hz, hr⟩ := g 0 x (by simp)
      simp at hz; subst hz
      refine ⟨y, ys, rfl, hr, All2.of_get (by simpa using h) fun i x' e => ?_⟩
      obtain ⟨z, hz, hr⟩ := g (i + 1) x' (by simpa using e)
      exact ⟨z, by simpa using hz, hr⟩

theorem All2.take {α β : Type} {r : α → β → Prop} {xs : List α} {ys : List β} (h : All2 r xs ys) (n : Nat) : All2 r (xs.take n) (ys.take n) := by
  refine .of_get (by simp [h.length]) fun i x e => ?_
  rw [List.getElem?_take] at e ⊢
  split at e
  · rename_i hi; rw [if_pos hi]; exact h.get i x e
  · cases e

theorem All2.drop {α β : Type} {r : α → β → Prop} {xs : List α} {ys : List β} (h : All2 r xs ys) (n : Nat) : All2 r (xs.drop n) (ys.drop n) := by
  refine .of_get (by simp [h.length]) fun i x e => ?_
  rw [List.getElem?_drop] at e ⊢
  exact h.get _ x e

def TgtRel (R : Bij) : ATgt → Target → Prop
  | .fn f cap, t => (∀ l, f ≠ .yield l) ∧ ∃ c : List Value, t = .fn f c.toArray ∧ VRels R cap c
  | .nil, t => t = .nil
  | .collected i, t => ∃ L, R i 0 = some L ∧ t = .collected L.block

def DefRel (R : Bij) (a : ADef) (d : Deferred) : Prop := TgtRel R a.tgt d.target ∧ VRels R a.args d.args.toList

/-- Slots: what is known of them. -/
def TRel (R : Bij) (t : T AV) (n : Nat) (a : Array Value) : Prop :=
  a.size = n ∧ ∀ i v, t.get i = some v → ∃ x, a[i]? = some x ∧ VRel R v x

structure LoopRel (R : Bij) (a : ALoop) (l : Loop) : Prop where
  state : l.state = a.state
  pending : l.pending = a.pending
  fn : l.fn = a.fn
  tmps : TRel R a.tmps a.n l.tmps
  params : l.params = a.params
  assign : l.assign = a.assign
  body : l.body = a.body
  defers : ∃ L, R a.defers 0 = some L ∧ l.defers = L.block

def ODefs (R : Bij) : Option (List ADef) → Option (List Deferred) → Prop
  | none, o => o = none
  | some ds, o => ∃ l, o = some l ∧ All2 (DefRel R) ds l

def ObjRel (P : Program) (R : Bij) (w : World) (i : Nat) : AObj → Prop
  | .cells c n el lo hi nv fz sg ex => lo ≤ hi ∧ hi < nv ∧ (∀ r, nv ≤ r → R i r = none) ∧
      (∀ r e, lo ≤ r → r ≤ hi → extOf ex n hi r = some e → ∃ L, R i r = some L ∧ VerRel P R w c el fz sg e L) ∧
      ∀ r e, lo ≤ r → r ≤ hi → extOf ex n hi r = some e → e ≤ n
  | .map es clock => ∃ L es', R i 0 = some L ∧ w.heap[L.block]? = some (.map es' clock) ∧ All2 (ERel R) es es'.toList
  | .iter s pos => ∃ L, R i 0 = some L ∧ w.heap[L.block]? = some (.stringIter ⟨s.toArray⟩ pos)
  | .loop lp => ∃ L lp', R i 0 = some L ∧ w.heap[L.block]? = some (.loop lp') ∧ LoopRel R lp lp'
  | .dfrd ds => ∃ L ds', R i 0 = some L ∧ w.heap[L.block]? = some (.deferred ds') ∧ ODefs R ds ds'
  | .ro c lo n => ∃ L cs el fz, R i 0 = some L ∧ L.minus = 0 ∧ w.heap[L.block]? = some (.cells cs el fz) ∧ n ≤ cs.size ∧
      ∀ k v, lo ≤ k → k < n → c.get k = some v → ∃ x, cs[k]? = some x ∧ VRel (fun _ _ => none) v x

def AObj.isRo : AObj → Bool
  | .ro .. => true
  | _ => false

/-- A world, blocks of it that may be changed, and what some names stand for. -/
structure Env extends World where
  own : Nat → Prop
  rob : Nat → Prop
  pin : Bij

/-- Where the blocks begin; objects that the evaluator has made and the model has not. -/
structure Base where
  env : Env
  ro : Nat → Prop
  pend : Nat → Option AObj
  tag : Nat → Nat × Nat

abbrev Base.n (B : Base) : Nat := B.env.heap.size

/-- Blocks that may be changed. -/
def Base.may (B : Base) (b : Nat) : Prop := B.n ≤ b ∨ B.env.own b

structure HRel (P : Program) (B : Base) (R : Bij) (h : AHeap) (w : World) : Prop where
  fresh : ∀ i, h.next ≤ i → ∀ r, R i r = none
  obj : ∀ i o, h.get i = some o → B.pend i = none → ObjRel P R w i o
  pend : ∀ i o, B.pend i = some o → i < h.next ∧ h.get i = some o ∧ ∀ r, R i r = none
  place : ∀ i r L, R i r = some L → (B.may L.block ∨ B.ro i) ∧ L.block < w.heap.size
  rd : ∀ i, B.ro i → i < h.next ∧ ∀ o, h.get i = some o → o.isRo = true
  rp : ∀ i, B.ro i → B.pend i = none
  rol : ∀ i r L, B.ro i → R i r = some L → B.env.rob L.block
  low : ∀ b, ¬ B.may b → w.heap[b]? = B.env.heap[b]?
  pin : ∀ i r L, B.env.pin i r = some L → R i r = some L
  apart : ∀ i r i' r' L L', R i r = some L → R i' r' = some L' → L.block = L'.block → (¬ B.ro i ∨ ¬ B.ro i') → i = i'
  same : ∀ i r r' L L', R i r = some L → R i r' = some L' → L.block = L'.block → L.minus = L'.minus
  glob : ∀ g c, h.glob.get g = some c → ¬ B.may g ∧ ∃ cs el fz, w.heap[g]? = some (.cells cs el fz) ∧ ∀ k v, c.get k = some v → ∃ x, cs[k]? = some x ∧ VRel (fun _ _ => none) v x

structure Keeps (R : Bij) (w : World) (R' : Bij) (w' : World) : Prop where
  os : w'.os = w.os
  tape : w'.tape = w.tape
  output : w'.output = w.output
  size : w.heap.size ≤ w'.heap.size
  le : R.le R'
  other : ∀ b, b < w.heap.size → (∀ i r L, R i r = some L → L.block ≠ b) → w'.heap[b]? = w.heap[b]? ∧ (∀ i r L, R' i r = some L → L.block ≠ b)
  drawn : w.drawn ≤ w'.drawn

theorem Keeps.refl (R : Bij) (w : World) : Keeps R w R w := ⟨rfl, rfl, rfl, Nat.le_refl _, R.le_refl, fun _ _ h => ⟨rfl, h⟩, Nat.le_refl _⟩
theorem Keeps.trans {R R' R'' : Bij} {w w' w'' : World} (h : Keeps R w R' w') (k : Keeps R' w' R'' w'') : Keeps R w R'' w'' :=
  ⟨k.os.trans h.os, k.tape.trans h.tape, k.output.trans h.output, Nat.le_trans h.size k.size, Bij.le_trans h.le k.le, fun b hb hn => by
    obtain ⟨e1, n1⟩ := h.other b hb hn
    obtain ⟨e2, n2⟩ := k.other b (Nat.lt_of_lt_of_le hb h.size) n1
    exact ⟨e2.trans e1, n2⟩, Nat.le_trans h.drawn k.drawn⟩

theorem TRel.mono {R R' : Bij} (h : R.le R') {t : T AV} {n : Nat} {a : Array Value} (k : TRel R t n a) : TRel R' t n a :=
  ⟨k.1, fun i v e => let ⟨x, e1, e2⟩ := k.2 i v e; ⟨x, e1, VRel.mono h _ _ e2⟩⟩

theorem TgtRel.mono {R R' : Bij} (h : R.le R') {a : ATgt} {d : Target} (k : TgtRel R a d) : TgtRel R' a d := by
  cases a with
  | fn f c => obtain ⟨n, l, e, r⟩ := k; exact ⟨n, l, e, VRels.mono h _ _ r⟩
  | nil => exact k
  | collected i => obtain ⟨L, e, r⟩ := k; exact ⟨L, h _ _ _ e, r⟩

theorem DefRel.mono {R R' : Bij} (h : R.le R') {a : ADef} {d : Deferred} (k : DefRel R a d) : DefRel R' a d := ⟨k.1.mono h, VRels.mono h _ _ k.2⟩

theorem LoopRel.mono {R R' : Bij} (h : R.le R') {a : ALoop} {l : Loop} (k : LoopRel R a l) : LoopRel R' a l :=
  ⟨k.state, k.pending, k.fn, k.tmps.mono h, k.params, k.assign, k.body, let ⟨L, e, r⟩ := k.defers; ⟨L, h _ _ _ e, r⟩⟩

theorem VerRel.mono {P : Program} {R R' : Bij} {w w' : World} (h : R.le R') {c : T AV} {el : TypeId} {fz : Nat} {sg : Bool} {e : Nat} {L : Loc}
    (hw : w'.heap[L.block]? = w.heap[L.block]?) (k : VerRel P R w c el fz sg e L) : VerRel P R' w' c el fz sg e L := by
  obtain ⟨cs, a, b, h1, h2, h3, h4, h5⟩ := k
  exact ⟨cs, a, b, hw.trans h1, h2, h3, h4, fun k v a1 a2 a3 => let ⟨x, e1, e2⟩ := h5 k v a1 a2 a3; ⟨x, e1, VRel.mono h _ _ e2⟩⟩

theorem ODefs.mono {R R' : Bij} (h : R.le R') {a : Option (List ADef)} {d : Option (List Deferred)} (k : ODefs R a d) : ODefs R' a d := by
  cases a with
  | none => exact k
  | some ds => obtain ⟨l, e, r⟩ := k; exact ⟨l, e, r.mono fun _ _ => DefRel.mono h⟩

/-- An object that is not touched. -/
theorem ObjRel.mono {P : Program} {R R' : Bij} {w w' : World} (h : R.le R') {i : Nat} {o : AObj}
    (hi : ∀ r, R' i r = R i r) (hw : ∀ r L, R i r = some L → w'.heap[L.block]? = w.heap[L.block]?) (k : ObjRel P R w i o) : ObjRel P R' w' i o := by
  cases o with
  | cells c n el lo hi' nv fz sg ex =>
    obtain ⟨a1, a2, a3, a4, a5⟩ := k
    refine ⟨a1, a2, fun r hr => by rw [hi]; exact a3 r hr, fun r e b1 b2 b3 => ?_, a5⟩
    obtain ⟨L, e1, e2⟩ := a4 r e b1 b2 b3
    exact ⟨L, by rw [hi]; exact e1, e2.mono h (hw _ _ e1)⟩
  | map es clock =>
    obtain ⟨L, es', e1, e2, e3⟩ := k
    exact ⟨L, es', h _ _ _ e1, (hw _ _ e1).trans e2, e3.mono fun _ _ r => ⟨VRel.mono h _ _ r.1, VRel.mono h _ _ r.2.1, r.2.2⟩⟩
  | iter s pos =>
    obtain ⟨L, e1, e2⟩ := k
    exact ⟨L, h _ _ _ e1, (hw _ _ e1).trans e2⟩
  | loop lp =>
    obtain ⟨L, lp', e1, e2, e3⟩ := k
    exact ⟨L, lp', h _ _ _ e1, (hw _ _ e1).trans e2, e3.mono h⟩
  | dfrd ds =>
    obtain ⟨L, ds', e1, e2, e3⟩ := k
    exact ⟨L, ds', h _ _ _ e1, (hw _ _ e1).trans e2, e3.mono h⟩
  | ro c lo n =>
    obtain ⟨L, cs, el, fz, e1, e2, e3, e4, e5⟩ := k
    exact ⟨L, cs, el, fz, h _ _ _ e1, e2, (hw _ _ e1).trans e3, e4, e5⟩

theorem HRel.live {P : Program} {B : Base} {R : Bij} {h : AHeap} {w : World} (k : HRel P B R h w) {i r : Nat} {L : Loc} (e : R i r = some L) : B.pend i = none := by
  cases hp : B.pend i with
  | none => rfl
  | some o => rw [(k.pend i o hp).2.2 r] at e; cases e

theorem HRel.obj' {P : Program} {B : Base} {R : Bij} {h : AHeap} {w : World} (k : HRel P B R h w) {i r : Nat} {L : Loc} (e : R i r = some L) {o : AObj} (ho : h.get i = some o) : ObjRel P R w i o := k.obj i o ho (k.live e)

theorem HRel.notRo {P : Program} {B : Base} {R : Bij} {h : AHeap} {w : World} (k : HRel P B R h w) {i : Nat} {o : AObj} (ho : h.get i = some o) (hr : o.isRo = false) : ¬ B.ro i := fun e => by
  rw [(k.rd i e).2 o ho] at hr; cases hr

theorem HRel.newRo {P : Program} {B : Base} {R : Bij} {h : AHeap} {w : World} (k : HRel P B R h w) {i : Nat} (hi : h.next ≤ i) : ¬ B.ro i := fun e => absurd (k.rd i e).1 (Nat.not_lt.2 hi)

theorem HRel.off {P : Program} {B : Base} {R : Bij} {h : AHeap} {w : World} (k : HRel P B R h w) {i r : Nat} {L : Loc} (hL : R i r = some L) (hn : ¬ B.ro i) {b : Nat} (hb : ¬ B.may b) : b ≠ L.block := fun e => by
  rcases (k.place i r L hL).1 with h1 | h1
  · rw [e] at hb; exact hb h1
  · exact hn h1

theorem Base.low_lt {B : Base} {b : Nat} (h : ¬ B.may b) : b < B.n := Nat.not_le.1 fun e => h (.inl e)

/-- One object turns, or comes. -/
theorem HRel.touch {P : Program} {B : Base} {R R' : Bij} {h h' : AHeap} {w w' : World} (k : HRel P B R h w) (i : Nat) (o : AObj) (hp : B.pend i = none)
    (hle : R.le R') (hn : h.next ≤ h'.next) (hi : i < h'.next) (hget : ∀ j, h'.get j = if j = i then some o else h.get j)
    (hR : ∀ j r, j ≠ i → R' j r = R j r) (hw : ∀ j r L, j ≠ i → R j r = some L → w'.heap[L.block]? = w.heap[L.block]?)
    (ho : ObjRel P R' w' i o) (hs : w.heap.size ≤ w'.heap.size)
    (hnew : ∀ r L, R' i r = some L → (B.may L.block ∨ B.ro i) ∧ L.block < w'.heap.size ∧ ∀ j r' L', j ≠ i → R j r' = some L' → L'.block ≠ L.block)
    (hsame : ∀ r r' L L', R' i r = some L → R' i r' = some L' → L.block = L'.block → L.minus = L'.minus)
    (hglob : h'.glob = h.glob) (hlow : ∀ b, ¬ B.may b → w'.heap[b]? = w.heap[b]?) (hro : ¬ B.ro i) : HRel P B R' h' w' where
  low b hb := (hlow b hb).trans (k.low b hb)
  rp := k.rp
  rol j r L hj e := by
    rw [hR j r (fun h => hro (h ▸ hj))] at e
    exact k.rol j r L hj e
  pin j r L e := hle _ _ _ (k.pin j r L e)
  rd j hj := by
    have hji : j ≠ i := fun e => hro (e ▸ hj)
    refine ⟨Nat.lt_of_lt_of_le (k.rd j hj).1 hn, fun o' e => ?_⟩
    rw [hget, if_neg hji] at e
    exact (k.rd j hj).2 o' e
  glob g c e := by
    rw [hglob] at e
    obtain ⟨e1, cs, el, fz, e2, e3⟩ := k.glob g c e
    exact ⟨e1, cs, el, fz, (hlow g e1).trans e2, e3⟩
  same j r r' L L' e e' hb := by
    by_cases hj : j = i
    · subst hj; exact hsame r r' L L' e e' hb
    · rw [hR j r hj] at e; rw [hR j r' hj] at e'; exact k.same j r r' L L' e e' hb
  fresh j hj r := by
    have : j ≠ i := by omega
    rw [hR j r this]; exact k.fresh j (Nat.le_trans hn hj) r
  pend j o' e := by
    have hj : j ≠ i := fun hh => by rw [hh, hp] at e; cases e
    obtain ⟨e1, e2, e3⟩ := k.pend j o' e
    exact ⟨Nat.lt_of_lt_of_le e1 hn, by rw [hget, if_neg hj]; exact e2, fun r => by rw [hR j r hj]; exact e3 r⟩
  obj j o' e hpj := by
    rw [hget] at e
    by_cases hj : j = i
    · subst hj; rw [if_pos rfl] at e; cases e; exact ho
    · rw [if_neg hj] at e
      exact (k.obj j o' e hpj).mono hle (fun r => hR j r hj) (fun r L e => hw j r L hj e)
  place j r L e := by
    by_cases hj : j = i
    · subst hj; exact ⟨(hnew r L e).1, (hnew r L e).2.1⟩
    · rw [hR j r hj] at e
      exact ⟨(k.place j r L e).1, Nat.lt_of_lt_of_le (k.place j r L e).2 hs⟩
  apart j r j' r' L L' e e' hb hor := by
    by_cases hj : j = i
    · subst hj
      by_cases hj' : j' = j
      · exact hj'.symm
      · rw [hR j' r' hj'] at e'
        exact absurd hb.symm ((hnew r L e).2.2 j' r' L' hj' e')
    · rw [hR j r hj] at e
      by_cases hj' : j' = i
      · subst hj'; exact absurd hb ((hnew r' L' e').2.2 j r L hj e)
      · rw [hR j' r' hj'] at e'; exact k.apart j r j' r' L L' e e' hb hor

def Bij.upd (R : Bij) (i r : Nat) (L : Loc) : Bij := fun j s => if j = i ∧ s = r then some L else R j s

theorem Bij.upd_same (R : Bij) (i r : Nat) (L : Loc) : R.upd i r L i r = some L := by simp [Bij.upd]
theorem Bij.upd_other (R : Bij) {i r j s : Nat} (L : Loc) (h : ¬ (j = i ∧ s = r)) : R.upd i r L j s = R j s := by simp [Bij.upd, h]
theorem Bij.le_upd (R : Bij) {i r : Nat} (L : Loc) (h : R i r = none) : R.le (R.upd i r L) := by
  intro j s M e
  by_cases hc : j = i ∧ s = r
  · rw [hc.1, hc.2, h] at e; cases e
  · rw [R.upd_other L hc]; exact e

theorem heap_alloc_lt (w : World) (o : Obj) {b : Nat} (h : b < w.heap.size) : (w.alloc o).heap[b]? = w.heap[b]? := by
  show (w.heap.push o)[b]? = _
  rw [Array.getElem?_push, if_neg (by omega)]
theorem heap_alloc_new (w : World) (o : Obj) : (w.alloc o).heap[w.heap.size]? = some o := by
  show (w.heap.push o)[w.heap.size]? = _
  rw [Array.getElem?_push, if_pos rfl]

/-- A new object in a new block. The world may have drawn. -/
theorem HRel.new {P : Program} {B : Base} {R : Bij} {h : AHeap} {w w' : World} (k : HRel P B R h w) (hB : B.n ≤ w.heap.size) (o : AObj) (ob : Obj) (L : Loc) (hL : L.block = w.heap.size)
    (hh : w'.heap = w.heap.push ob) (hos : w'.os = w.os) (ht : w'.tape = w.tape) (hout : w'.output = w.output)
    (ho : ObjRel P (R.upd h.next 0 L) w' h.next o) (hdr : w.drawn ≤ w'.drawn := by first | exact Nat.le_refl _ | exact Nat.le_succ _ | assumption) : HRel P B (R.upd h.next 0 L) (h.new o) w' ∧ Keeps R w (R.upd h.next 0 L) w' := by
  have hfree := k.fresh h.next (Nat.le_refl _)
  have hle := R.le_upd (i := h.next) (r := 0) L (hfree 0)
  have hsz : w'.heap.size = w.heap.size + 1 := by rw [hh]; simp
  have hold : ∀ b, b < w.heap.size → w'.heap[b]? = w.heap[b]? := fun b hb => by rw [hh, Array.getElem?_push, if_neg (by omega)]
  have hpn : B.pend h.next = none := by
    cases hp : B.pend h.next with
    | none => rfl
    | some o => exact absurd (k.pend _ _ hp).1 (Nat.lt_irrefl _)
  refine ⟨k.touch h.next o hpn hle (by rw [next_new]; omega) (by rw [next_new]; omega) (fun j => get_new h j o)
    (fun j r hj => R.upd_other L (by intro e; exact hj e.1)) (fun j r M _ e => hold _ (k.place j r M e).2) ho (by omega) ?_ ?_ (glob_new h o) (fun b hb => hold b (Nat.lt_of_lt_of_le (Base.low_lt hb) hB)) (k.newRo (Nat.le_refl _)), ?_⟩
  · intro r M e
    by_cases hr : r = 0
    · subst hr; rw [R.upd_same] at e; cases e
      exact ⟨.inl (.inl (by rw [hL]; exact hB)), by omega, fun j r' M' _ e' he => by have := (k.place j r' M' e').2; omega⟩
    · rw [R.upd_other L (by intro e; exact hr e.2), hfree] at e; cases e
  · intro r r' M M' e e' _
    have : ∀ {r M}, R.upd h.next 0 L h.next r = some M → M = L := by
      intro r M e
      by_cases hr : r = 0
      · subst hr; rw [R.upd_same] at e; cases e; rfl
      · rw [R.upd_other L (by intro e; exact hr e.2), hfree] at e; cases e
    rw [this e, this e']
  · refine ⟨hos, ht, hout, by omega, hle, fun b hb hn => ⟨hold b hb, fun j r M e => ?_⟩, hdr⟩
    by_cases hc : j = h.next ∧ r = 0
    · rw [hc.1, hc.2, R.upd_same] at e; cases e; omega
    · rw [R.upd_other L hc] at e; exact hn j r M e

/-- A block of cells laid anew. -/
def putRow (w : World) (b : Nat) (cs : Array Value) (el : TypeId) (fz : Nat × Nat) : World := { w with heap := w.heap.setIfInBounds b (.cells cs el fz) }

theorem putRow_self (w : World) (b : Nat) (cs : Array Value) (el : TypeId) (fz : Nat × Nat) (h : b < w.heap.size) : (putRow w b cs el fz).heap[b]? = some (.cells cs el fz) := by
  simp [putRow, h]
theorem putRow_other (w : World) {b b' : Nat} (cs : Array Value) (el : TypeId) (fz : Nat × Nat) (h : b' ≠ b) : (putRow w b cs el fz).heap[b']? = w.heap[b']? := by
  simp only [putRow]
  rw [Array.getElem?_setIfInBounds, if_neg (fun e => h e.symm)]
theorem putRow_size (w : World) (b : Nat) (cs : Array Value) (el : TypeId) (fz : Nat × Nat) : (putRow w b cs el fz).heap.size = w.heap.size := by simp [putRow]

theorem setCell_putRow (w : World) (b k : Nat) (v : Value) {cs : Array Value} {el : TypeId} {fz : Nat × Nat} (h : w.heap[b]? = some (.cells cs el fz)) :
    w.setCell ⟨b, k, none⟩ v = putRow w b (cs.setIfInBounds k v) el fz := by
  have hb : b < w.heap.size := by
    rcases Nat.lt_or_ge b w.heap.size with h' | h'
    · exact h'
    · rw [Array.getElem?_eq_none h'] at h; cases h
  simp only [World.setCell, putRow]
  congr 1
  apply Array.ext_getElem?
  intro i
  rw [Array.getElem?_modify, Array.getElem?_setIfInBounds]
  by_cases hi : b = i
  · subst hi
    rw [if_pos rfl, if_pos rfl, if_pos hb, h]
    obtain ⟨a, c⟩ := fz
    simp
  · rw [if_neg hi, if_neg hi]

theorem putRow_putRow (w : World) (b : Nat) (cs cs' : Array Value) (el el' : TypeId) (fz fz' : Nat × Nat) : putRow (putRow w b cs el fz) b cs' el' fz' = putRow w b cs' el' fz' := by
  simp [putRow, Array.setIfInBounds_setIfInBounds]

theorem cell?_row (w : World) (b k : Nat) {cs : Array Value} {el : TypeId} {fz : Nat × Nat} (h : w.heap[b]? = some (.cells cs el fz)) : w.cell? ⟨b, k, none⟩ = cs[k]? := by
  simp [World.cell?, h]
theorem frozen?_row (w : World) (b k : Nat) {cs : Array Value} {el : TypeId} {a c : Nat} (h : w.heap[b]? = some (.cells cs el (a, c))) : w.frozen? ⟨b, k, none⟩ = (decide (a ≤ k) && decide (k < c)) := by
  simp [World.frozen?, h]

theorem add_plain (b o n : Nat) : (⟨b, o, none⟩ : Addr).add n = ⟨b, o + n, none⟩ := by
  by_cases h : n = 0
  · subst h; simp [Addr.add]
  · simp [Addr.add, h]

/-- Cells laid one behind the other. -/
def updL (cs : Array Value) (off : Nat) : List Value → Array Value
  | [] => cs
  | v :: r => updL (cs.setIfInBounds off v) (off + 1) r

theorem updL_size : ∀ (vs : List Value) (cs : Array Value) (off : Nat), (updL cs off vs).size = cs.size
  | [], _, _ => rfl
  | v :: r, cs, off => by simp [updL, updL_size r]

theorem updL_get : ∀ (vs : List Value) (cs : Array Value) (off k : Nat), off + vs.length ≤ cs.size →
    (updL cs off vs)[k]? = if off ≤ k ∧ k < off + vs.length then vs[k - off]? else cs[k]?
  | [], cs, off, k, _ => by simp [updL]; omega
  | v :: r, cs, off, k, h => by
    simp only [List.length_cons] at h
    rw [updL, updL_get r _ _ _ (by simp; omega)]
    by_cases h1 : off + 1 ≤ k ∧ k < off + 1 + r.length
    · rw [if_pos h1, if_pos (by simp; omega)]
      rw [show k - off = (k - (off + 1)) + 1 from by omega]; simp
    · rw [if_neg h1, Array.getElem?_setIfInBounds]
      by_cases h2 : off = k
      · subst h2
        rw [if_pos rfl, if_pos (by omega), if_pos (by simp)]; simp
      · rw [if_neg h2, if_neg (by simp; omega)]

theorem storeList_get : ∀ (vs : List AV) (c : T AV) (off k : Nat),
    (storeList c off vs).get k = if off ≤ k ∧ k < off + vs.length then vs[k - off]? else c.get k
  | [], c, off, k => by simp [storeList]; omega
  | v :: r, c, off, k => by
    rw [storeList, T.seq_eq, storeList_get r]
    by_cases h1 : off + 1 ≤ k ∧ k < off + 1 + r.length
    · rw [if_pos h1, if_pos (by simp; omega)]
      rw [show k - off = (k - (off + 1)) + 1 from by omega]; simp
    · rw [if_neg h1, T.get_set]
      by_cases h2 : k = off
      · subst h2
        rw [if_pos rfl, if_pos (by simp)]; simp
      · rw [if_neg h2, if_neg (by simp; omega)]

theorem run_storeRow (P : Program) (b o : Nat) (el : TypeId) (f0 f1 : Nat) : ∀ (vs : List Value) (i : Nat) (w : World) (cs : Array Value),
    w.heap[b]? = some (.cells cs el (f0, f1)) → (∀ v ∈ vs, v.oneCell' = true) → o + i + vs.length ≤ cs.size →
    (∀ k, o + i ≤ k → k < o + i + vs.length → ¬ (f0 ≤ k ∧ k < f1)) →
    (storeCells ⟨b, o, none⟩ vs i).run P w = .ok () (putRow w b (updL cs (o + i) vs) el (f0, f1))
  | [], i, w, cs, h, _, _, _ => by
    simp only [storeCells, Sem.run_pure, updL]
    congr 1
    have hb : b < w.heap.size := by
      rcases Nat.lt_or_ge b w.heap.size with h' | h'
      · exact h'
      · rw [Array.getElem?_eq_none h'] at h; cases h
    simp only [putRow]
    have : w.heap.setIfInBounds b (.cells cs el (f0, f1)) = w.heap := by
      apply Array.ext_getElem?
      intro j
      rw [Array.getElem?_setIfInBounds]
      by_cases hj : b = j
      · subst hj; rw [if_pos rfl, if_pos hb, h]
      · rw [if_neg hj]
    rw [this]
  | v :: r, i, w, cs, h, ho, hs, hf => by
    simp only [List.length_cons] at hs hf
    have hb : b < w.heap.size := by
      rcases Nat.lt_or_ge b w.heap.size with h' | h'
      · exact h'
      · rw [Array.getElem?_eq_none h'] at h; cases h
    have hc : w.cell? ((⟨b, o, none⟩ : Addr).add i) = some cs[o + i] := by
      rw [add_plain, cell?_row w b _ h]; exact Array.getElem?_eq_getElem (by omega)
    have hz : w.frozen? ((⟨b, o, none⟩ : Addr).add i) = false := by
      rw [add_plain, frozen?_row w b _ h]
      have := hf (o + i) (by omega) (by omega)
      simp only [Bool.and_eq_false_iff, decide_eq_false_iff_not]
      omega
    simp only [storeCells, Sem.run_bind]
    rw [run_store P w _ v _ (ho v (by simp)), hc]
    simp only [hz, Result.andThen_ok, Bool.false_eq_true, if_false]
    rw [add_plain, setCell_putRow w b (o + i) v h]
    have h' := putRow_self w b (cs.setIfInBounds (o + i) v) el (f0, f1) hb
    rw [run_storeRow P b o el f0 f1 r (i + 1) _ _ h' (fun x hx => ho x (by simp [hx])) (by simp; omega) (fun k a1 a2 => hf k (by omega) (by omega)), putRow_putRow]
    rfl

theorem run_loadRow (P : Program) (b o : Nat) (el : TypeId) (fz : Nat × Nat) (w : World) (cs : Array Value) (h : w.heap[b]? = some (.cells cs el fz)) :
    ∀ (n i : Nat) (acc : Array Value), o + i + n ≤ cs.size → (loadCellsFrom ⟨b, o, none⟩ i n acc).run P w = .ok (acc ++ cs.extract (o + i) (o + i + n)) w
  | 0, i, acc, _ => by simp [loadCellsFrom]; exact Nat.min_le_left _ _
  | n + 1, i, acc, hs => by
    have hc : w.cell? ((⟨b, o, none⟩ : Addr).add i) = some cs[o + i] := by
      rw [add_plain, cell?_row w b _ h]; exact Array.getElem?_eq_getElem (by omega)
    simp only [loadCellsFrom, Sem.run_bind, run_load, hc, Result.andThen_ok]
    rw [run_loadRow P b o el fz w cs h n (i + 1) _ (by omega)]
    congr 1
    apply Array.ext_getElem?
    intro j
    simp only [Array.getElem?_append, Array.size_push, Array.getElem?_push, Array.getElem?_extract]
    by_cases h1 : j < acc.size
    · rw [if_pos (by omega), if_neg (by omega), if_pos h1]
    · rw [if_neg h1]
      by_cases h2 : j = acc.size
      · subst h2
        rw [if_pos (by omega), if_pos rfl, if_pos (by omega)]
        simp
      · rw [if_neg (by omega)]
        by_cases h3 : j - (acc.size + 1) < min (o + (i + 1) + n) cs.size - (o + (i + 1))
        · rw [if_pos h3, if_pos (by omega)]; congr 1; omega
        · rw [if_neg h3, if_neg (by omega)]

end Go.Proofs.Ytcdpmiebmhjmpaa.Ev
