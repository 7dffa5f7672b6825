/- What a frame of the evaluator says of a frame of the model's. -/
import Derived.Test.YtcdpmiebmhjmpaaEvT
import Derived.Calls
namespace Go.Proofs.Ytcdpmiebmhjmpaa.Ev
open Go

def ItemRel (R : Bij) : AItem → Item → Prop
  | .code c, it => it = .code c
  | .inBlock i, it => it = .inBlock i
  | .inLoop b, it => it = .inLoop b
  | .inScope b, it => it = .inScope b
  | .ops all l, it => ∃ ops todo, it = .inRegion ops todo ∧ ops.toList = all ∧ l.map some = todo.map (fun i => ops[i]?)
  | .drw _ _ _, _ => False
  | .inRange i, it => ∃ L, R i 0 = some L ∧ it = .inRangeFunc L.block
  | .endRange i, it => ∃ L, R i 0 = some L ∧ it = .endRangeFunc L.block
  | .beginRound, it => it = .beginRound

theorem ItemRel.mono {R R' : Bij} (h : R.le R') {a : AItem} {b : Item} (k : ItemRel R a b) : ItemRel R' a b := by
  cases a with
  | inRange i => obtain ⟨L, e, r⟩ := k; exact ⟨L, h _ _ _ e, r⟩
  | endRange i => obtain ⟨L, e, r⟩ := k; exact ⟨L, h _ _ _ e, r⟩
  | _ => exact k

def EntRel (R : Bij) (a : AV × Bool) (e : PanicEntry) : Prop := VRel R a.1 e.v ∧ e.recovered = a.2 ∧ e.goexit = false

def ModeRel (R : Bij) : AMode → FrameMode → Prop
  | .run, m => m = .run
  | .returning, m => m = .returning
  | .panicking c, m => ∃ c', m = .panicking c' ∧ All2 (EntRel R) c c'

theorem ModeRel.mono {R R' : Bij} (h : R.le R') {a : AMode} {b : FrameMode} (k : ModeRel R a b) : ModeRel R' a b := by
  cases a with
  | panicking c => obtain ⟨c', e, r⟩ := k; exact ⟨c', e, r.mono fun _ _ q => ⟨VRel.mono h _ _ q.1, q.2⟩⟩
  | _ => exact k

def RoundRel (R : Bij) : Option Nat → Option Nat → Prop
  | none, r => r = none
  | some l, r => ∃ L, R l 0 = some L ∧ r = some L.block

theorem RoundRel.mono {R R' : Bij} (h : R.le R') {a b : Option Nat} (k : RoundRel R a b) : RoundRel R' a b := by
  cases a with
  | none => exact k
  | some l => obtain ⟨L, e, r⟩ := k; exact ⟨L, h _ _ _ e, r⟩

def Slots (R : Bij) (t : T AV) (a : Array Value) : Prop := ∀ u v, t.get u = some v → ∃ x, a[u]? = some x ∧ VRel R v x

theorem Slots.mono {R R' : Bij} (h : R.le R') {t : T AV} {a : Array Value} (k : Slots R t a) : Slots R' t a := fun u v e => by
  obtain ⟨x, e1, e2⟩ := k u v e
  exact ⟨x, e1, VRel.mono h _ _ e2⟩

/-- An operation of a drawn region that the evaluator has done and the model has not. -/
def Pend (P : Program) (B : Base) (d : Nat) (sus : Bool) (all : Array Oper) (t : T AV) (h : AHeap) (p : Nat) (o : Oper) : Prop :=
  ∃ wt, wantedA all.toList t o.guard = some wt ∧
    (wt = false → ∀ u, o.dst = some u → t.get u = some undefA) ∧
    (wt = true →
      (isFloat o.op = true ∧ ∃ vf ob id, FloatAt P (ev t) o.op vf ob ∧ B.pend id = some ob ∧ B.tag id = (d, p) ∧ ∀ u, o.dst = some u → t.get u = some (vf id)) ∨
      (isFloat o.op = false ∧ isPure o.op = true ∧ ∃ v, (∀ h, opA P (ev t) h o.op = some (.val v h)) ∧ ∀ u, o.dst = some u → t.get u = some v) ∨
      (isFloat o.op = false ∧ isPure o.op = false ∧ isRead P o.op = true ∧ (sus = true ∨ ∃ v, opA P (ev t) h o.op = some (.val v h) ∧ ∀ u, o.dst = some u → t.get u = some v)))

/-- A region whose order is drawn: the evaluator is ahead of the model. -/
structure Drw (P : Program) (B : Base) (R : Bij) (d : Nat) (sus : Bool) (all : Array Oper) (todo dn : List Nat) (t : T AV) (h : AHeap) (a : Array Value) (s : List Nat) : Prop where
  plan : PlanIs P all (planOf P all.toList)
  split : dn.reverse ++ todo = (planOf P all.toList).ord
  topo : Topo (planOf P all.toList).anc s
  rest : ∀ i ∈ todo, i ∈ s
  own : ∀ i ∈ s, i < all.size
  effs : ∀ i ∈ dn, (planOf P all.toList).em.testBit i = true → i ∉ s
  head : sus = true → ∀ i l, todo = i :: l → (∃ s', s = i :: s') ∧ (planOf P all.toList).em.testBit i = true
  slots : ∀ u v, t.get u = some v → (∃ q ∈ dn, q ∈ s ∧ (all[q]?).bind (·.dst) = some u) ∨ ∃ x, a[u]? = some x ∧ VRel R v x
  pend : ∀ p ∈ dn, p ∈ s → ∀ o, all[p]? = some o → Pend P B d sus all t h p o
  bound : ∀ p ∈ dn, ∀ o u, all[p]? = some o → o.dst = some u → u < a.size

/-- What of one base another one keeps: what frames below a depth wait for. -/
def Base.keeps (B B' : Base) (D : Nat) : Prop := B'.env = B.env ∧ ∀ id ob, B.pend id = some ob → (B.tag id).1 < D → B'.pend id = some ob ∧ B'.tag id = B.tag id

theorem Pend.mono {P : Program} {B B' : Base} {d D : Nat} {all : Array Oper} {t : T AV} {h h' : AHeap} {p : Nat} {o : Oper} (hb : B.keeps B' D) (hd : d < D) (k : Pend P B d true all t h p o) : Pend P B' d true all t h' p o := by
  obtain ⟨wt, k1, k2, k3⟩ := k
  refine ⟨wt, k1, k2, fun hw => ?_⟩
  rcases k3 hw with ⟨f1, vf, ob, id, f2, f3, f4, f5⟩ | ⟨f1, f2, v, f3, f4⟩ | ⟨f1, f2, f3, _⟩
  · obtain ⟨g1, g2⟩ := hb.2 id ob f3 (by rw [f4]; exact hd)
    exact .inl ⟨f1, vf, ob, id, f2, g1, g2.trans f4, f5⟩
  · exact .inr (.inl ⟨f1, f2, v, f3, f4⟩)
  · exact .inr (.inr ⟨f1, f2, f3, .inl rfl⟩)

theorem Drw.mono {P : Program} {B B' : Base} {R R' : Bij} {d D : Nat} {all : Array Oper} {todo dn : List Nat} {t : T AV} {h h' : AHeap} {a : Array Value} {s : List Nat} (hle : R.le R') (hb : B.keeps B' D) (hd : d < D)
    (k : Drw P B R d true all todo dn t h a s) : Drw P B' R' d true all todo dn t h' a s where
  plan := k.plan
  split := k.split
  topo := k.topo
  rest := k.rest
  own := k.own
  effs := k.effs
  head := k.head
  slots u v e := by
    rcases k.slots u v e with g | ⟨x, e1, e2⟩
    · exact .inl g
    · exact .inr ⟨x, e1, VRel.mono hle _ _ e2⟩
  pend p h1 h2 o ho := (k.pend p h1 h2 o ho).mono hb hd
  bound := k.bound

def TodoRel (P : Program) (B : Base) (R : Bij) (d : Nat) (sus : Bool) (h : AHeap) (todo : List AItem) (t : T AV) (ctodo : List Item) (a : Array Value) : Prop := match todo with
  | .drw all l dn :: k => ∃ s k', ctodo = .inRegion all s :: k' ∧ All2 (ItemRel R) k k' ∧ Drw P B R d sus all l dn t h a s
  | todo => All2 (ItemRel R) todo ctodo ∧ Slots R t a

def TopRel (P : Program) (B : Base) (R : Bij) (d : Nat) (sus : Bool) (h : AHeap) (mode : AMode) (todo : List AItem) (t : T AV) (ctodo : List Item) (a : Array Value) : Prop := match mode with
  | .run => TodoRel P B R d sus h todo t ctodo a
  | _ => Slots R t a

structure FrameRel (P : Program) (B : Base) (R : Bij) (d : Nat) (sus : Bool) (h : AHeap) (af : AFrame) (fr : Frame) : Prop where
  fn : fr.fn = af.fn
  fnOk : ∃ f, P.funcs[af.fn]? = some f
  kind : fr.kind = af.kind
  kindOk : af.kind = .normal ∨ af.kind = .deferred
  round : RoundRel R af.round fr.roundOf
  defers : All2 (DefRel R) af.defers fr.defers
  mode : ModeRel R af.mode fr.mode
  size : fr.tmps.size = af.n
  top : TopRel P B R d sus h af.mode af.todo af.tmps fr.todo fr.tmps

theorem TodoRel.mono {P : Program} {B B' : Base} {R R' : Bij} {d D : Nat} {h h' : AHeap} {todo : List AItem} {t : T AV} {ctodo : List Item} {a : Array Value} (hle : R.le R') (hb : B.keeps B' D) (hd : d < D)
    (k : TodoRel P B R d true h todo t ctodo a) : TodoRel P B' R' d true h' todo t ctodo a := by
  unfold TodoRel at k ⊢
  split at k
  · obtain ⟨s, k', e1, e2, e3⟩ := k
    exact ⟨s, k', e1, e2.mono fun _ _ q => q.mono hle, e3.mono hle hb hd⟩
  · rename_i hn
    exact ⟨k.1.mono fun _ _ q => q.mono hle, k.2.mono hle⟩

theorem FrameRel.mono {P : Program} {B B' : Base} {R R' : Bij} {d D : Nat} {h h' : AHeap} {af : AFrame} {fr : Frame} (hle : R.le R') (hb : B.keeps B' D) (hd : d < D) (k : FrameRel P B R d true h af fr) :
    FrameRel P B' R' d true h' af fr where
  fn := k.fn
  fnOk := k.fnOk
  kind := k.kind
  kindOk := k.kindOk
  round := k.round.mono hle
  defers := k.defers.mono fun _ _ q => q.mono hle
  mode := k.mode.mono hle
  size := k.size
  top := by
    have := k.top
    unfold TopRel at this ⊢
    split at this
    · exact this.mono hle hb hd
    · exact this.mono hle

def StackRel (P : Program) (B : Base) (R : Bij) (h : AHeap) : List AFrame → List Frame → Prop
  | [], fs => fs = []
  | a :: as, fs => ∃ f r, fs = f :: r ∧ FrameRel P B R as.length true h a f ∧ StackRel P B R h as r

theorem StackRel.mono {P : Program} {B B' : Base} {R R' : Bij} {D : Nat} {h h' : AHeap} (hle : R.le R') (hb : B.keeps B' D) : ∀ {as : List AFrame} {fs : List Frame}, as.length ≤ D → StackRel P B R h as fs → StackRel P B' R' h' as fs
  | [], _, _, k => k
  | a :: as, fs, hd, ⟨f, r, e, k1, k2⟩ => ⟨f, r, e, k1.mono hle hb (by simp at hd; omega), k2.mono hle hb (by simp at hd; omega)⟩

/-- What a call leaves as it was. -/
structure Old (w0 w : World) : Prop where
  os : w.os = w0.os
  tape : w.tape = w0.tape
  output : w.output = w0.output
  size : w0.heap.size ≤ w.heap.size
  other : ∀ b, b < w0.heap.size → w.heap[b]? = w0.heap[b]?
  drawn : w0.drawn ≤ w.drawn

/-- What a call leaves as it was, beside memory. -/
structure Old0 (w0 w : World) : Prop where
  os : w.os = w0.os
  tape : w.tape = w0.tape
  output : w.output = w0.output
  size : w0.heap.size ≤ w.heap.size
  drawn : w0.drawn ≤ w.drawn

theorem Old0.keeps {P : Program} {B : Base} {R R' : Bij} {h : AHeap} {w0 : Env} {w w' : World} (k : Old0 w0.toWorld w) (_ : B.env = w0) (_ : HRel P B R h w) (q : Keeps R w R' w') : Old0 w0.toWorld w' where
  os := q.os.trans k.os
  tape := q.tape.trans k.tape
  output := q.output.trans k.output
  size := Nat.le_trans k.size q.size
  drawn := Nat.le_trans k.drawn q.drawn

/-- Of memory too, but for what the environment lets be changed. -/
structure OldX (w0 : Env) (w : World) : Prop extends Old0 w0.toWorld w where
  other : ∀ b, b < w0.heap.size → ¬ w0.own b → w.heap[b]? = w0.heap[b]?

theorem Old0.all {P : Program} {B : Base} {R : Bij} {h : AHeap} {w0 : Env} {w : World} (k : Old0 w0.toWorld w) (hB : B.env = w0) (kh : HRel P B R h w) : OldX w0 w :=
  ⟨k, fun b hb hn => by
    subst hB
    exact kh.low b (fun e => e.elim (fun e => absurd hb (Nat.not_lt.2 e)) hn)⟩

theorem OldX.old {w0 : Env} {w : World} (k : OldX w0 w) (h : ∀ b, ¬ w0.own b) : Old w0.toWorld w := ⟨k.os, k.tape, k.output, k.size, fun b hb => k.other b hb (h b), k.drawn⟩

/-- The evaluator's machine says of the model's, whose callers below are whatever they are. -/
def Sim (P : Program) (w0 : Env) (base : List Frame) (m : AM) (fr : Frame) (cs : List Frame) (w : World) : Prop :=
  ∃ B R fs, cs = fs ++ base ∧ B.env = w0 ∧ HRel P B R m.heap w ∧ Old0 w0.toWorld w ∧ FrameRel P B R m.rest.length false m.heap m.top fr ∧ StackRel P B R m.heap m.rest fs

end Go.Proofs.Ytcdpmiebmhjmpaa.Ev
