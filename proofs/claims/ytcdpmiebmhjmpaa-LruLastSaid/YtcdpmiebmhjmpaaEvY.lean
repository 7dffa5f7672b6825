/- Long runs in parts: a run up to a state that is written down, and what may be forgotten there. -/
import Derived.Test.YtcdpmiebmhjmpaaEvWg
namespace Go.Proofs.Ytcdpmiebmhjmpaa.Ev
open Go

noncomputable section
variable (P : Program)

/-- So many steps. -/
def runN [XT P] : Nat → AM → Option AM
  | 0, m => some m
  | n + 1, m => match stepA P m with
    | none => none
    | some m => runN n m

/-- These alone of a map by numbers. -/
def keepG {α : Type} (t : T α) : List Nat → T α → T α
  | [], acc => acc
  | i :: r, acc => (acc.set (t.get i) i).seq fun acc => keepG t r acc

def slimH (ids : List Nat) (h : AHeap) : AHeap := match h with
  | ⟨objs, next, glob⟩ => ⟨keepG objs ids .leaf, next, glob⟩

/-- A map by numbers, out of a list. -/
def ofL {α : Type} : List (Nat × α) → T α → T α
  | [], t => t
  | (i, v) :: r, t => (t.set (some v) i).seq fun t => ofL r t

/-- These slots alone. -/
def keepF (us : List Nat) (fr : AFrame) : AFrame := match fr with
  | ⟨fn, n, t, todo, ds, mode, kind, round⟩ => ⟨fn, n, keepG t us .leaf, todo, ds, mode, kind, round⟩

def keepFs : List (List Nat) → List AFrame → List AFrame
  | us :: r, f :: fs => keepF us f :: keepFs r fs
  | [], fs => fs
  | _ :: _, [] => []

def slimK (ids : List Nat) (us : List Nat) (dr : List (List Nat)) (m : AM) : AM := match m with
  | ⟨top, rest, heap⟩ => ⟨keepF us top, keepFs dr rest, slimH ids heap⟩

def slimKO (ids : List Nat) (us : List Nat) (dr : List (List Nat)) (m : Option AM) : Option AM := match m with
  | none => none
  | some m => some (slimK ids us dr m)

/-- A frame that waits in a drawn region stays as it is. -/
def keepD (us : List Nat) (fr : AFrame) : AFrame := match fr.todo with
  | .drw _ _ _ :: _ => fr
  | _ => keepF us fr

def keepDs : List (List Nat) → List AFrame → List AFrame
  | us :: r, f :: fs => keepD us f :: keepDs r fs
  | [], fs => fs
  | _ :: _, [] => []

def slimD (ids : List Nat) (us : List Nat) (dr : List (List Nat)) (m : AM) : AM := match m with
  | ⟨top, rest, heap⟩ => ⟨keepF us top, keepDs dr rest, slimH ids heap⟩

def slimDO (ids : List Nat) (us : List Nat) (dr : List (List Nat)) (m : Option AM) : Option AM := match m with
  | none => none
  | some m => match Nat.beq dr.length m.rest.length with
    | false => none
    | true => some (slimD ids us dr m)

/-- What new memory a value names. -/
def AV.ref : AV → Option Nat
  | .ptr i _ _ => some i
  | .slc i _ _ _ _ => some i
  | .mp i => some i
  | _ => none

def heldV (objs : T AObj) (v : AV) : Bool := match v.ref with
  | none => true
  | some i => match objs.get i with
    | none => false
    | some _ => true

def heldO (objs : T AObj) (t : T AV) (o : Oper) : Bool := match isFloat o.op with
  | false => true
  | true => match o.dst with
    | none => false
    | some u => match t.get u with
      | none => false
      | some v => heldV objs v

def heldP (objs : T AObj) (t : T AV) (o : Option Oper) : Bool := match o with
  | none => true
  | some o => heldO objs t o

/-- Memory that the evaluator has made, and the model has not, is kept. -/
def heldF (objs : T AObj) (fr : AFrame) : Bool := match fr.todo with
  | .drw all _ dn :: _ => dn.all fun p => heldP objs fr.tmps all[p]?
  | _ => true

/-- Slots of which nothing is told any more. -/
def dropT : List Nat → T AV → T AV
  | [], t => t
  | u :: r, t => dropT r (t.set none u)

def dropF (us : List Nat) (fr : AFrame) : AFrame := match fr with
  | ⟨fn, n, t, todo, ds, mode, kind, round⟩ => ⟨fn, n, dropT us t, todo, ds, mode, kind, round⟩

def dropFs : List (List Nat) → List AFrame → List AFrame
  | us :: r, f :: fs => dropF us f :: dropFs r fs
  | [], fs => fs
  | _ :: _, [] => []

def slim (ids : List Nat) (us : List Nat) (dr : List (List Nat)) (m : AM) : AM := match m with
  | ⟨top, rest, heap⟩ => ⟨dropF us top, dropFs dr rest, slimH ids heap⟩

def slimO (ids : List Nat) (us : List Nat) (dr : List (List Nat)) (m : Option AM) : Option AM := match m with
  | none => none
  | some m => some (slim ids us dr m)

def startN [XT P] (G : T (T AV)) (f : FuncId) (n : Nat) : Option AM := match startA P G f [] with
  | none => none
  | some m => runN P n m

def plainF (fr : AFrame) : Bool := match fr.todo with
  | .drw _ _ _ :: _ => false
  | _ => true

def plainM (m : AM) : Bool := plainF m.top && m.rest.all plainF

def heldM (m : AM) : Bool := plainF m.top && m.rest.all (heldF m.heap.objs)

/-- A part of a function's code, by the way that leads to it. -/
def subC : List Nat → Code → Code
  | [], c => c
  | d :: p, c => match c with
    | .seq a b => subC p (bif Nat.beq d 0 then a else b)
    | .cond _ a b => subC p (bif Nat.beq d 0 then a else b)
    | .rangeFunc _ _ a b => subC p (bif Nat.beq d 0 then a else b)
    | .block _ b => subC p b
    | .loop b => subC p b
    | .scope b => subC p b
    | c => c

def cd (f : FuncId) (p : List Nat) : Code := match P.funcs[f]? with
  | none => .skip
  | some fn => match fn.body with
    | none => .skip
    | some c => subC p c

def rg (f : FuncId) (p : List Nat) : Array Oper := match cd P f p with
  | .region _ ops _ => ops
  | _ => #[]

/-- So many bytes, out of one number. -/
def unb : Nat → Nat → List UInt8
  | 0, _ => []
  | l + 1, n => UInt8.ofNat (n % 256) :: unb l (n / 256)

end

section
variable {P : Program} {w0 : Env} {base : List Frame}

theorem keepG_le {α : Type} {t : T α} : ∀ {ids : List Nat} {acc : T α}, (∀ i o, acc.get i = some o → t.get i = some o) → ∀ i o, (keepG t ids acc).get i = some o → t.get i = some o
  | [], _, h => h
  | j :: r, acc, h => by
    intro i o e
    rw [keepG, T.seq_eq] at e
    refine keepG_le (acc := acc.set (t.get j) j) (fun i o e => ?_) i o e
    rw [T.get_set] at e
    by_cases hi : i = j
    · subst hi; rwa [if_pos rfl] at e
    · rw [if_neg hi] at e; exact h i o e

theorem slimH_le {ids : List Nat} {h : AHeap} : ∀ i o, (slimH ids h).get i = some o → h.get i = some o := by
  obtain ⟨objs, next, glob⟩ := h
  exact keepG_le (t := objs) (ids := ids) (acc := .leaf) (fun i o e => by cases e)

noncomputable def Base.only (B : Base) (h : AHeap) : Base := { B with pend := fun i => match h.get i with
  | none => none
  | some _ => B.pend i }

theorem HRel.forget {B : Base} {R : Bij} {h h' : AHeap} {w : World} (k : HRel P B R h w) (hle : ∀ i o, h'.get i = some o → h.get i = some o) (hn : h'.next = h.next) (hg : h'.glob = h.glob) : HRel P (B.only h') R h' w where
  fresh i hi r := k.fresh i (by rw [← hn]; exact hi) r
  obj i o e hp := k.obj i o (hle i o e) (by simpa only [Base.only, e] using hp)
  pend i o e := by
    simp only [Base.only] at e
    split at e
    · cases e
    · rename_i o' ho'
      obtain ⟨e1, e2, e3⟩ := k.pend i o e
      have := hle i o' ho'
      rw [e2] at this
      cases this
      exact ⟨by rw [hn]; exact e1, ho', e3⟩
  place := k.place
  rd i hi := ⟨by rw [hn]; exact (k.rd i hi).1, fun o e => (k.rd i hi).2 o (hle i o e)⟩
  low := k.low
  rp i hi := by
    simp only [Base.only]
    split
    · rfl
    · exact k.rp i hi
  rol := k.rol
  pin := k.pin
  apart := k.apart
  same := k.same
  glob g c e := k.glob g c (by rwa [hg] at e)

theorem Slots.drop {R : Bij} {a : Array Value} : ∀ {us : List Nat} {t : T AV}, Slots R t a → Slots R (dropT us t) a
  | [], _, k => k
  | u :: r, t, k => Slots.drop (us := r) (t := t.set none u) fun x v e => by
    rw [T.get_set] at e
    split at e
    · cases e
    · exact k x v e

theorem FrameRel.plain {B B' : Base} {R : Bij} {d : Nat} {sus : Bool} {h h' : AHeap} {af : AFrame} {fr : Frame} {us : List Nat} (hp : plainF (dropF us af) = true) (k : FrameRel P B R d sus h af fr) : FrameRel P B' R d sus h' (dropF us af) fr := by
  obtain ⟨fn, n, t, todo, ds, mode, kind, round⟩ := af
  obtain ⟨k1, k2, k3, k4, k5, k6, k7, k8, k9⟩ := k
  refine ⟨k1, k2, k3, k4, k5, k6, k7, k8, ?_⟩
  cases mode with
  | run =>
    have k9 : TodoRel P B R d sus h todo t fr.todo fr.tmps := k9
    show TodoRel P B' R d sus h' todo (dropT us t) fr.todo fr.tmps
    cases todo with
    | nil => exact ⟨k9.1, k9.2.drop⟩
    | cons it kk =>
      cases it with
      | drw a b c => cases hp
      | _ => exact ⟨k9.1, k9.2.drop⟩
  | returning => exact Slots.drop k9
  | panicking c => exact Slots.drop k9

theorem dropF_nil (af : AFrame) : dropF [] af = af := by cases af; rfl

theorem dropFs_length : ∀ (dr : List (List Nat)) (as : List AFrame), (dropFs dr as).length = as.length
  | [], as => by cases as <;> rfl
  | _ :: _, [] => rfl
  | us :: dr, a :: as => by simp [dropFs, dropFs_length dr as]

theorem StackRel.plain {B B' : Base} {R : Bij} {h h' : AHeap} : ∀ {dr : List (List Nat)} {as : List AFrame} {fs : List Frame}, (dropFs dr as).all plainF = true → StackRel P B R h as fs → StackRel P B' R h' (dropFs dr as) fs
  | [], [], _, _, k => k
  | _ :: _, [], _, _, k => k
  | [], a :: as, fs, hp, ⟨f, r, e, k1, k2⟩ => by
    rw [show dropFs [] (a :: as) = a :: as from rfl, List.all_cons, Bool.and_eq_true] at hp
    have g1 : FrameRel P B' R as.length true h' a f := by
      have := k1.plain (B' := B') (h' := h') (us := []) (by rw [dropF_nil]; exact hp.1)
      rwa [dropF_nil] at this
    have g2 := StackRel.plain (B' := B') (h' := h') (dr := []) (as := as) (by rw [show dropFs [] as = as by cases as <;> rfl]; exact hp.2) k2
    rw [show dropFs [] as = as by cases as <;> rfl] at g2
    exact ⟨f, r, e, g1, g2⟩
  | us :: dr, a :: as, fs, hp, ⟨f, r, e, k1, k2⟩ => by
    rw [show dropFs (us :: dr) (a :: as) = dropF us a :: dropFs dr as from rfl, List.all_cons, Bool.and_eq_true] at hp
    exact ⟨f, r, e, by rw [dropFs_length]; exact k1.plain hp.1, StackRel.plain hp.2 k2⟩

theorem Sim.slim {m : AM} {ids us : List Nat} {dr : List (List Nat)} {fr : Frame} {cs : List Frame} {w : World} (hp : plainM (slim ids us dr m) = true) (k : Sim P w0 base m fr cs w) : Sim P w0 base (slim ids us dr m) fr cs w := by
  obtain ⟨top, rest, h⟩ := m
  obtain ⟨B, R, fs, hc, hb, kh, ho, kt, kb⟩ := k
  unfold plainM at hp
  rw [Bool.and_eq_true] at hp
  refine ⟨B.only (slimH ids h), R, fs, hc, hb, kh.forget slimH_le (by cases h; rfl) (by cases h; rfl), ho, ?_, kb.plain hp.2⟩
  show FrameRel P _ R (dropFs dr rest).length false _ (dropF us top) fr
  rw [dropFs_length]
  exact kt.plain hp.1

theorem runN_sim [XT P] [XTOk P] (hmix : P.follows .mixedOrders = true) : ∀ (n : Nat) {m m' : AM} {fr : Frame} {cs : List Frame} {w : World}, Sim P w0 base m fr cs w → runN P n m = some m' → Goes P w0 base m' fr cs w
  | 0, m, m', fr, cs, w, k, e => by cases e; exact ⟨fr, cs, w, Steps.refl _ _, k⟩
  | n + 1, m, m', fr, cs, w, k, e => by
    unfold runN at e
    split at e
    · cases e
    · rename_i m1 hst
      obtain ⟨fr1, cs1, w1, s1, k1⟩ := step_sim hmix k hst
      obtain ⟨fr2, cs2, w2, s2, k2⟩ := runN_sim hmix n k1 e
      exact ⟨fr2, cs2, w2, s1.trans s2, k2⟩

theorem Slots.keep {R : Bij} {a : Array Value} {us : List Nat} {t : T AV} (k : Slots R t a) : Slots R (keepG t us .leaf) a := fun u v e =>
  k u v (keepG_le (acc := .leaf) (fun _ _ e => by cases e) u v e)

theorem FrameRel.plainK {B B' : Base} {R : Bij} {d : Nat} {sus : Bool} {h h' : AHeap} {af : AFrame} {fr : Frame} {us : List Nat} (hp : plainF (keepF us af) = true) (k : FrameRel P B R d sus h af fr) : FrameRel P B' R d sus h' (keepF us af) fr := by
  obtain ⟨fn, n, t, todo, ds, mode, kind, round⟩ := af
  obtain ⟨k1, k2, k3, k4, k5, k6, k7, k8, k9⟩ := k
  refine ⟨k1, k2, k3, k4, k5, k6, k7, k8, ?_⟩
  cases mode with
  | run =>
    have k9 : TodoRel P B R d sus h todo t fr.todo fr.tmps := k9
    show TodoRel P B' R d sus h' todo (keepG t us .leaf) fr.todo fr.tmps
    cases todo with
    | nil => exact ⟨k9.1, k9.2.keep⟩
    | cons it kk =>
      cases it with
      | drw a b c => cases hp
      | _ => exact ⟨k9.1, k9.2.keep⟩
  | returning => exact Slots.keep k9
  | panicking c => exact Slots.keep k9

theorem keepFs_length : ∀ (dr : List (List Nat)) (as : List AFrame), (keepFs dr as).length = as.length
  | [], as => by cases as <;> rfl
  | _ :: _, [] => rfl
  | us :: dr, a :: as => by simp [keepFs, keepFs_length dr as]

theorem StackRel.plainK {B B' : Base} {R : Bij} {h h' : AHeap} : ∀ {dr : List (List Nat)} {as : List AFrame} {fs : List Frame}, (keepFs dr as).all plainF = true → StackRel P B R h as fs → StackRel P B' R h' (keepFs dr as) fs
  | [], [], _, _, k => k
  | _ :: _, [], _, _, k => k
  | [], a :: as, fs, hp, ⟨f, r, e, k1, k2⟩ => by
    rw [show keepFs [] (a :: as) = a :: as from rfl, List.all_cons, Bool.and_eq_true] at hp
    have g1 : FrameRel P B' R as.length true h' a f := by
      have := k1.plain (B' := B') (h' := h') (us := []) (by rw [dropF_nil]; exact hp.1)
      rwa [dropF_nil] at this
    have g2 := StackRel.plainK (B' := B') (h' := h') (dr := []) (as := as) (by rw [show keepFs [] as = as by cases as <;> rfl]; exact hp.2) k2
    rw [show keepFs [] as = as by cases as <;> rfl] at g2
    exact ⟨f, r, e, g1, g2⟩
  | us :: dr, a :: as, fs, hp, ⟨f, r, e, k1, k2⟩ => by
    rw [show keepFs (us :: dr) (a :: as) = keepF us a :: keepFs dr as from rfl, List.all_cons, Bool.and_eq_true] at hp
    exact ⟨f, r, e, by rw [keepFs_length]; exact k1.plainK hp.1, StackRel.plainK hp.2 k2⟩

theorem Sim.slimK {m : AM} {ids us : List Nat} {dr : List (List Nat)} {fr : Frame} {cs : List Frame} {w : World} (hp : plainM (slimK ids us dr m) = true) (k : Sim P w0 base m fr cs w) : Sim P w0 base (slimK ids us dr m) fr cs w := by
  obtain ⟨top, rest, h⟩ := m
  obtain ⟨B, R, fs, hc, hb, kh, ho, kt, kb⟩ := k
  unfold plainM at hp
  rw [Bool.and_eq_true] at hp
  refine ⟨B.only (slimH ids h), R, fs, hc, hb, kh.forget slimH_le (by cases h; rfl) (by cases h; rfl), ho, ?_, kb.plainK hp.2⟩
  show FrameRel P _ R (keepFs dr rest).length false _ (keepF us top) fr
  rw [keepFs_length]
  exact kt.plainK hp.1

theorem float_ref {ρ : Operand → Option AV} {h h' : AHeap} {op : Op} {v : AV} (hf : isFloat op = true) (e : opA P ρ h op = some (.val v h')) : v.ref = some h.next := by
  cases op with
  | alloc t =>
    change op_alloc P t ρ h = some _ at e
    unfold op_alloc allocA at e
    split at e
    · cases e
    · obtain ⟨v', h2, e1, e2⟩ := valH_inv e
      cases e2
      have := (boxA_float e1).1 h
      rw [e1] at this; cases this; rfl
  | box t x =>
    change op_box P t x ρ h = some _ at e
    obtain ⟨a, ha, e⟩ := one'_inv e
    obtain ⟨v', h2, e1, e2⟩ := valH_inv e
    cases e2
    have := (boxA_float e1).1 h
    rw [e1] at this; cases this; rfl
  | buildSlice t n parts =>
    change op_buildSlice P t n parts ρ h = some _ at e
    unfold op_buildSlice buildSliceE at e
    split at e
    · cases e
    · obtain ⟨v', h2, e1, e2⟩ := valH_inv e
      cases e2
      obtain ⟨el, cells, b1, _⟩ := buildSliceA_float e1
      have := b1 h
      rw [e1] at this; cases this; rfl
  | makeSlice t l c =>
    change op_makeSlice P t l c ρ h = some _ at e
    obtain ⟨a, b, ha, hb, e⟩ := two_inv e
    obtain ⟨v', h2, e1, e2⟩ := valH_inv e
    cases e2
    obtain ⟨el, cells, n, m, b1, _⟩ := makeSliceA_float e1
    have := b1 h
    rw [e1] at this; cases this; rfl
  | makeMap t r' =>
    cases r' with
    | none =>
      change some _ = some _ at e
      cases e; rfl
    | some x => cases hf
  | _ => cases hf

theorem Pend.only {B : Base} {d : Nat} {all : Array Oper} {t : T AV} {h h' h'' : AHeap} {p : Nat} {o : Oper} (hh : heldO h'.objs t o = true) (k : Pend P B d true all t h p o) : Pend P (B.only h') d true all t h'' p o := by
  obtain ⟨wt, k1, k2, k3⟩ := k
  refine ⟨wt, k1, k2, fun hw => ?_⟩
  rcases k3 hw with ⟨f1, vf, ob, id, f2, f3, f4, f5⟩ | ⟨f1, f2, v, f3, f4⟩ | ⟨f1, f2, f3, _⟩
  · refine .inl ⟨f1, vf, ob, id, f2, ?_, f4, f5⟩
    unfold heldO at hh
    rw [f1] at hh
    simp only at hh
    split at hh
    · cases hh
    · rename_i u hu
      have hr : (vf id).ref = some id := by
        have := float_ref f1 (f2.1 ⟨.leaf, id, .leaf⟩)
        exact this
      rw [f5 u hu] at hh
      simp only [heldV, hr] at hh
      simp only [Base.only]
      show (match h'.objs.get id with | none => none | some _ => B.pend id) = some ob
      split at hh
      · cases hh
      · rename_i q hq
        exact f3
  · exact .inr (.inl ⟨f1, f2, v, f3, f4⟩)
  · exact .inr (.inr ⟨f1, f2, f3, .inl rfl⟩)

theorem FrameRel.held {B : Base} {R : Bij} {d : Nat} {h h' h'' : AHeap} {af : AFrame} {fr : Frame} {us : List Nat} (hp : heldF h'.objs (keepD us af) = true) (k : FrameRel P B R d true h af fr) : FrameRel P (B.only h') R d true h'' (keepD us af) fr := by
  obtain ⟨fn, n, t, todo, ds, mode, kind, round⟩ := af
  have plain : plainF (keepF us ⟨fn, n, t, todo, ds, mode, kind, round⟩) = true → FrameRel P (B.only h') R d true h'' (keepF us ⟨fn, n, t, todo, ds, mode, kind, round⟩) fr := fun hp => k.plainK hp
  cases todo with
  | nil => exact plain rfl
  | cons it kk =>
    cases it with
    | drw all l dn =>
      obtain ⟨k1, k2, k3, k4, k5, k6, k7, k8, k9⟩ := k
      refine ⟨k1, k2, k3, k4, k5, k6, k7, k8, ?_⟩
      cases mode with
      | run =>
        obtain ⟨s, k', e1, e2, e3⟩ := (show ∃ s k', fr.todo = .inRegion all s :: k' ∧ All2 (ItemRel R) kk k' ∧ Drw P B R d true all l dn t h fr.tmps s from k9)
        refine ⟨s, k', e1, e2, ⟨e3.plan, e3.split, e3.topo, e3.rest, e3.own, e3.effs, e3.head, e3.slots, fun p h1 h2 o ho => ?_, e3.bound⟩⟩
        refine (e3.pend p h1 h2 o ho).only ?_
        have := List.all_eq_true.1 (show (dn.all fun p => heldP h'.objs t all[p]?) = true from hp) p h1
        rw [ho] at this
        exact this
      | returning => exact k9
      | panicking c => exact k9
    | _ => exact plain rfl

theorem keepDs_length : ∀ (dr : List (List Nat)) (as : List AFrame), (keepDs dr as).length = as.length
  | [], as => by cases as <;> rfl
  | _ :: _, [] => rfl
  | us :: dr, a :: as => by simp [keepDs, keepDs_length dr as]

theorem StackRel.held {B : Base} {R : Bij} {h h' h'' : AHeap} : ∀ {dr : List (List Nat)} {as : List AFrame} {fs : List Frame}, dr.length = as.length → (keepDs dr as).all (heldF h'.objs) = true → StackRel P B R h as fs → StackRel P (B.only h') R h'' (keepDs dr as) fs
  | [], [], _, _, _, k => k
  | _ :: _, [], _, e, _, _ => by cases e
  | [], _ :: _, _, e, _, _ => by cases e
  | us :: dr, a :: as, fs, hl, hp, ⟨f, r, e, k1, k2⟩ => by
    rw [show keepDs (us :: dr) (a :: as) = keepD us a :: keepDs dr as from rfl, List.all_cons, Bool.and_eq_true] at hp
    exact ⟨f, r, e, by rw [keepDs_length]; exact k1.held hp.1, StackRel.held (by simpa using hl) hp.2 k2⟩

theorem Sim.slimD {m : AM} {ids us : List Nat} {dr : List (List Nat)} {fr : Frame} {cs : List Frame} {w : World} (hl : Nat.beq dr.length m.rest.length = true) (hp : heldM (slimD ids us dr m) = true) (k : Sim P w0 base m fr cs w) : Sim P w0 base (slimD ids us dr m) fr cs w := by
  obtain ⟨top, rest, h⟩ := m
  obtain ⟨B, R, fs, hc, hb, kh, ho, kt, kb⟩ := k
  unfold heldM at hp
  rw [Bool.and_eq_true] at hp
  refine ⟨B.only (slimH ids h), R, fs, hc, hb, kh.forget slimH_le (by cases h; rfl) (by cases h; rfl), ho, ?_, kb.held (Nat.eq_of_beq_eq_true hl) hp.2⟩
  show FrameRel P _ R (keepDs dr rest).length false _ (keepF us top) fr
  rw [keepDs_length]
  exact kt.plainK hp.1

/-- From here on it comes to true. -/
def Reaches (P : Program) (f0 : FuncId) (m : AM) : Prop := ∀ (w0 : Env) (base : List Frame) (fr : Frame) (cs : List Frame) (w : World), Sim P w0 base m fr cs w →
  ∃ fr' w', Steps P (lone fr cs w) (lone fr' base w') ∧ fr'.leaving P w' (.returned (.bool true)) ∧ OldX w0 w' ∧ fr'.fn = f0

theorem reaches_last [XT P] [XTOk P] (hmix : P.follows .mixedOrders = true) {f0 : FuncId} {n : Nat} {m : AM} (e : runA P f0 n m = some (.bool true)) : Reaches P f0 m := by
  intro w0 base fr cs w k
  obtain ⟨fr', w', R, v', s1, s2, s3, s4, s5⟩ := run_sim hmix n k e
  cases s3
  exact ⟨fr', w', s1, s2, s4, s5⟩

theorem reaches_part [XT P] [XTOk P] (hmix : P.follows .mixedOrders = true) {f0 : FuncId} {n : Nat} {ids us : List Nat} {dr : List (List Nat)} {m m' : AM} (e : slimO ids us dr (runN P n m) = some m') (hp : plainM m' = true) (k' : Reaches P f0 m') : Reaches P f0 m := by
  intro w0 base fr cs w k
  unfold slimO at e
  split at e
  · cases e
  · rename_i m1 h1
    cases e
    obtain ⟨fr1, cs1, w1, s1, k1⟩ := runN_sim hmix n k h1
    obtain ⟨fr', w', s2, g⟩ := k' w0 base fr1 cs1 w1 (k1.slim hp)
    exact ⟨fr', w', s1.trans s2, g⟩

theorem reaches_calls [XT P] [XTOk P] (hmix : P.follows .mixedOrders = true) {G : T (T AV)} {n : Nat} {ids us : List Nat} {dr : List (List Nat)} {m' : AM} {f : FuncId} (e : slimO ids us dr (startN P G f n) = some m') (hp : plainM m' = true) (k' : Reaches P f m') (w : World) (hG : Globs G w) : Calls P f #[] w fun r w' => r = .returned (.bool true) ∧ Old w w' := by
  intro cs
  unfold slimO at e
  split at e
  · cases e
  · rename_i m1 h1
    unfold startN at h1
    split at h1
    · cases h1
    · rename_i m hst
      unfold startA at hst
      split at hst
      · cases hst
      · rename_i a ha
        cases hst
        have hs : Sim P (Env.of w) cs ⟨a, [], ⟨.leaf, 0, G⟩⟩ (Frame.enter P f #[] .normal) cs w :=
          ⟨Base.of w, _, [], rfl, rfl, .start hG, .start w, enter_rel (as := []) ha rfl (.inl rfl), rfl⟩
        have : Reaches P f ⟨a, [], ⟨.leaf, 0, G⟩⟩ := reaches_part hmix (n := n) (ids := ids) (us := us) (dr := dr) (m' := m') (by unfold slimO; rw [h1]; exact e) hp k'
        obtain ⟨fr', w', s1, s2, s4, s5⟩ := this (Env.of w) cs _ _ _ hs
        exact ⟨.returned (.bool true), w', fr', ⟨rfl, s4.old fun _ e => e⟩, s1, s5, s2⟩

theorem reaches_partK [XT P] [XTOk P] (hmix : P.follows .mixedOrders = true) {f0 : FuncId} {n : Nat} {ids us : List Nat} {dr : List (List Nat)} {m m' : AM} (e : slimKO ids us dr (runN P n m) = some m') (hp : plainM m' = true) (k' : Reaches P f0 m') : Reaches P f0 m := by
  intro w0 base fr cs w k
  unfold slimKO at e
  split at e
  · cases e
  · rename_i m1 h1
    cases e
    obtain ⟨fr1, cs1, w1, s1, k1⟩ := runN_sim hmix n k h1
    obtain ⟨fr', w', s2, g⟩ := k' w0 base fr1 cs1 w1 (k1.slimK hp)
    exact ⟨fr', w', s1.trans s2, g⟩

theorem reaches_callsK [XT P] [XTOk P] (hmix : P.follows .mixedOrders = true) {G : T (T AV)} {n : Nat} {ids us : List Nat} {dr : List (List Nat)} {m' : AM} {f : FuncId} (e : slimKO ids us dr (startN P G f n) = some m') (hp : plainM m' = true) (k' : Reaches P f m') (w : World) (hG : Globs G w) : Calls P f #[] w fun r w' => r = .returned (.bool true) ∧ Old w w' := by
  intro cs
  unfold slimKO at e
  split at e
  · cases e
  · rename_i m1 h1
    unfold startN at h1
    split at h1
    · cases h1
    · rename_i m hst
      unfold startA at hst
      split at hst
      · cases hst
      · rename_i a ha
        cases hst
        have hs : Sim P (Env.of w) cs ⟨a, [], ⟨.leaf, 0, G⟩⟩ (Frame.enter P f #[] .normal) cs w :=
          ⟨Base.of w, _, [], rfl, rfl, .start hG, .start w, enter_rel (as := []) ha rfl (.inl rfl), rfl⟩
        have : Reaches P f ⟨a, [], ⟨.leaf, 0, G⟩⟩ := reaches_partK hmix (n := n) (ids := ids) (us := us) (dr := dr) (m' := m') (by unfold slimKO; rw [h1]; exact e) hp k'
        obtain ⟨fr', w', s1, s2, s4, s5⟩ := this (Env.of w) cs _ _ _ hs
        exact ⟨.returned (.bool true), w', fr', ⟨rfl, s4.old fun _ e => e⟩, s1, s5, s2⟩

theorem reaches_partD [XT P] [XTOk P] (hmix : P.follows .mixedOrders = true) {f0 : FuncId} {n : Nat} {ids us : List Nat} {dr : List (List Nat)} {m m' : AM} (e : slimDO ids us dr (runN P n m) = some m') (hp : heldM m' = true) (k' : Reaches P f0 m') : Reaches P f0 m := by
  intro w0 base fr cs w k
  unfold slimDO at e
  split at e
  · cases e
  · rename_i m1 h1
    split at e
    · cases e
    · rename_i hl
      cases e
      obtain ⟨fr1, cs1, w1, s1, k1⟩ := runN_sim hmix n k h1
      obtain ⟨fr', w', s2, g⟩ := k' w0 base fr1 cs1 w1 (k1.slimD hl hp)
      exact ⟨fr', w', s1.trans s2, g⟩

theorem reaches_callsD [XT P] [XTOk P] (hmix : P.follows .mixedOrders = true) {G : T (T AV)} {n : Nat} {ids us : List Nat} {dr : List (List Nat)} {m' : AM} {f : FuncId} (e : slimDO ids us dr (startN P G f n) = some m') (hp : heldM m' = true) (k' : Reaches P f m') (w : World) (hG : Globs G w) : Calls P f #[] w fun r w' => r = .returned (.bool true) ∧ Old w w' := by
  intro cs
  unfold slimDO at e
  split at e
  · cases e
  · rename_i m1 h1
    unfold startN at h1
    split at h1
    · cases h1
    · rename_i m hst
      unfold startA at hst
      split at hst
      · cases hst
      · rename_i a ha
        cases hst
        have hs : Sim P (Env.of w) cs ⟨a, [], ⟨.leaf, 0, G⟩⟩ (Frame.enter P f #[] .normal) cs w :=
          ⟨Base.of w, _, [], rfl, rfl, .start hG, .start w, enter_rel (as := []) ha rfl (.inl rfl), rfl⟩
        have : Reaches P f ⟨a, [], ⟨.leaf, 0, G⟩⟩ := reaches_partD hmix (n := n) (ids := ids) (us := us) (dr := dr) (m' := m') (by unfold slimDO; rw [h1]; exact e) hp k'
        obtain ⟨fr', w', s1, s2, s4, s5⟩ := this (Env.of w) cs _ _ _ hs
        exact ⟨.returned (.bool true), w', fr', ⟨rfl, s4.old fun _ e => e⟩, s1, s5, s2⟩

end

end Go.Proofs.Ytcdpmiebmhjmpaa.Ev
