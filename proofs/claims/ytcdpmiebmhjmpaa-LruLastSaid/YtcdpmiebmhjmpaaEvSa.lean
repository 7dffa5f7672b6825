/- Runs in which values are open: what is done at each point, what has to be shown of it, and names given anew. -/
import Derived.Test.YtcdpmiebmhjmpaaEvY
namespace Go.Proofs.Ytcdpmiebmhjmpaa.Ev
open Go

noncomputable section
variable (P : Program)

/-! ## Names given anew -/

/-- New names: the i-th is what was called so; where a version is named, that one alone is kept, as 0. -/
abbrev Tab := List (Nat × Option Nat)

def tabGo (j : Nat) : Tab → Nat → Option (Nat × Option Nat)
  | [], _ => none
  | (k, t) :: r, i => bif Nat.beq k j then some (i, t) else tabGo j r (i + 1)

/-- The new name of an old one. -/
def Tab.find (tb : Tab) (j : Nat) : Option (Nat × Option Nat) := tabGo j tb 0

/-- The new name of a version. -/
def Tab.ver (tb : Tab) (j s : Nat) : Option (Nat × Nat) := match tb.find j with
  | none => none
  | some (i, none) => some (i, s)
  | some (i, some t) => bif Nat.beq t s then some (i, 0) else none

def Tab.re (tb : Tab) (R : Bij) : Bij := fun i r => match tb[i]? with
  | none => none
  | some (j, none) => R j r
  | some (j, some t) => if r = 0 then R j t else none

/-- The new name of what has no versions. -/
def idG (g : Nat → Nat → Option (Nat × Nat)) (j : Nat) : Option Nat := match g j 0 with
  | none => none
  | some (i, r) => bif Nat.beq r 0 then some i else none

mutual
def canV (g : Nat → Nat → Option (Nat × Nat)) : Nat → AV → Option AV
  | 0, _ => none
  | n + 1, v => match v with
    | .ptr i r o => match g i r with
      | none => none
      | some (j, s) => some (.ptr j s o)
    | .slc i r o l c => match g i r with
      | none => none
      | some (j, s) => some (.slc j s o l c)
    | .slg i r o l c => match g i r with
      | none => none
      | some (j, s) => some (.slg j s o l c)
    | .mp i => match idG g i with
      | none => none
      | some j => some (.mp j)
    | .yld i => match idG g i with
      | none => none
      | some j => some (.yld j)
    | .fn f a b => match canL g n a, canL g n b with
      | some a, some b => some (.fn f a b)
      | _, _ => none
    | .ifc t v => match canV g n v with
      | none => none
      | some v => some (.ifc t v)
    | .agg l => match canL g n l with
      | none => none
      | some l => some (.agg l)
    | .tup l => match canL g n l with
      | none => none
      | some l => some (.tup l)
    | v => some v
def canL (g : Nat → Nat → Option (Nat × Nat)) : Nat → List AV → Option (List AV)
  | 0, _ => none
  | n + 1, l => match l with
    | [] => some []
    | v :: r => match canV g n v with
      | none => none
      | some v => match canL g n r with
        | none => none
        | some r => some (v :: r)
end

mutual
/-- No name is in it. -/
def plainV : Nat → AV → Bool
  | 0, _ => false
  | n + 1, v => match v with
    | .ptr .. | .slc .. | .slg .. | .mp _ | .yld _ => false
    | .fn _ a b => plainL n a && plainL n b
    | .ifc _ v => plainV n v
    | .agg l | .tup l => plainL n l
    | _ => true
def plainL : Nat → List AV → Bool
  | 0, _ => false
  | n + 1, l => match l with
    | [] => true
    | v :: r => plainV n v && plainL n r
end

/-- A row that is told by a function: no name is in what it tells. -/
def PlainFn (f : Nat → Option AV) : Prop := ∀ k v, f k = some v → plainV 99 v = true

def fnsT {α : Type} (t : T α) : List (Nat → Option α) :=
  T.rec (motive := fun _ => List (Nat → Option α)) [] (fun _ _ _ l r => l ++ r) (fun f => [f]) t

def canNode (g : Nat → Nat → Option (Nat × Nat)) (v : Option AV) (l r : Option (T AV)) : Option (T AV) := match l with
  | none => none
  | some l => match r with
    | none => none
    | some r => match v with
      | none => some (.node l none r)
      | some v => match canV g 99 v with
        | none => none
        | some v => some (.node l (some v) r)

def canT (g : Nat → Nat → Option (Nat × Nat)) (t : T AV) : Option (T AV) :=
  T.rec (motive := fun _ => Option (T AV)) (some .leaf) (fun _ v _ l r => canNode g v l r) (fun f => some (.fn f)) t

/-- Some slots alone. -/
def keepT (g : Nat → Nat → Option (Nat × Nat)) (t : T AV) : List Nat → T AV → Option (T AV)
  | [], acc => some acc
  | u :: r, acc => match t.get u with
    | none => none
    | some v => match canV g 99 v with
      | none => none
      | some v => (acc.set (some v) u).seq fun acc => keepT g t r acc

def canTgt (g : Nat → Nat → Option (Nat × Nat)) : ATgt → Option ATgt
  | .fn f c => match canL g 99 c with
    | none => none
    | some c => some (.fn f c)
  | .nil => some .nil
  | .collected i => match idG g i with
    | none => none
    | some j => some (.collected j)

def canDef (g : Nat → Nat → Option (Nat × Nat)) (d : ADef) : Option ADef := match canTgt g d.tgt with
  | none => none
  | some t => match canL g 99 d.args with
    | none => none
    | some a => some ⟨t, a⟩

def allO {α β : Type} (f : α → Option β) : List α → Option (List β)
  | [] => some []
  | a :: r => match f a with
    | none => none
    | some b => match allO f r with
      | none => none
      | some r => some (b :: r)

def canEnt (g : Nat → Nat → Option (Nat × Nat)) (e : AEntry) : Option AEntry := match canV g 99 e.key with
  | none => none
  | some k => match canV g 99 e.val with
    | none => none
    | some v => some ⟨k, v, e.born⟩

/-- An object; t: the version that is kept alone. -/
def canO (g : Nat → Nat → Option (Nat × Nat)) (t : Option Nat) : AObj → Option AObj
  | .cells c n el lo hi nv fz sg ex => match canT g c with
    | none => none
    | some c => match t with
      | none => some (.cells c n el lo hi nv fz sg ex)
      | some h => bif Nat.beq h hi && Nat.ble lo hi then some (.cells c n el 0 0 1 fz sg .leaf) else none
  | o => match t with
    | some _ => none
    | none => match o with
      | .map es clock => match allO (canEnt g) es with
        | none => none
        | some es => some (.map es clock)
      | .iter s p => some (.iter s p)
      | .ro c lo n => some (.ro c lo n)
      | .dfrd none => some (.dfrd none)
      | .dfrd (some ds) => match allO (canDef g) ds with
        | none => none
        | some ds => some (.dfrd (some ds))
      | .loop ⟨st, pe, fn, n, tmps, ps, asg, body, df⟩ => match canT g tmps with
        | none => none
        | some tmps => match idG g df with
          | none => none
          | some df => some (.loop ⟨st, pe, fn, n, tmps, ps, asg, body, df⟩)
      | _ => none

def fnsO : AObj → List (Nat → Option AV)
  | .cells c .. => fnsT c
  | .loop l => fnsT l.tmps
  | _ => []

def canObjs (tb : Tab) (objs : T AObj) : Tab → Nat → T AObj → Option (T AObj)
  | [], _, acc => some acc
  | (j, t) :: r, i, acc => match objs.get j with
    | none => none
    | some o => match canO tb.ver t o with
      | none => none
      | some o => (acc.set (some o) i).seq fun acc => canObjs tb objs r (i + 1) acc

def fnsH (objs : T AObj) : Tab → List (Nat → Option AV)
  | [] => []
  | (j, _) :: r => match objs.get j with
    | none => []
    | some o => fnsO o ++ fnsH objs r

def canHeap (tb : Tab) (h : AHeap) : Option AHeap := match h with
  | ⟨objs, next, glob⟩ => bif tb.all (fun p => Nat.blt p.1 next) then match canObjs tb objs tb 0 .leaf with
    | none => none
    | some objs => some ⟨objs, tb.length, glob⟩ else none

def canItem (g : Nat → Nat → Option (Nat × Nat)) : AItem → Option AItem
  | .inRange i => match idG g i with
    | none => none
    | some j => some (.inRange j)
  | .endRange i => match idG g i with
    | none => none
    | some j => some (.endRange j)
  | .drw .. => none
  | it => some it

def canMode (g : Nat → Nat → Option (Nat × Nat)) : AMode → Option AMode
  | .run => some .run
  | .returning => some .returning
  | .panicking c => match allO (fun (p : AV × Bool) => match canV g 99 p.1 with
    | none => none
    | some v => some (v, p.2)) c with
    | none => none
    | some c => some (.panicking c)

def canRound (g : Nat → Nat → Option (Nat × Nat)) : Option Nat → Option (Option Nat)
  | none => some none
  | some l => match idG g l with
    | none => none
    | some j => some (some j)

def canF (g : Nat → Nat → Option (Nat × Nat)) (us : List Nat) (fr : AFrame) : Option AFrame := match fr with
  | ⟨fn, n, t, todo, ds, mode, kind, round⟩ => match keepT g t us .leaf with
    | none => none
    | some t => match allO (canItem g) todo with
      | none => none
      | some todo => match allO (canDef g) ds with
        | none => none
        | some ds => match canMode g mode with
          | none => none
          | some mode => match canRound g round with
            | none => none
            | some round => some ⟨fn, n, t, todo, ds, mode, kind, round⟩

def canFs (g : Nat → Nat → Option (Nat × Nat)) : List (List Nat) → List AFrame → Option (List AFrame)
  | us :: r, f :: fs => match canF g us f with
    | none => none
    | some f => match canFs g r fs with
      | none => none
      | some fs => some (f :: fs)
  | [], [] => some []
  | _, _ => none

/-- Which version is kept alone: of cells of which one is left. -/
def tabOf (keep : Nat) (objs : T AObj) : List Nat → Nat → Tab
  | [], _ => []
  | j :: r, i => (j, bif Nat.blt i keep then none else match objs.get j with
    | some (.cells _ _ _ lo hi ..) => bif Nat.beq lo hi then some hi else none
    | _ => none) :: tabOf keep objs r (i + 1)

def nodup : List Nat → Bool
  | [] => true
  | i :: r => !(r.any fun j => Nat.beq i j) && nodup r

/-- The first so many names stay. -/
def stays : List Nat → Nat → Nat → Bool
  | _, 0, _ => true
  | [], _ + 1, _ => false
  | j :: r, k + 1, i => Nat.beq j i && stays r k (i + 1)

def canM (keep : Nat) (ids : List Nat) (us : List Nat) (uss : List (List Nat)) (m : AM) : Option AM := match m with
  | ⟨top, rest, heap⟩ => bif nodup ids && stays ids keep 0 then
      match canHeap (tabOf keep heap.objs ids 0) heap with
      | none => none
      | some h => match canF (tabOf keep heap.objs ids 0).ver us top with
        | none => none
        | some top => match canFs (tabOf keep heap.objs ids 0).ver uss rest with
          | none => none
          | some rest => some ⟨top, rest, h⟩
    else none

def PlainFns : List (Nat → Option AV) → Prop → Prop
  | [], K => K
  | f :: r, K => PlainFn f ∧ PlainFns r K

/-- Names given anew; what is kept: names, slots of the frames. -/
def CanP (keep : Nat) (ids us : List Nat) (uss : List (List Nat)) (m : AM) (K : AM → Prop) : Prop := match canM keep ids us uss m with
  | none => False
  | some m' => PlainFns (fnsH m.heap.objs (tabOf keep m.heap.objs ids 0)) (K m')

end

/-! ## What they stand for -/

section
variable {P : Program} {tb : Tab} {R : Bij}

theorem tabGo_some {j : Nat} : ∀ {l : Tab} {i i' : Nat} {t : Option Nat}, tabGo j l i = some (i', t) → i ≤ i' ∧ l[i' - i]? = some (j, t)
  | [], _, _, _, e => by cases e
  | (k, t0) :: r, i, i', t, e => by
    unfold tabGo at e
    cases hb : Nat.beq k j with
    | true =>
      rw [hb] at e; cases e
      rw [Nat.eq_of_beq_eq_true hb]
      exact ⟨Nat.le_refl _, by simp⟩
    | false =>
      rw [hb] at e
      obtain ⟨h1, h2⟩ := tabGo_some (l := r) e
      refine ⟨by omega, ?_⟩
      rw [show i' - i = (i' - (i + 1)) + 1 by omega, List.getElem?_cons_succ]
      exact h2

theorem Tab.ver_some {j s i r : Nat} (e : tb.ver j s = some (i, r)) : ∀ L, R j s = some L → tb.re R i r = some L := by
  intro L hL
  unfold Tab.ver at e
  split at e
  · cases e
  · rename_i i' hf
    cases e
    have := (tabGo_some hf).2
    simp only [Nat.sub_zero] at this
    simp only [Tab.re, this]
    exact hL
  · rename_i i' t hf
    have := (tabGo_some hf).2
    simp only [Nat.sub_zero] at this
    cases hb : Nat.beq t s with
    | false => rw [hb] at e; cases e
    | true =>
      rw [hb] at e; cases e
      have := Nat.eq_of_beq_eq_true hb
      simp only [Tab.re, *, if_true]

mutual
theorem plainV_rel {R' : Bij} : ∀ (n : Nat) (v : AV) (x : Value), plainV n v = true → VRel R v x → VRel R' v x
  | 0, _, _, e, _ => by simp [plainV] at e
  | n + 1, v, x, e, k => by
    cases v <;> simp only [plainV, Bool.and_eq_true, Bool.false_eq_true] at e
    case fn f a b =>
      obtain ⟨h0, p, q, h1, h2, h3⟩ := k
      exact ⟨h0, p, q, h1, plainL_rel n _ _ e.1 h2, plainL_rel n _ _ e.2 h3⟩
    case ifc t y =>
      obtain ⟨z, h1, h2⟩ := k
      exact ⟨z, h1, plainV_rel n _ _ e h2⟩
    case agg l =>
      obtain ⟨z, h1, h2⟩ := k
      exact ⟨z, h1, plainL_rel n _ _ e h2⟩
    case tup l =>
      obtain ⟨z, h1, h2⟩ := k
      exact ⟨z, h1, plainL_rel n _ _ e h2⟩
    all_goals exact k
theorem plainL_rel {R' : Bij} : ∀ (n : Nat) (l : List AV) (x : List Value), plainL n l = true → VRels R l x → VRels R' l x
  | 0, _, _, e, _ => by simp [plainL] at e
  | n + 1, l, x, e, k => by
    cases l with
    | nil => exact k
    | cons v r =>
      simp only [plainL, Bool.and_eq_true] at e
      obtain ⟨y, ys, h1, h2, h3⟩ := k
      exact ⟨y, ys, h1, plainV_rel n _ _ e.1 h2, plainL_rel n _ _ e.2 h3⟩
end

/-- What is named anew stands for the same. -/
def RenOk (g : Nat → Nat → Option (Nat × Nat)) (R R' : Bij) : Prop := ∀ j s i r, g j s = some (i, r) → ∀ L, R j s = some L → R' i r = some L

theorem Tab.ok (tb : Tab) (R : Bij) : RenOk tb.ver R (tb.re R) := fun _ _ _ _ e => Tab.ver_some e

end

section
variable {P : Program} {g : Nat → Nat → Option (Nat × Nat)} {R R' : Bij} (hg : RenOk g R R')
include hg

theorem RenOk.id {j i : Nat} (e : idG g j = some i) : ∀ L, R j 0 = some L → R' i 0 = some L := by
  unfold idG at e
  split at e
  · cases e
  · rename_i i' r hv
    cases hb : Nat.beq r 0 with
    | false => rw [hb] at e; cases e
    | true =>
      rw [hb] at e; cases e
      have := Nat.eq_of_beq_eq_true hb
      subst this
      exact hg _ _ _ _ hv

mutual
theorem canV_rel : ∀ (n : Nat) (v v' : AV) (x : Value), canV g n v = some v' → VRel R v x → VRel R' v' x
  | 0, _, _, _, e, _ => by simp [canV] at e
  | n + 1, v, v', x, e, k => by
    cases v <;> simp only [canV] at e
    case ptr i r o =>
      split at e
      · cases e
      · rename_i j s hv; cases e
        obtain ⟨L, h1, h2⟩ := k
        exact ⟨L, hg _ _ _ _ hv L h1, h2⟩
    case slc i r o l c =>
      split at e
      · cases e
      · rename_i j s hv; cases e
        obtain ⟨L, h1, h2⟩ := k
        exact ⟨L, hg _ _ _ _ hv L h1, h2⟩
    case slg i r o l c =>
      split at e
      · cases e
      · rename_i j s hv; cases e
        obtain ⟨L, a, h1, h2⟩ := k
        exact ⟨L, a, hg _ _ _ _ hv L h1, h2⟩
    case mp i =>
      split at e
      · cases e
      · rename_i j hv; cases e
        obtain ⟨L, h1, h2⟩ := k
        exact ⟨L, hg.id hv L h1, h2⟩
    case yld i =>
      split at e
      · cases e
      · rename_i j hv; cases e
        obtain ⟨L, h1, h2⟩ := k
        exact ⟨L, hg.id hv L h1, h2⟩
    case fn f a b =>
      split at e
      · rename_i a' b' ha hb
        cases e
        obtain ⟨h0, p, q, h1, h2, h3⟩ := k
        exact ⟨h0, p, q, h1, canL_rel n _ _ _ ha h2, canL_rel n _ _ _ hb h3⟩
      · cases e
    case ifc t y =>
      split at e
      · cases e
      · rename_i y' hy; cases e
        obtain ⟨z, h1, h2⟩ := k
        exact ⟨z, h1, canV_rel n _ _ _ hy h2⟩
    case agg l =>
      split at e
      · cases e
      · rename_i y' hy; cases e
        obtain ⟨z, h1, h2⟩ := k
        exact ⟨z, h1, canL_rel n _ _ _ hy h2⟩
    case tup l =>
      split at e
      · cases e
      · rename_i y' hy; cases e
        obtain ⟨z, h1, h2⟩ := k
        exact ⟨z, h1, canL_rel n _ _ _ hy h2⟩
    all_goals (cases e; exact k)
theorem canL_rel : ∀ (n : Nat) (l l' : List AV) (x : List Value), canL g n l = some l' → VRels R l x → VRels R' l' x
  | 0, _, _, _, e, _ => by simp [canL] at e
  | n + 1, l, l', x, e, k => by
    have _ := hg
    cases l with
    | nil => simp only [canL] at e; cases e; exact k
    | cons v r =>
      simp only [canL] at e
      split at e
      · cases e
      · rename_i v' hv
        split at e
        · cases e
        · rename_i r' hr
          cases e
          obtain ⟨y, ys, h1, h2, h3⟩ := k
          exact ⟨y, ys, h1, canV_rel n _ _ _ hv h2, canL_rel n _ _ _ hr h3⟩
end

omit hg in
theorem fnsT_node {α : Type} (l : T α) (v : Option α) (r : T α) : fnsT (.node l v r) = fnsT l ++ fnsT r := rfl

omit hg in
theorem canT_get : ∀ {t t' : T AV}, canT g t = some t' → (∀ f ∈ fnsT t, PlainFn f) → ∀ u v', t'.get u = some v' → ∃ v, t.get u = some v ∧ (canV g 99 v = some v' ∨ v' = v ∧ plainV 99 v = true)
  | .leaf, t', e, _, u, v', gg => by cases e; cases gg
  | .fn f, t', e, hp, u, v', gg => by cases e; exact ⟨v', gg, .inr ⟨rfl, hp f (by simp [fnsT]) u v' gg⟩⟩
  | .node l v r, t', e, hp, u, v', gg => by
    change canNode g v (canT g l) (canT g r) = some t' at e
    unfold canNode at e
    rw [fnsT_node] at hp
    split at e
    · cases e
    · rename_i l' hl
      split at e
      · cases e
      · rename_i r' hr
        have step : ∀ {w w' : Option AV}, t' = .node l' w' r' → (∀ x, w' = some x → ∃ y, w = some y ∧ canV g 99 y = some x) → v = w → ∃ v, (T.node l w r).get u = some v ∧ (canV g 99 v = some v' ∨ v' = v ∧ plainV 99 v = true) := by
          intro w w' ht hw _
          subst ht
          rw [T.get_node] at gg ⊢
          split at gg
          · obtain ⟨y, h1, h2⟩ := hw v' gg
            subst h1
            exact ⟨y, by rw [if_pos (by assumption)], .inl h2⟩
          · rename_i h0
            rw [if_neg h0]
            split at gg
            · rename_i h1
              rw [if_pos h1]
              exact canT_get hl (fun f hf => hp f (List.mem_append_left _ hf)) _ v' gg
            · rename_i h1
              rw [if_neg h1]
              exact canT_get hr (fun f hf => hp f (List.mem_append_right _ hf)) _ v' gg
        split at e
        · cases e
          exact step rfl (fun x hx => by cases hx) rfl
        · rename_i y
          split at e
          · cases e
          · rename_i y' hy
            cases e
            exact step rfl (fun x hx => by cases hx; exact ⟨y, rfl, hy⟩) rfl

theorem canT_rel {t t' : T AV} (e : canT g t = some t') (hp : ∀ f ∈ fnsT t, PlainFn f) {u : Nat} {v' : AV} (g : t'.get u = some v') : ∃ v, t.get u = some v ∧ ∀ x, VRel R v x → VRel R' v' x := by
  obtain ⟨v, h1, h2⟩ := canT_get e hp u v' g
  refine ⟨v, h1, fun x k => ?_⟩
  rcases h2 with h2 | ⟨rfl, h2⟩
  · exact canV_rel hg 99 _ _ _ h2 k
  · exact plainV_rel 99 _ _ h2 k

omit hg in
theorem keepT_rel {t : T AV} : ∀ {us : List Nat} {acc t' : T AV}, keepT g t us acc = some t' → (∀ u v', acc.get u = some v' → ∃ v, t.get u = some v ∧ canV g 99 v = some v') → ∀ u v', t'.get u = some v' → ∃ v, t.get u = some v ∧ canV g 99 v = some v'
  | [], acc, t', e, h => by cases e; exact h
  | u0 :: r, acc, t', e, h => by
    unfold keepT at e
    split at e
    · cases e
    · rename_i v0 h0
      split at e
      · cases e
      · rename_i v1 h1
        rw [T.seq_eq] at e
        refine keepT_rel e fun u v' g => ?_
        rw [T.get_set] at g
        split at g
        · rename_i hu
          cases g
          rw [hu]
          exact ⟨v0, h0, h1⟩
        · exact h u v' g

omit hg in
theorem allO_rel {α β γ : Type} {f : α → Option β} {r : α → γ → Prop} {r' : β → γ → Prop} (h : ∀ a b c, f a = some b → r a c → r' b c) : ∀ {l : List α} {l' : List β} {m : List γ}, allO f l = some l' → All2 r l m → All2 r' l' m
  | [], _, _, e, k => by cases e; exact k
  | a :: l, l', m, e, k => by
    unfold allO at e
    split at e
    · cases e
    · rename_i b hb
      split at e
      · cases e
      · rename_i r0 hr0
        cases e
        obtain ⟨c, cs, h1, h2, h3⟩ := k
        exact ⟨c, cs, h1, h _ _ _ hb h2, allO_rel h hr0 h3⟩

theorem canTgt_rel {t t' : ATgt} {x : Target} (e : canTgt g t = some t') (k : TgtRel R t x) : TgtRel R' t' x := by
  cases t with
  | fn f c =>
    simp only [canTgt] at e
    split at e
    · cases e
    · rename_i c' hc
      cases e
      obtain ⟨h0, l, h1, h2⟩ := k
      exact ⟨h0, l, h1, canL_rel hg 99 _ _ _ hc h2⟩
  | nil => cases e; exact k
  | collected i =>
    simp only [canTgt] at e
    split at e
    · cases e
    · rename_i j hj
      cases e
      obtain ⟨L, h1, h2⟩ := k
      exact ⟨L, hg.id hj L h1, h2⟩

theorem canDef_rel {d d' : ADef} {x : Deferred} (e : canDef g d = some d') (k : DefRel R d x) : DefRel R' d' x := by
  unfold canDef at e
  split at e
  · cases e
  · rename_i t ht
    split at e
    · cases e
    · rename_i a ha
      cases e
      exact ⟨canTgt_rel hg ht k.1, canL_rel hg 99 _ _ _ ha k.2⟩

theorem canEnt_rel {d d' : AEntry} {x : MapEntry} (e : canEnt g d = some d') (k : ERel R d x) : ERel R' d' x := by
  unfold canEnt at e
  split at e
  · cases e
  · rename_i t ht
    split at e
    · cases e
    · rename_i a ha
      cases e
      exact ⟨canV_rel hg 99 _ _ _ ht k.1, canV_rel hg 99 _ _ _ ha k.2.1, k.2.2⟩

theorem canItem_rel {d d' : AItem} {x : Item} (e : canItem g d = some d') (k : ItemRel R d x) : ItemRel R' d' x := by
  cases d <;> simp only [canItem] at e
  case inRange i =>
    split at e
    · cases e
    · rename_i j hj
      cases e
      obtain ⟨L, h1, h2⟩ := k
      exact ⟨L, hg.id hj L h1, h2⟩
  case endRange i =>
    split at e
    · cases e
    · rename_i j hj
      cases e
      obtain ⟨L, h1, h2⟩ := k
      exact ⟨L, hg.id hj L h1, h2⟩
  case drw => cases e
  all_goals (cases e; exact k)

theorem canMode_rel {d d' : AMode} {x : FrameMode} (e : canMode g d = some d') (k : ModeRel R d x) : ModeRel R' d' x := by
  cases d <;> simp only [canMode] at e
  case panicking c =>
    split at e
    · cases e
    · rename_i c' hc
      cases e
      obtain ⟨l, h1, h2⟩ := k
      refine ⟨l, h1, allO_rel (fun a b z hab hz => ?_) hc h2⟩
      split at hab
      · cases hab
      · rename_i v hv
        cases hab
        exact ⟨canV_rel hg 99 _ _ _ hv hz.1, hz.2⟩
  all_goals (cases e; exact k)

theorem canRound_rel {d d' : Option Nat} {x : Option Nat} (e : canRound g d = some d') (k : RoundRel R d x) : RoundRel R' d' x := by
  cases d <;> simp only [canRound] at e
  · cases e; exact k
  · split at e
    · cases e
    · rename_i j hj
      cases e
      obtain ⟨L, h1, h2⟩ := k
      exact ⟨L, hg.id hj L h1, h2⟩

theorem keepT_slots {t t' : T AV} {us : List Nat} {a : Array Value} (e : keepT g t us .leaf = some t') (k : Slots R t a) : Slots R' t' a := fun u v' g => by
  obtain ⟨v, h1, h2⟩ := keepT_rel e (fun u v' g => by cases g) u v' g
  obtain ⟨x, h3, h4⟩ := k u v h1
  exact ⟨x, h3, canV_rel hg 99 _ _ _ h2 h4⟩

omit hg in
theorem allO_items : ∀ {l l' : List AItem}, allO (canItem g) l = some l' → ∀ it ∈ l, ∀ a b c, it ≠ .drw a b c
  | [], _, _, _, h => absurd h List.not_mem_nil
  | a :: l, l', e, it, hm => by
    unfold allO at e
    split at e
    · cases e
    · rename_i b hb
      split at e
      · cases e
      · rename_i r0 hr0
        rcases List.mem_cons.1 hm with h | h
        · subst h
          intro a b c h
          subst h; cases hb
        · exact allO_items hr0 it h

omit hg in
theorem canItem_plain {d d' : AItem} (e : canItem g d = some d') : ∀ a b c, d' ≠ .drw a b c := by
  intro a b c h
  subst h
  cases d <;> simp only [canItem] at e
  case inRange i => split at e <;> cases e
  case endRange i => split at e <;> cases e
  all_goals cases e

theorem canF_rel {B B' : Base} {d d' : Nat} {sus sus' : Bool} {h h' : AHeap} {af af' : AFrame} {fr : Frame} {us : List Nat} (e : canF g us af = some af') (k : FrameRel P B R d sus h af fr) : FrameRel P B' R' d' sus' h' af' fr := by
  obtain ⟨fn, n, t, todo, ds, mode, kind, round⟩ := af
  simp only [canF] at e
  split at e
  · cases e
  rename_i t' ht
  split at e
  · cases e
  rename_i todo' htodo
  split at e
  · cases e
  rename_i ds' hds
  split at e
  · cases e
  rename_i mode' hmode
  split at e
  · cases e
  rename_i round' hround
  cases e
  obtain ⟨k1, k2, k3, k4, k5, k6, k7, k8, k9⟩ := k
  refine ⟨k1, k2, k3, k4, canRound_rel hg hround k5, allO_rel (r := DefRel R) (r' := DefRel R') (fun _ _ _ => canDef_rel hg) hds k6, canMode_rel hg hmode k7, k8, ?_⟩
  have htr : ∀ {a : Array Value} {ct : List Item}, TodoRel P B R d sus h todo t ct a → TodoRel P B' R' d' sus' h' todo' t' ct a := by
    intro a ct q
    have q' : All2 (ItemRel R) todo ct ∧ Slots R t a := by
      cases todo with
      | nil => exact q
      | cons it kk =>
        cases it with
        | drw a b c => exact absurd rfl (allO_items htodo _ List.mem_cons_self a b c)
        | _ => exact q
    have g : All2 (ItemRel R') todo' ct ∧ Slots R' t' a := ⟨allO_rel (r := ItemRel R) (r' := ItemRel R') (fun _ _ _ => canItem_rel hg) htodo q'.1, keepT_slots hg ht q'.2⟩
    cases todo' with
    | nil => exact g
    | cons it kk =>
      cases it with
      | drw a b c =>
        exfalso
        cases todo with
        | nil => cases htodo
        | cons i0 k0 =>
          unfold allO at htodo
          split at htodo
          · cases htodo
          · rename_i b0 hb0
            split at htodo
            · cases htodo
            · cases htodo
              exact canItem_plain hb0 a b c rfl
      | _ => exact g
  cases mode with
  | run => cases hmode; exact htr k9
  | returning => cases hmode; exact keepT_slots hg ht k9
  | panicking c =>
    simp only [canMode] at hmode
    split at hmode
    · cases hmode
    · cases hmode; exact keepT_slots hg ht k9

theorem canFs_rel {B B' : Base} {h h' : AHeap} : ∀ {uss : List (List Nat)} {as as' : List AFrame} {fs : List Frame}, canFs g uss as = some as' → StackRel P B R h as fs → StackRel P B' R' h' as' fs ∧ as'.length = as.length
  | [], [], _, _, e, k => by cases e; exact ⟨k, rfl⟩
  | [], _ :: _, _, _, e, _ => by cases e
  | _ :: _, [], _, _, e, _ => by cases e
  | us :: uss, a :: as, as', fs, e, ⟨f, r, e1, k1, k2⟩ => by
    simp only [canFs] at e
    split at e
    · cases e
    · rename_i a' ha
      split at e
      · cases e
      · rename_i r' hr
        cases e
        obtain ⟨g1, g2⟩ := canFs_rel (B' := B') (h' := h') hr k2
        exact ⟨⟨f, r, e1, by rw [g2]; exact canF_rel hg ha k1, g1⟩, by simp [g2]⟩

theorem canO_rel {w : World} {i j : Nat} {t : Option Nat} {o o' : AObj} (hre : t = none → ∀ r, R' i r = R j r) (hve : ∀ t0, t = some t0 → ∀ r, R' i r = if r = 0 then R j t0 else none) (e : canO g t o = some o') (hp : ∀ f ∈ fnsO o, PlainFn f) (k : ObjRel P R w j o) : ObjRel P R' w i o' := by
  cases o with
  | cells c n el lo hi' nv fz sg ex =>
    simp only [canO] at e
    split at e
    · cases e
    · rename_i c' hc
      obtain ⟨a1, a2, a3, a4, a5⟩ := k
      have hv : ∀ {e L}, VerRel P R w c el fz sg e L → VerRel P R' w c' el fz sg e L := by
        intro e L ⟨cs, a, b, h1, h2, h3, h4, h5⟩
        refine ⟨cs, a, b, h1, h2, h3, h4, fun q v g1 g2 g3 => ?_⟩
        obtain ⟨v0, q1, q2⟩ := canT_rel hg hc hp g3
        obtain ⟨x, q3, q4⟩ := h5 q v0 g1 g2 q1
        exact ⟨x, q3, q2 x q4⟩
      split at e
      · cases e
        refine ⟨a1, a2, fun r hr => by rw [hre rfl]; exact a3 r hr, fun r e b1 b2 b3 => ?_, a5⟩
        obtain ⟨L, h1, h2⟩ := a4 r e b1 b2 b3
        exact ⟨L, by rw [hre rfl]; exact h1, hv h2⟩
      · rename_i t0
        cases hb : (Nat.beq t0 hi' && Nat.ble lo hi') with
        | false => rw [hb] at e; cases e
        | true =>
          rw [hb] at e; cases e
          rw [Bool.and_eq_true] at hb
          have ht := Nat.eq_of_beq_eq_true hb.1
          subst ht
          refine ⟨Nat.le_refl _, by omega, fun r hr => ?_, fun r e b1 b2 b3 => ?_, fun r e b1 b2 b3 => ?_⟩
          · rw [hve _ rfl, if_neg (by omega)]
          · obtain rfl : r = 0 := by omega
            simp only [extOf, if_true, Option.some.injEq] at b3
            subst b3
            obtain ⟨L, h1, h2⟩ := a4 t0 n a1 (Nat.le_refl _) (by simp [extOf])
            exact ⟨L, by rw [hve _ rfl, if_pos rfl]; exact h1, hv h2⟩
          · obtain rfl : r = 0 := by omega
            simp only [extOf, if_true, Option.some.injEq] at b3
            omega
  | map es clock =>
    simp only [canO] at e
    split at e
    · cases e
    · split at e
      · cases e
      · rename_i es' hes
        cases e
        obtain ⟨L, es0, h1, h2, h3⟩ := k
        exact ⟨L, es0, by rw [hre rfl]; exact h1, h2, allO_rel (r := ERel R) (r' := ERel R') (fun _ _ _ => canEnt_rel hg) hes h3⟩
  | iter s p =>
    simp only [canO] at e
    split at e
    · cases e
    · cases e
      obtain ⟨L, h1, h2⟩ := k
      exact ⟨L, by rw [hre rfl]; exact h1, h2⟩
  | ro c lo n =>
    simp only [canO] at e
    split at e
    · cases e
    · cases e
      obtain ⟨L, cs, el, fz, h1, h2, h3, h4, h5⟩ := k
      exact ⟨L, cs, el, fz, by rw [hre rfl]; exact h1, h2, h3, h4, h5⟩
  | dfrd ds =>
    simp only [canO] at e
    split at e
    · cases e
    · obtain ⟨L, ds', h1, h2, h3⟩ := k
      cases ds with
      | none => cases e; exact ⟨L, ds', by rw [hre rfl]; exact h1, h2, h3⟩
      | some ds =>
        simp only at e
        split at e
        · cases e
        · rename_i ds0 hds
          cases e
          obtain ⟨l, h4, h5⟩ := h3
          exact ⟨L, ds', by rw [hre rfl]; exact h1, h2, l, h4, allO_rel (r := DefRel R) (r' := DefRel R') (fun _ _ _ => canDef_rel hg) hds h5⟩
  | loop lp =>
    obtain ⟨st, pe, fn, n, tmps, ps, asg, body, df⟩ := lp
    simp only [canO] at e
    split at e
    · cases e
    · split at e
      · cases e
      · rename_i tmps' ht
        split at e
        · cases e
        · rename_i df' hdf
          cases e
          obtain ⟨L, lp', h1, h2, h3⟩ := k
          refine ⟨L, lp', by rw [hre rfl]; exact h1, h2, h3.state, h3.pending, h3.fn, ⟨h3.tmps.1, fun u v' g => ?_⟩, h3.params, h3.assign, h3.body, ?_⟩
          · obtain ⟨v, q1, q2⟩ := canT_rel hg ht hp g
            obtain ⟨x, q3, q4⟩ := h3.tmps.2 u v q1
            exact ⟨x, q3, q2 x q4⟩
          · obtain ⟨M, q1, q2⟩ := h3.defers
            exact ⟨M, hg.id hdf M q1, q2⟩

end

section
variable {P : Program} {tb : Tab} {R : Bij}

theorem canObjs_get {objs : T AObj} {n : Nat} : ∀ {l : Tab} {i : Nat} {acc objs' : T AObj}, canObjs tb objs l i acc = some objs' → (∀ q o', acc.get q = some o' → ∃ j t o, tb[q]? = some (j, t) ∧ objs.get j = some o ∧ canO tb.ver t o = some o') →
    (∀ q, l[q]? = tb[i + q]?) → ∀ q o', objs'.get q = some o' → ∃ j t o, tb[q]? = some (j, t) ∧ objs.get j = some o ∧ canO tb.ver t o = some o'
  | [], i, acc, objs', e, h, _ => by cases e; exact h
  | (j, t) :: r, i, acc, objs', e, h, hl => by
    unfold canObjs at e
    split at e
    · cases e
    · rename_i o ho
      split at e
      · cases e
      · rename_i o1 ho1
        rw [T.seq_eq] at e
        refine canObjs_get (n := n) e (fun q o' g => ?_) (fun q => ?_)
        · rw [T.get_set] at g
          split at g
          · rename_i hq
            cases g
            subst hq
            exact ⟨j, t, o, by have := hl 0; simpa using this.symm, ho, ho1⟩
          · exact h q o' g
        · have := hl (q + 1)
          rw [List.getElem?_cons_succ] at this
          rw [this]; congr 1; omega

theorem fnsH_mem {objs : T AObj} : ∀ {l : Tab} {i j : Nat} {t : Option Nat} {o : AObj} {f : Nat → Option AV}, (∀ (q j : Nat) (t : Option Nat), l[q]? = some (j, t) → (objs.get j).isSome = true) → l[i]? = some (j, t) → objs.get j = some o → f ∈ fnsO o → f ∈ fnsH objs l
  | [], _, _, _, _, _, _, e, _, _ => by simp at e
  | (j0, t0) :: r, i, j, t, o, f, hs, e, ho, hf => by
    have h0 := hs 0 j0 t0 (by simp)
    unfold fnsH
    cases hj : objs.get j0 with
    | none => rw [hj] at h0; cases h0
    | some o0 =>
      simp only []
      cases i with
      | zero =>
        simp at e
        obtain ⟨rfl, rfl⟩ := e
        rw [hj] at ho; cases ho
        exact List.mem_append_left _ hf
      | succ i =>
        exact List.mem_append_right _ (fnsH_mem (fun q j t h => hs (q + 1) j t (by simpa using h)) (by simpa using e) ho hf)

theorem canObjs_some {objs : T AObj} : ∀ {l : Tab} {i : Nat} {acc objs' : T AObj}, canObjs tb objs l i acc = some objs' → ∀ (q j : Nat) (t : Option Nat), l[q]? = some (j, t) → (objs.get j).isSome = true
  | [], _, _, _, _, _, _, _, h => by simp at h
  | (j0, t0) :: r, i, acc, objs', e, q, j, t, h => by
    unfold canObjs at e
    split at e
    · cases e
    · rename_i o ho
      split at e
      · cases e
      · rw [T.seq_eq] at e
        cases q with
        | zero => simp at h; obtain ⟨rfl, rfl⟩ := h; rw [ho]; rfl
        | succ q => exact canObjs_some e q j t (by simpa using h)

theorem tabOf_get {keep : Nat} {objs : T AObj} : ∀ {ids : List Nat} {i q j : Nat} {t : Option Nat}, (tabOf keep objs ids i)[q]? = some (j, t) → ids[q]? = some j ∧ (i + q < keep → t = none)
  | [], _, _, _, _, h => by simp [tabOf] at h
  | j0 :: r, i, q, j, t, h => by
    unfold tabOf at h
    cases q with
    | zero =>
      simp only [List.getElem?_cons_zero, Option.some.injEq, Prod.mk.injEq] at h
      obtain ⟨rfl, h⟩ := h
      refine ⟨by simp, fun hk => ?_⟩
      have : Nat.blt i keep = true := by rw [Nat.blt_eq]; omega
      rw [this] at h
      exact h.symm
    | succ q =>
      rw [List.getElem?_cons_succ] at h
      obtain ⟨g1, g2⟩ := tabOf_get h
      exact ⟨by simpa using g1, fun hk => g2 (by omega)⟩

theorem nodup_inj : ∀ {ids : List Nat}, nodup ids = true → ∀ {p q j : Nat}, ids[p]? = some j → ids[q]? = some j → p = q
  | [], _, _, _, _, h, _ => by simp at h
  | i :: r, hn, p, q, j, hp, hq => by
    simp only [nodup, Bool.and_eq_true, Bool.not_eq_true', List.any_eq_false] at hn
    have hno : ∀ k, r[k]? = some i → False := fun k hk => hn.1 i (List.mem_of_getElem? hk) (Nat.beq_refl i)
    cases p with
    | zero =>
      cases q with
      | zero => rfl
      | succ q => simp at hp hq; subst hp; exact absurd (hno q hq) id
    | succ p =>
      cases q with
      | zero => simp at hp hq; subst hq; exact absurd (hno p hp) id
      | succ q => simp at hp hq; rw [nodup_inj hn.2 hp hq]

theorem stays_get : ∀ {ids : List Nat} {k i : Nat}, stays ids k i = true → ∀ q, q < k → ids[q]? = some (i + q)
  | _, 0, _, _, q, hq => absurd hq (Nat.not_lt_zero _)
  | [], _ + 1, _, h, _, _ => by cases h
  | j :: r, k + 1, i, h, q, hq => by
    simp only [stays, Bool.and_eq_true] at h
    cases q with
    | zero => simp; exact Nat.eq_of_beq_eq_true h.1
    | succ q =>
      rw [List.getElem?_cons_succ, stays_get h.2 q (by omega)]
      congr 1; omega

theorem tabOf_length {keep : Nat} {objs : T AObj} : ∀ {ids : List Nat} {i : Nat}, (tabOf keep objs ids i).length = ids.length
  | [], _ => rfl
  | _ :: r, i => by simp [tabOf, tabOf_length (ids := r)]

theorem PlainFns_mem {K : Prop} : ∀ {l : List (Nat → Option AV)}, PlainFns l K → (∀ f ∈ l, PlainFn f) ∧ K
  | [], h => ⟨fun _ hf => absurd hf List.not_mem_nil, h⟩
  | f :: r, h => by
    obtain ⟨g1, g2⟩ := PlainFns_mem (l := r) h.2
    exact ⟨fun f' hf => by
      rcases List.mem_cons.1 hf with e | e
      · rw [e]; exact h.1
      · exact g1 f' e, g2⟩

/-- The base, of names that are given anew. -/
noncomputable def Base.re (B : Base) (tb : Tab) (h : AHeap) : Base := { B with
  pend := fun i => match tb[i]? with
    | none => none
    | some (j, _) => match B.pend j with
      | none => none
      | some _ => h.get i
  ro := fun i => ∃ j t, tb[i]? = some (j, t) ∧ B.ro j }

theorem Sim.can {w0 : Env} {base : List Frame} {keep : Nat} {ids us : List Nat} {uss : List (List Nat)} {m m' : AM} {fr : Frame} {cs : List Frame} {w : World} (hk : ∀ i r L, w0.pin i r = some L → i < keep)
    (e : canM keep ids us uss m = some m') (hp : ∀ f ∈ fnsH m.heap.objs (tabOf keep m.heap.objs ids 0), PlainFn f) (k : Sim P w0 base m fr cs w) : Sim P w0 base m' fr cs w := by
  obtain ⟨top, rest, h⟩ := m
  obtain ⟨B, R, fs, hc, hb, kh, ho, kt, kb⟩ := k
  simp only [canM] at e
  cases hn : (nodup ids && stays ids keep 0) with
  | false => rw [hn] at e; cases e
  | true =>
    rw [hn] at e
    rw [Bool.and_eq_true] at hn
    simp only [cond_true] at e
    generalize htb : tabOf keep h.objs ids 0 = tb at e hp
    split at e
    · cases e
    rename_i h' hh
    split at e
    · cases e
    rename_i top' htop
    split at e
    · cases e
    rename_i rest' hrest
    cases e
    obtain ⟨g1, g2⟩ := canFs_rel (tb.ok R) (B' := B.re tb h') (h' := h') hrest kb
    refine ⟨B.re tb h', tb.re R, fs, hc, hb, ?_, ho, ?_, g1⟩
    · obtain ⟨objs, next, glob⟩ := h
      simp only [canHeap] at hh
      cases hlt : (tb.all fun p => Nat.blt p.1 next) with
      | false => rw [hlt] at hh; cases hh
      | true =>
        rw [hlt] at hh
        simp only [cond_true] at hh
        split at hh
        · cases hh
        rename_i objs' hobjs
        cases hh
        have hget := canObjs_get (n := 0) hobjs (fun q o' g => by cases g) (fun q => by rw [Nat.zero_add])
        have hsome := canObjs_some hobjs
        have htlt : ∀ {q j : Nat} {t : Option Nat}, tb[q]? = some (j, t) → q < tb.length := fun h => (List.getElem?_eq_some_iff.1 h).1
        have hre : ∀ {i r L}, tb.re R i r = some L → ∃ j t s, tb[i]? = some (j, t) ∧ R j s = some L ∧ (t = none → s = r) ∧ (∀ t0, t = some t0 → s = t0 ∧ r = 0) := by
          intro i r L e
          unfold Tab.re at e
          split at e
          · cases e
          · rename_i j hi; exact ⟨j, none, r, hi, e, (fun _ => rfl), (fun _ h => by cases h)⟩
          · rename_i j t0 hi
            split at e
            · rename_i hr; exact ⟨j, some t0, t0, hi, e, (fun h => by cases h), (fun _ h => by cases h; exact ⟨rfl, hr⟩)⟩
            · cases e
        have hinj : ∀ {p q j : Nat} {t t' : Option Nat}, tb[p]? = some (j, t) → tb[q]? = some (j, t') → p = q := by
          intro p q j t t' h1 h2
          rw [← htb] at h1 h2
          exact nodup_inj hn.1 (tabOf_get h1).1 (tabOf_get h2).1
        refine ⟨fun i hi r => ?_, fun i o' eo hpe => ?_, fun i o' e => ?_, fun i r L e => ?_, fun i hi => ?_, fun i hi => ?_, fun i r L hi e => ?_, kh.low, fun i r L e => ?_, fun i r i' r' L L' e e' hbl hor => ?_, fun i r r' L L' e e' hbl => ?_, fun g c e => ?_⟩
        · have : tb[i]? = none := List.getElem?_eq_none hi
          simp only [Tab.re, this]
        · obtain ⟨j, t, o, q1, q2, q3⟩ := hget i o' eo
          have hpend : B.pend j = none := by
            simp only [Base.re, q1] at hpe
            cases hb : B.pend j with
            | none => rfl
            | some o0 => rw [hb] at hpe; simp only at hpe; rw [hpe] at eo; cases eo
          exact canO_rel (tb.ok R) (fun ht r => by subst ht; simp only [Tab.re, q1]) (fun t0 ht r => by subst ht; simp only [Tab.re, q1]) q3 (fun f hf => hp f (fnsH_mem hsome q1 q2 hf)) (kh.obj j o q2 hpend)
        · simp only [Base.re] at e
          split at e
          · cases e
          · rename_i j t hj
            split at e
            · cases e
            · rename_i o0 hb0
              refine ⟨htlt hj, e, fun r => ?_⟩
              have hno := (kh.pend j o0 hb0).2.2
              cases hr : tb.re R i r with
              | none => rfl
              | some L =>
                obtain ⟨j', t', s, q1, q2, _, _⟩ := hre hr
                rw [hj] at q1; cases q1
                rw [hno s] at q2; cases q2
        · obtain ⟨j, t, s, q1, q2, q3, q4⟩ := hre e
          exact ⟨(kh.place j s L q2).1.elim .inl fun hr => .inr ⟨j, t, q1, hr⟩, (kh.place j s L q2).2⟩
        · obtain ⟨j, t, q1, q2⟩ := hi
          refine ⟨htlt q1, fun o' eo => ?_⟩
          obtain ⟨j', t', o, p1, p2, p3⟩ := hget i o' eo
          rw [q1] at p1; cases p1
          have := (kh.rd j q2).2 o p2
          cases o with
          | ro c lo n =>
            cases t with
            | none => simp only [canO] at p3; cases p3; rfl
            | some t0 => simp only [canO] at p3; cases p3
          | _ => cases this
        · obtain ⟨j, t, q1, q2⟩ := hi
          simp only [Base.re, q1, kh.rp j q2]
        · obtain ⟨j, t, s, q1, q2, q3, q4⟩ := hre e
          obtain ⟨j', t', p1, p2⟩ := hi
          rw [q1] at p1; cases p1
          exact kh.rol j s L p2 q2
        · have hik := hk i r L (by have e' : B.env.pin i r = some L := e; rw [hb] at e'; exact e')
          have hst := stays_get hn.2 i hik
          have hlen : i < tb.length := by
            rw [← htb, tabOf_length]; exact (List.getElem?_eq_some_iff.1 hst).1
          obtain ⟨⟨j, t⟩, hjt⟩ : ∃ p, tb[i]? = some p := ⟨_, List.getElem?_eq_getElem hlen⟩
          have := hjt
          rw [← htb] at this
          obtain ⟨a1, a2⟩ := tabOf_get this
          rw [a1] at hst
          simp only [Nat.zero_add, Option.some.injEq] at hst a2
          have ht := a2 hik
          subst hst ht
          simp only [Tab.re, hjt]
          exact kh.pin _ r L e
        · obtain ⟨j, t, s, q1, q2, _, _⟩ := hre e
          obtain ⟨j', t', s', q1', q2', _, _⟩ := hre e'
          have := kh.apart j s j' s' L L' q2 q2' hbl (hor.imp (fun hn hr => hn ⟨j, t, q1, hr⟩) (fun hn hr => hn ⟨j', t', q1', hr⟩))
          subst this
          exact hinj q1 q1'
        · obtain ⟨j, t, s, q1, q2, _, _⟩ := hre e
          obtain ⟨j', t', s', q1', q2', _, _⟩ := hre e'
          rw [q1] at q1'; cases q1'
          exact kh.same j s s' L L' q2 q2' hbl
        · exact kh.glob g c e
    · show FrameRel P _ _ rest'.length false _ top' fr
      rw [g2]
      exact canF_rel (tb.ok R) htop kt

end

end Go.Proofs.Ytcdpmiebmhjmpaa.Ev
