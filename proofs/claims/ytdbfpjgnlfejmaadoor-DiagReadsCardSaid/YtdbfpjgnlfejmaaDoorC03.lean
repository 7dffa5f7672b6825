import Derived.Test.YtdbfpjgnlfejmaaDoorC00
import Derived.Test.YtdbfpjgnlfejmaaDoorC01
import Derived.Test.YtdbfpjgnlfejmaaDoorC02
section
namespace Go.Proofs.YtdbfpjgnlfejmaaDoor.Ev
open Go
noncomputable section
variable (P : Program)
abbrev Tab := List (Nat × Option Nat)
def ze8 (j : Nat) : Tab → Nat → Option (Nat × Option Nat)
 | [], _ => none
 | (k, t) :: r, i => bif Nat.beq k j then some (i, t) else ze8 j r (i + 1)
def Tab.find (tb : Tab) (j : Nat) : Option (Nat × Option Nat) := ze8 j tb 0
def Tab.ver (tb : Tab) (j s : Nat) : Option (Nat × Nat) := match tb.find j with
 | none => none
 | some (i, none) => some (i, s)
 | some (i, some t) => bif Nat.beq t s then some (i, 0) else none
def Tab.re (tb : Tab) (R : Bij) : Bij := fun i r => match tb[i]? with
 | none => none
 | some (j, none) => R j r
 | some (j, some t) => if r = 0 then R j t else none
def idG (g : Nat → Nat → Option (Nat × Nat)) (j : Nat) : Option Nat := match g j 0 with
 | none => none
 | some (i, r) => bif Nat.beq r 0 then some i else none
mutual
def zei (g : Nat → Nat → Option (Nat × Nat)) : Nat → AV → Option AV
 | 0, _ => none
 | n + 1, v => match v with
  | .ptr i r o => match g i r with
   | none => none
   | some (j, s) => some (.ptr j s o)
  | .slc i r o l c => match g i r with
   | none => none
   | some (j, s) => some (.slc j s o l c)
  | .slg i r o l c => match g i r with
   | none => none
   | some (j, s) => some (.slg j s o l c)
  | .mp i => match idG g i with
   | none => none
   | some j => some (.mp j)
  | .yld i => match idG g i with
   | none => none
   | some j => some (.yld j)
  | .fn f a b => match zh4 g n a, zh4 g n b with
   | some a, some b => some (.fn f a b)
   | _, _ => none
  | .ifc t v => match zei g n v with
   | none => none
   | some v => some (.ifc t v)
  | .agg l => match zh4 g n l with
   | none => none
   | some l => some (.agg l)
  | .tup l => match zh4 g n l with
   | none => none
   | some l => some (.tup l)
  | v => some v
def zh4 (g : Nat → Nat → Option (Nat × Nat)) : Nat → List AV → Option (List AV)
 | 0, _ => none
 | n + 1, l => match l with
  | [] => some []
  | v :: r => match zei g n v with
   | none => none
   | some v => match zh4 g n r with
    | none => none
    | some r => some (v :: r)
end
mutual
def va : Nat → AV → Bool
 | 0, _ => false
 | n + 1, v => match v with
  | .ptr .. | .slc .. | .slg .. | .mp _ | .yld _ => false
  | .fn _ a b => za0 n a && za0 n b
  | .ifc _ v => va n v
  | .agg l | .tup l => za0 n l
  | _ => true
def za0 : Nat → List AV → Bool
 | 0, _ => false
 | n + 1, l => match l with
  | [] => true
  | v :: r => va n v && za0 n r
end
def zb (f : Nat → Option AV) : Prop := ∀ k v, f k = some v → va 99 v = true
def zkS {α : Type} (t : T α) : List (Nat → Option α) :=
 T.rec (motive := fun _ => List (Nat → Option α)) [] (fun _ _ _ l r => l ++ r) (fun f => [f]) t
def zeU (g : Nat → Nat → Option (Nat × Nat)) (v : Option AV) (l r : Option (T AV)) : Option (T AV) := match l with
 | none => none
 | some l => match r with
  | none => none
  | some r => match v with
   | none => some (.node l none r)
   | some v => match zei g 99 v with
    | none => none
    | some v => some (.node l (some v) r)
def zmR (g : Nat → Nat → Option (Nat × Nat)) (t : T AV) : Option (T AV) :=
 T.rec (motive := fun _ => Option (T AV)) (some .leaf) (fun _ v _ l r => zeU g v l r) (fun f => some (.fn f)) t
def zhE (g : Nat → Nat → Option (Nat × Nat)) (t : T AV) : List Nat → T AV → Option (T AV)
 | [], acc => some acc
 | u :: r, acc => match t.get u with
  | none => none
  | some v => match zei g 99 v with
   | none => none
   | some v => (acc.set (some v) u).seq fun acc => zhE g t r acc
def zf4 (g : Nat → Nat → Option (Nat × Nat)) : ATgt → Option ATgt
 | .fn f c => match zh4 g 99 c with
  | none => none
  | some c => some (.fn f c)
 | .nil => some .nil
 | .collected i => match idG g i with
  | none => none
  | some j => some (.collected j)
def zgk (g : Nat → Nat → Option (Nat × Nat)) (d : ADef) : Option ADef := match zf4 g d.tgt with
 | none => none
 | some t => match zh4 g 99 d.args with
  | none => none
  | some a => some ⟨t, a⟩
def ziq {α β : Type} (f : α → Option β) : List α → Option (List β)
 | [] => some []
 | a :: r => match f a with
  | none => none
  | some b => match ziq f r with
   | none => none
   | some r => some (b :: r)
def zi8 (g : Nat → Nat → Option (Nat × Nat)) (e : AEntry) : Option AEntry := match zei g 99 e.key with
 | none => none
 | some k => match zei g 99 e.val with
  | none => none
  | some v => some ⟨k, v, e.born⟩
def zej (g : Nat → Nat → Option (Nat × Nat)) (t : Option Nat) : AObj → Option AObj
 | .cells c n el lo hi nv fz sg ex => match zmR g c with
  | none => none
  | some c => match t with
   | none => some (.cells c n el lo hi nv fz sg ex)
   | some h => bif Nat.beq h hi && Nat.ble lo hi then some (.cells c n el 0 0 1 fz sg .leaf) else none
 | o => match t with
  | some _ => none
  | none => match o with
   | .map es clock => match ziq (zi8 g) es with
    | none => none
    | some es => some (.map es clock)
   | .iter s p => some (.iter s p)
   | .ro c lo n => some (.ro c lo n)
   | .dfrd none => some (.dfrd none)
   | .dfrd (some ds) => match ziq (zgk g) ds with
    | none => none
    | some ds => some (.dfrd (some ds))
   | .loop ⟨st, pe, fn, n, tmps, ps, asg, body, df⟩ => match zmR g tmps with
    | none => none
    | some tmps => match idG g df with
     | none => none
     | some df => some (.loop ⟨st, pe, fn, n, tmps, ps, asg, body, df⟩)
   | _ => none
def zmX : AObj → List (Nat → Option AV)
 | .cells c .. => zkS c
 | .loop l => zkS l.tmps
 | _ => []
def vM (tb : Tab) (objs : T AObj) : Tab → Nat → T AObj → Option (T AObj)
 | [], _, acc => some acc
 | (j, t) :: r, i, acc => match objs.get j with
  | none => none
  | some o => match zej tb.ver t o with
   | none => none
   | some o => (acc.set (some o) i).seq fun acc => vM tb objs r (i + 1) acc
def zlA (objs : T AObj) : Tab → List (Nat → Option AV)
 | [] => []
 | (j, _) :: r => match objs.get j with
  | none => []
  | some o => zmX o ++ zlA objs r
def jh (tb : Tab) (h : AHeap) : Option AHeap := match h with
 | ⟨objs, next, glob⟩ => bif tb.all (fun p => Nat.blt p.1 next) then match vM tb objs tb 0 .leaf with
  | none => none
  | some objs => some ⟨objs, tb.length, glob⟩ else none
def kM (g : Nat → Nat → Option (Nat × Nat)) : AItem → Option AItem
 | .inRange i => match idG g i with
  | none => none
  | some j => some (.inRange j)
 | .endRange i => match idG g i with
  | none => none
  | some j => some (.endRange j)
 | .drw .. => none
 | it => some it
def zcB (g : Nat → Nat → Option (Nat × Nat)) : AMode → Option AMode
 | .run => some .run
 | .returning => some .returning
 | .panicking c => match ziq (fun (p : AV × Bool) => match zei g 99 p.1 with
  | none => none
  | some v => some (v, p.2)) c with
  | none => none
  | some c => some (.panicking c)
def zcg (g : Nat → Nat → Option (Nat × Nat)) : Option Nat → Option (Option Nat)
 | none => some none
 | some l => match idG g l with
  | none => none
  | some j => some (some j)
def zmF (g : Nat → Nat → Option (Nat × Nat)) (us : List Nat) (fr : AFrame) : Option AFrame := match fr with
 | ⟨fn, n, t, todo, ds, mode, kind, round⟩ => match zhE g t us .leaf with
  | none => none
  | some t => match ziq (kM g) todo with
   | none => none
   | some todo => match ziq (zgk g) ds with
    | none => none
    | some ds => match zcB g mode with
     | none => none
     | some mode => match zcg g round with
      | none => none
      | some round => some ⟨fn, n, t, todo, ds, mode, kind, round⟩
def zhY (g : Nat → Nat → Option (Nat × Nat)) : List (List Nat) → List AFrame → Option (List AFrame)
 | us :: r, f :: fs => match zmF g us f with
  | none => none
  | some f => match zhY g r fs with
   | none => none
   | some fs => some (f :: fs)
 | [], [] => some []
 | _, _ => none
def jp (keep : Nat) (objs : T AObj) : List Nat → Nat → Tab
 | [], _ => []
 | j :: r, i => (j, bif Nat.blt i keep then none else match objs.get j with
  | some (.cells _ _ _ lo hi ..) => bif Nat.beq lo hi then some hi else none
  | _ => none) :: jp keep objs r (i + 1)
def ji : List Nat → Bool
 | [] => true
 | i :: r => !(r.any fun j => Nat.beq i j) && ji r
def zgn : List Nat → Nat → Nat → Bool
 | _, 0, _ => true
 | [], _ + 1, _ => false
 | j :: r, k + 1, i => Nat.beq j i && zgn r k (i + 1)
def zmQ (keep : Nat) (ids : List Nat) (us : List Nat) (uss : List (List Nat)) (m : AM) : Option AM := match m with
 | ⟨top, rest, heap⟩ => bif ji ids && zgn ids keep 0 then
  match jh (jp keep heap.objs ids 0) heap with
  | none => none
  | some h => match zmF (jp keep heap.objs ids 0).ver us top with
   | none => none
   | some top => match zhY (jp keep heap.objs ids 0).ver uss rest with
    | none => none
    | some rest => some ⟨top, rest, h⟩
  else none
def vX : List (Nat → Option AV) → Prop → Prop
 | [], K => K
 | f :: r, K => zb f ∧ vX r K
def CanP (keep : Nat) (ids us : List Nat) (uss : List (List Nat)) (m : AM) (K : AM → Prop) : Prop := match zmQ keep ids us uss m with
 | none => False
 | some m' => vX (zlA m.heap.objs (jp keep m.heap.objs ids 0)) (K m')
end
section
variable {P : Program} {tb : Tab} {R : Bij}
theorem wY {j : Nat} : ∀ {l : Tab} {i i' : Nat} {t : Option Nat}, ze8 j l i = some (i', t) → i ≤ i' ∧ l[i' - i]? = some (j, t)
 | [], _, _, _, e => by cases e
 | (k, t0) :: r, i, i', t, e => by
  unfold ze8 at e
  cases hb : Nat.beq k j with
  | true =>
   rw [hb] at e; cases e
   rw [Nat.eq_of_beq_eq_true hb]
   exact ⟨Nat.le_refl _, by simp⟩
  | false =>
   rw [hb] at e
   obtain ⟨h1, h2⟩ := wY (l := r) e
   refine ⟨by omega, ?_⟩
   rw [show i' - i = (i' - (i + 1)) + 1 by omega, List.getElem?_cons_succ]
   exact h2
theorem Tab.ver_some {j s i r : Nat} (e : tb.ver j s = some (i, r)) : ∀ L, R j s = some L → tb.re R i r = some L := by
 intro L hL
 unfold Tab.ver at e
 split at e
 · cases e
 · rename_i i' hf
   cases e
   have := (wY hf).2
   simp only [Nat.sub_zero] at this
   simp only [Tab.re, this]
   exact hL
 · rename_i i' t hf
   have := (wY hf).2
   simp only [Nat.sub_zero] at this
   cases hb : Nat.beq t s with
   | false => rw [hb] at e; cases e
   | true =>
    rw [hb] at e; cases e
    have := Nat.eq_of_beq_eq_true hb
    simp only [Tab.re, *, if_true]
mutual
theorem wX {R' : Bij} : ∀ (n : Nat) (v : AV) (x : Value), va n v = true → zl R v x → zl R' v x
 | 0, _, _, e, _ => by simp [va] at e
 | n + 1, v, x, e, k => by
  cases v <;> simp only [va, Bool.and_eq_true, Bool.false_eq_true] at e
  case fn f a b =>
   obtain ⟨h0, p, q, h1, h2, h3⟩ := k
   exact ⟨h0, p, q, h1, qz n _ _ e.1 h2, qz n _ _ e.2 h3⟩
  case ifc t y =>
   obtain ⟨z, h1, h2⟩ := k
   exact ⟨z, h1, wX n _ _ e h2⟩
  case agg l =>
   obtain ⟨z, h1, h2⟩ := k
   exact ⟨z, h1, qz n _ _ e h2⟩
  case tup l =>
   obtain ⟨z, h1, h2⟩ := k
   exact ⟨z, h1, qz n _ _ e h2⟩
  all_goals exact k
theorem qz {R' : Bij} : ∀ (n : Nat) (l : List AV) (x : List Value), za0 n l = true → zm R l x → zm R' l x
 | 0, _, _, e, _ => by simp [za0] at e
 | n + 1, l, x, e, k => by
  cases l with
  | nil => exact k
  | cons v r =>
   simp only [za0, Bool.and_eq_true] at e
   obtain ⟨y, ys, h1, h2, h3⟩ := k
   exact ⟨y, ys, h1, wX n _ _ e.1 h2, qz n _ _ e.2 h3⟩
end
def zjY (g : Nat → Nat → Option (Nat × Nat)) (R R' : Bij) : Prop := ∀ j s i r, g j s = some (i, r) → ∀ L, R j s = some L → R' i r = some L
theorem Tab.ok (tb : Tab) (R : Bij) : zjY tb.ver R (tb.re R) := fun _ _ _ _ e => Tab.ver_some e
end
section
variable {P : Program} {g : Nat → Nat → Option (Nat × Nat)} {R R' : Bij} (hg : zjY g R R')
include hg
theorem zjY.id {j i : Nat} (e : idG g j = some i) : ∀ L, R j 0 = some L → R' i 0 = some L := by
 unfold idG at e
 split at e
 · cases e
 · rename_i i' r hv
   cases hb : Nat.beq r 0 with
   | false => rw [hb] at e; cases e
   | true =>
    rw [hb] at e; cases e
    have := Nat.eq_of_beq_eq_true hb
    subst this
    exact hg _ _ _ _ hv
mutual
theorem qe : ∀ (n : Nat) (v v' : AV) (x : Value), zei g n v = some v' → zl R v x → zl R' v' x
 | 0, _, _, _, e, _ => by simp [zei] at e
 | n + 1, v, v', x, e, k => by
  cases v <;> simp only [zei] at e
  case ptr i r o =>
   split at e
   · cases e
   · rename_i j s hv; cases e
     obtain ⟨L, h1, h2⟩ := k
     exact ⟨L, hg _ _ _ _ hv L h1, h2⟩
  case slc i r o l c =>
   split at e
   · cases e
   · rename_i j s hv; cases e
     obtain ⟨L, h1, h2⟩ := k
     exact ⟨L, hg _ _ _ _ hv L h1, h2⟩
  case slg i r o l c =>
   split at e
   · cases e
   · rename_i j s hv; cases e
     obtain ⟨L, a, h1, h2⟩ := k
     exact ⟨L, a, hg _ _ _ _ hv L h1, h2⟩
  case mp i =>
   split at e
   · cases e
   · rename_i j hv; cases e
     obtain ⟨L, h1, h2⟩ := k
     exact ⟨L, hg.id hv L h1, h2⟩
  case yld i =>
   split at e
   · cases e
   · rename_i j hv; cases e
     obtain ⟨L, h1, h2⟩ := k
     exact ⟨L, hg.id hv L h1, h2⟩
  case fn f a b =>
   split at e
   · rename_i a' b' ha hb
     cases e
     obtain ⟨h0, p, q, h1, h2, h3⟩ := k
     exact ⟨h0, p, q, h1, qN n _ _ _ ha h2, qN n _ _ _ hb h3⟩
   · cases e
  case ifc t y =>
   split at e
   · cases e
   · rename_i y' hy; cases e
     obtain ⟨z, h1, h2⟩ := k
     exact ⟨z, h1, qe n _ _ _ hy h2⟩
  case agg l =>
   split at e
   · cases e
   · rename_i y' hy; cases e
     obtain ⟨z, h1, h2⟩ := k
     exact ⟨z, h1, qN n _ _ _ hy h2⟩
  case tup l =>
   split at e
   · cases e
   · rename_i y' hy; cases e
     obtain ⟨z, h1, h2⟩ := k
     exact ⟨z, h1, qN n _ _ _ hy h2⟩
  all_goals (cases e; exact k)
theorem qN : ∀ (n : Nat) (l l' : List AV) (x : List Value), zh4 g n l = some l' → zm R l x → zm R' l' x
 | 0, _, _, _, e, _ => by simp [zh4] at e
 | n + 1, l, l', x, e, k => by
  have _ := hg
  cases l with
  | nil => simp only [zh4] at e; cases e; exact k
  | cons v r =>
   simp only [zh4] at e
   split at e
   · cases e
   · rename_i v' hv
     split at e
     · cases e
     · rename_i r' hr
       cases e
       obtain ⟨y, ys, h1, h2, h3⟩ := k
       exact ⟨y, ys, h1, qe n _ _ _ hv h2, qN n _ _ _ hr h3⟩
end
omit hg in
theorem zi2 {α : Type} (l : T α) (v : Option α) (r : T α) : zkS (.node l v r) = zkS l ++ zkS r := rfl
omit hg in
theorem zcL : ∀ {t t' : T AV}, zmR g t = some t' → (∀ f ∈ zkS t, zb f) → ∀ u v', t'.get u = some v' → ∃ v, t.get u = some v ∧ (zei g 99 v = some v' ∨ v' = v ∧ va 99 v = true)
 | .leaf, t', e, _, u, v', gg => by cases e; cases gg
 | .fn f, t', e, hp, u, v', gg => by cases e; exact ⟨v', gg, .inr ⟨rfl, hp f (by simp [zkS]) u v' gg⟩⟩
 | .node l v r, t', e, hp, u, v', gg => by
  change zeU g v (zmR g l) (zmR g r) = some t' at e
  unfold zeU at e
  rw [zi2] at hp
  split at e
  · cases e
  · rename_i l' hl
    split at e
    · cases e
    · rename_i r' hr
      have step : ∀ {w w' : Option AV}, t' = .node l' w' r' → (∀ x, w' = some x → ∃ y, w = some y ∧ zei g 99 y = some x) → v = w → ∃ v, (T.node l w r).get u = some v ∧ (zei g 99 v = some v' ∨ v' = v ∧ va 99 v = true) := by
       intro w w' ht hw _
       subst ht
       rw [T.get_node] at gg ⊢
       split at gg
       · obtain ⟨y, h1, h2⟩ := hw v' gg
         subst h1
         exact ⟨y, by rw [if_pos (by assumption)], .inl h2⟩
       · rename_i h0
         rw [if_neg h0]
         split at gg
         · rename_i h1
           rw [if_pos h1]
           exact zcL hl (fun f hf => hp f (List.mem_append_left _ hf)) _ v' gg
         · rename_i h1
           rw [if_neg h1]
           exact zcL hr (fun f hf => hp f (List.mem_append_right _ hf)) _ v' gg
      split at e
      · cases e
        exact step rfl (fun x hx => by cases hx) rfl
      · rename_i y
        split at e
        · cases e
        · rename_i y' hy
          cases e
          exact step rfl (fun x hx => by cases hx; exact ⟨y, rfl, hy⟩) rfl
theorem zga {t t' : T AV} (e : zmR g t = some t') (hp : ∀ f ∈ zkS t, zb f) {u : Nat} {v' : AV} (g : t'.get u = some v') : ∃ v, t.get u = some v ∧ ∀ x, zl R v x → zl R' v' x := by
 obtain ⟨v, h1, h2⟩ := zcL e hp u v' g
 refine ⟨v, h1, fun x k => ?_⟩
 rcases h2 with h2 | ⟨rfl, h2⟩
 · exact qe hg 99 _ _ _ h2 k
 · exact wX 99 _ _ h2 k
omit hg in
theorem zdF {t : T AV} : ∀ {us : List Nat} {acc t' : T AV}, zhE g t us acc = some t' → (∀ u v', acc.get u = some v' → ∃ v, t.get u = some v ∧ zei g 99 v = some v') → ∀ u v', t'.get u = some v' → ∃ v, t.get u = some v ∧ zei g 99 v = some v'
 | [], acc, t', e, h => by cases e; exact h
 | u0 :: r, acc, t', e, h => by
  unfold zhE at e
  split at e
  · cases e
  · rename_i v0 h0
    split at e
    · cases e
    · rename_i v1 h1
      rw [T.seq_eq] at e
      refine zdF e fun u v' g => ?_
      rw [T.get_set] at g
      split at g
      · rename_i hu
        cases g
        rw [hu]
        exact ⟨v0, h0, h1⟩
      · exact h u v' g
omit hg in
theorem wP {α β γ : Type} {f : α → Option β} {r : α → γ → Prop} {r' : β → γ → Prop} (h : ∀ a b c, f a = some b → r a c → r' b c) : ∀ {l : List α} {l' : List β} {m : List γ}, ziq f l = some l' → xU r l m → xU r' l' m
 | [], _, _, e, k => by cases e; exact k
 | a :: l, l', m, e, k => by
  unfold ziq at e
  split at e
  · cases e
  · rename_i b hb
    split at e
    · cases e
    · rename_i r0 hr0
      cases e
      obtain ⟨c, cs, h1, h2, h3⟩ := k
      exact ⟨c, cs, h1, h _ _ _ hb h2, wP h hr0 h3⟩
theorem zgA {t t' : ATgt} {x : Target} (e : zf4 g t = some t') (k : zbm R t x) : zbm R' t' x := by
 cases t with
 | fn f c =>
  simp only [zf4] at e
  split at e
  · cases e
  · rename_i c' hc
    cases e
    obtain ⟨h0, l, h1, h2⟩ := k
    exact ⟨h0, l, h1, qN hg 99 _ _ _ hc h2⟩
 | nil => cases e; exact k
 | collected i =>
  simp only [zf4] at e
  split at e
  · cases e
  · rename_i j hj
    cases e
    obtain ⟨L, h1, h2⟩ := k
    exact ⟨L, hg.id hj L h1, h2⟩
theorem zbs {d d' : ADef} {x : Deferred} (e : zgk g d = some d') (k : yL R d x) : yL R' d' x := by
 unfold zgk at e
 split at e
 · cases e
 · rename_i t ht
   split at e
   · cases e
   · rename_i a ha
     cases e
     exact ⟨zgA hg ht k.1, qN hg 99 _ _ _ ha k.2⟩
theorem zgp {d d' : AEntry} {x : MapEntry} (e : zi8 g d = some d') (k : zjy R d x) : zjy R' d' x := by
 unfold zi8 at e
 split at e
 · cases e
 · rename_i t ht
   split at e
   · cases e
   · rename_i a ha
     cases e
     exact ⟨qe hg 99 _ _ _ ht k.1, qe hg 99 _ _ _ ha k.2.1, k.2.2⟩
theorem zex {d d' : AItem} {x : Item} (e : kM g d = some d') (k : zP R d x) : zP R' d' x := by
 cases d <;> simp only [kM] at e
 case inRange i =>
  split at e
  · cases e
  · rename_i j hj
    cases e
    obtain ⟨L, h1, h2⟩ := k
    exact ⟨L, hg.id hj L h1, h2⟩
 case endRange i =>
  split at e
  · cases e
  · rename_i j hj
    cases e
    obtain ⟨L, h1, h2⟩ := k
    exact ⟨L, hg.id hj L h1, h2⟩
 case drw => cases e
 all_goals (cases e; exact k)
theorem zeI {d d' : AMode} {x : FrameMode} (e : zcB g d = some d') (k : jd R d x) : jd R' d' x := by
 cases d <;> simp only [zcB] at e
 case panicking c =>
  split at e
  · cases e
  · rename_i c' hc
    cases e
    obtain ⟨l, h1, h2⟩ := k
    refine ⟨l, h1, wP (fun a b z hab hz => ?_) hc h2⟩
    split at hab
    · cases hab
    · rename_i v hv
      cases hab
      exact ⟨qe hg 99 _ _ _ hv hz.1, hz.2⟩
 all_goals (cases e; exact k)
theorem zdv {d d' : Option Nat} {x : Option Nat} (e : zcg g d = some d') (k : wO R d x) : wO R' d' x := by
 cases d <;> simp only [zcg] at e
 · cases e; exact k
 · split at e
   · cases e
   · rename_i j hj
     cases e
     obtain ⟨L, h1, h2⟩ := k
     exact ⟨L, hg.id hj L h1, h2⟩
theorem vt {t t' : T AV} {us : List Nat} {a : Array Value} (e : zhE g t us .leaf = some t') (k : z8 R t a) : z8 R' t' a := fun u v' g => by
 obtain ⟨v, h1, h2⟩ := zdF e (fun u v' g => by cases g) u v' g
 obtain ⟨x, h3, h4⟩ := k u v h1
 exact ⟨x, h3, qe hg 99 _ _ _ h2 h4⟩
omit hg in
theorem kR : ∀ {l l' : List AItem}, ziq (kM g) l = some l' → ∀ it ∈ l, ∀ a b c, it ≠ .drw a b c
 | [], _, _, _, h => absurd h List.not_mem_nil
 | a :: l, l', e, it, hm => by
  unfold ziq at e
  split at e
  · cases e
  · rename_i b hb
    split at e
    · cases e
    · rename_i r0 hr0
      rcases List.mem_cons.1 hm with h | h
      · subst h
        intro a b c h
        subst h; cases hb
      · exact kR hr0 it h
omit hg in
theorem zbP {d d' : AItem} (e : kM g d = some d') : ∀ a b c, d' ≠ .drw a b c := by
 intro a b c h
 subst h
 cases d <;> simp only [kM] at e
 case inRange i => split at e <;> cases e
 case endRange i => split at e <;> cases e
 all_goals cases e
theorem jR {B B' : Base} {d d' : Nat} {sus sus' : Bool} {h h' : AHeap} {af af' : AFrame} {fr : Frame} {us : List Nat} (e : zmF g us af = some af') (k : FrameRel P B R d sus h af fr) : FrameRel P B' R' d' sus' h' af' fr := by
 obtain ⟨fn, n, t, todo, ds, mode, kind, round⟩ := af
 simp only [zmF] at e
 split at e
 · cases e
 rename_i t' ht
 split at e
 · cases e
 rename_i todo' htodo
 split at e
 · cases e
 rename_i ds' hds
 split at e
 · cases e
 rename_i mode' hmode
 split at e
 · cases e
 rename_i round' hround
 cases e
 obtain ⟨k1, k2, k3, k4, k5, k6, k7, k8, k9⟩ := k
 refine ⟨k1, k2, k3, k4, zdv hg hround k5, wP (r := yL R) (r' := yL R') (fun _ _ _ => zbs hg) hds k6, zeI hg hmode k7, k8, ?_⟩
 have htr : ∀ {a : Array Value} {ct : List Item}, zQ P B R d sus h todo t ct a → zQ P B' R' d' sus' h' todo' t' ct a := by
  intro a ct q
  have q' : xU (zP R) todo ct ∧ z8 R t a := by
   cases todo with
   | nil => exact q
   | cons it kk =>
    cases it with
    | drw a b c => exact absurd rfl (kR htodo _ List.mem_cons_self a b c)
    | _ => exact q
  have g : xU (zP R') todo' ct ∧ z8 R' t' a := ⟨wP (r := zP R) (r' := zP R') (fun _ _ _ => zex hg) htodo q'.1, vt hg ht q'.2⟩
  cases todo' with
  | nil => exact g
  | cons it kk =>
   cases it with
   | drw a b c =>
    exfalso
    cases todo with
    | nil => cases htodo
    | cons i0 k0 =>
     unfold ziq at htodo
     split at htodo
     · cases htodo
     · rename_i b0 hb0
       split at htodo
       · cases htodo
       · cases htodo
         exact zbP hb0 a b c rfl
   | _ => exact g
 cases mode with
 | run => cases hmode; exact htr k9
 | returning => cases hmode; exact vt hg ht k9
 | panicking c =>
  simp only [zcB] at hmode
  split at hmode
  · cases hmode
  · cases hmode; exact vt hg ht k9
theorem zdW {B B' : Base} {h h' : AHeap} : ∀ {uss : List (List Nat)} {as as' : List AFrame} {fs : List Frame}, zhY g uss as = some as' → zy P B R h as fs → zy P B' R' h' as' fs ∧ as'.length = as.length
 | [], [], _, _, e, k => by cases e; exact ⟨k, rfl⟩
 | [], _ :: _, _, _, e, _ => by cases e
 | _ :: _, [], _, _, e, _ => by cases e
 | us :: uss, a :: as, as', fs, e, ⟨f, r, e1, k1, k2⟩ => by
  simp only [zhY] at e
  split at e
  · cases e
  · rename_i a' ha
    split at e
    · cases e
    · rename_i r' hr
      cases e
      obtain ⟨g1, g2⟩ := zdW (B' := B') (h' := h') hr k2
      exact ⟨⟨f, r, e1, by rw [g2]; exact jR hg ha k1, g1⟩, by simp [g2]⟩
theorem zcQ {w : World} {i j : Nat} {t : Option Nat} {o o' : AObj} (hre : t = none → ∀ r, R' i r = R j r) (hve : ∀ t0, t = some t0 → ∀ r, R' i r = if r = 0 then R j t0 else none) (e : zej g t o = some o') (hp : ∀ f ∈ zmX o, zb f) (k : xd P R w j o) : xd P R' w i o' := by
 cases o with
 | cells c n el lo hi' nv fz sg ex =>
  simp only [zej] at e
  split at e
  · cases e
  · rename_i c' hc
    obtain ⟨a1, a2, a3, a4, a5⟩ := k
    have hv : ∀ {e L}, wq P R w c el fz sg e L → wq P R' w c' el fz sg e L := by
     intro e L ⟨cs, a, b, h1, h2, h3, h4, h5⟩
     refine ⟨cs, a, b, h1, h2, h3, h4, fun q v g1 g2 g3 => ?_⟩
     obtain ⟨v0, q1, q2⟩ := zga hg hc hp g3
     obtain ⟨x, q3, q4⟩ := h5 q v0 g1 g2 q1
     exact ⟨x, q3, q2 x q4⟩
    split at e
    · cases e
      refine ⟨a1, a2, fun r hr => by rw [hre rfl]; exact a3 r hr, fun r e b1 b2 b3 => ?_, a5⟩
      obtain ⟨L, h1, h2⟩ := a4 r e b1 b2 b3
      exact ⟨L, by rw [hre rfl]; exact h1, hv h2⟩
    · rename_i t0
      cases hb : (Nat.beq t0 hi' && Nat.ble lo hi') with
      | false => rw [hb] at e; cases e
      | true =>
       rw [hb] at e; cases e
       rw [Bool.and_eq_true] at hb
       have ht := Nat.eq_of_beq_eq_true hb.1
       subst ht
       refine ⟨Nat.le_refl _, by omega, fun r hr => ?_, fun r e b1 b2 b3 => ?_, fun r e b1 b2 b3 => ?_⟩
       · rw [hve _ rfl, if_neg (by omega)]
       · obtain rfl : r = 0 := by omega
         simp only [zJ, if_true, Option.some.injEq] at b3
         subst b3
         obtain ⟨L, h1, h2⟩ := a4 t0 n a1 (Nat.le_refl _) (by simp [zJ])
         exact ⟨L, by rw [hve _ rfl, if_pos rfl]; exact h1, hv h2⟩
       · obtain rfl : r = 0 := by omega
         simp only [zJ, if_true, Option.some.injEq] at b3
         omega
 | map es clock =>
  simp only [zej] at e
  split at e
  · cases e
  · split at e
    · cases e
    · rename_i es' hes
      cases e
      obtain ⟨L, es0, h1, h2, h3⟩ := k
      exact ⟨L, es0, by rw [hre rfl]; exact h1, h2, wP (r := zjy R) (r' := zjy R') (fun _ _ _ => zgp hg) hes h3⟩
 | iter s p =>
  simp only [zej] at e
  split at e
  · cases e
  · cases e
    obtain ⟨L, h1, h2⟩ := k
    exact ⟨L, by rw [hre rfl]; exact h1, h2⟩
 | ro c lo n =>
  simp only [zej] at e
  split at e
  · cases e
  · cases e
    obtain ⟨L, cs, el, fz, h1, h2, h3, h4, h5⟩ := k
    exact ⟨L, cs, el, fz, by rw [hre rfl]; exact h1, h2, h3, h4, h5⟩
 | dfrd ds =>
  simp only [zej] at e
  split at e
  · cases e
  · obtain ⟨L, ds', h1, h2, h3⟩ := k
    cases ds with
    | none => cases e; exact ⟨L, ds', by rw [hre rfl]; exact h1, h2, h3⟩
    | some ds =>
     simp only at e
     split at e
     · cases e
     · rename_i ds0 hds
       cases e
       obtain ⟨l, h4, h5⟩ := h3
       exact ⟨L, ds', by rw [hre rfl]; exact h1, h2, l, h4, wP (r := yL R) (r' := yL R') (fun _ _ _ => zbs hg) hds h5⟩
 | loop lp =>
  obtain ⟨st, pe, fn, n, tmps, ps, asg, body, df⟩ := lp
  simp only [zej] at e
  split at e
  · cases e
  · split at e
    · cases e
    · rename_i tmps' ht
      split at e
      · cases e
      · rename_i df' hdf
        cases e
        obtain ⟨L, lp', h1, h2, h3⟩ := k
        refine ⟨L, lp', by rw [hre rfl]; exact h1, h2, h3.state, h3.pending, h3.fn, ⟨h3.tmps.1, fun u v' g => ?_⟩, h3.params, h3.assign, h3.body, ?_⟩
        · obtain ⟨v, q1, q2⟩ := zga hg ht hp g
          obtain ⟨x, q3, q4⟩ := h3.tmps.2 u v q1
          exact ⟨x, q3, q2 x q4⟩
        · obtain ⟨M, q1, q2⟩ := h3.defers
          exact ⟨M, hg.id hdf M q1, q2⟩
end
section
variable {P : Program} {tb : Tab} {R : Bij}
theorem vG {objs : T AObj} {n : Nat} : ∀ {l : Tab} {i : Nat} {acc objs' : T AObj}, vM tb objs l i acc = some objs' → (∀ q o', acc.get q = some o' → ∃ j t o, tb[q]? = some (j, t) ∧ objs.get j = some o ∧ zej tb.ver t o = some o') →
 (∀ q, l[q]? = tb[i + q]?) → ∀ q o', objs'.get q = some o' → ∃ j t o, tb[q]? = some (j, t) ∧ objs.get j = some o ∧ zej tb.ver t o = some o'
 | [], i, acc, objs', e, h, _ => by cases e; exact h
 | (j, t) :: r, i, acc, objs', e, h, hl => by
  unfold vM at e
  split at e
  · cases e
  · rename_i o ho
    split at e
    · cases e
    · rename_i o1 ho1
      rw [T.seq_eq] at e
      refine vG (n := n) e (fun q o' g => ?_) (fun q => ?_)
      · rw [T.get_set] at g
        split at g
        · rename_i hq
          cases g
          subst hq
          exact ⟨j, t, o, by have := hl 0; simpa using this.symm, ho, ho1⟩
        · exact h q o' g
      · have := hl (q + 1)
        rw [List.getElem?_cons_succ] at this
        rw [this]; congr 1; omega
theorem zb0 {objs : T AObj} : ∀ {l : Tab} {i j : Nat} {t : Option Nat} {o : AObj} {f : Nat → Option AV}, (∀ (q j : Nat) (t : Option Nat), l[q]? = some (j, t) → (objs.get j).isSome = true) → l[i]? = some (j, t) → objs.get j = some o → f ∈ zmX o → f ∈ zlA objs l
 | [], _, _, _, _, _, _, e, _, _ => by simp at e
 | (j0, t0) :: r, i, j, t, o, f, hs, e, ho, hf => by
  have h0 := hs 0 j0 t0 (by simp)
  unfold zlA
  cases hj : objs.get j0 with
  | none => rw [hj] at h0; cases h0
  | some o0 =>
   simp only []
   cases i with
   | zero =>
    simp at e
    obtain ⟨rfl, rfl⟩ := e
    rw [hj] at ho; cases ho
    exact List.mem_append_left _ hf
   | succ i =>
    exact List.mem_append_right _ (zb0 (fun q j t h => hs (q + 1) j t (by simpa using h)) (by simpa using e) ho hf)
theorem wy {objs : T AObj} : ∀ {l : Tab} {i : Nat} {acc objs' : T AObj}, vM tb objs l i acc = some objs' → ∀ (q j : Nat) (t : Option Nat), l[q]? = some (j, t) → (objs.get j).isSome = true
 | [], _, _, _, _, _, _, _, h => by simp at h
 | (j0, t0) :: r, i, acc, objs', e, q, j, t, h => by
  unfold vM at e
  split at e
  · cases e
  · rename_i o ho
    split at e
    · cases e
    · rw [T.seq_eq] at e
      cases q with
      | zero => simp at h; obtain ⟨rfl, rfl⟩ := h; rw [ho]; rfl
      | succ q => exact wy e q j t (by simpa using h)
theorem vU {keep : Nat} {objs : T AObj} : ∀ {ids : List Nat} {i q j : Nat} {t : Option Nat}, (jp keep objs ids i)[q]? = some (j, t) → ids[q]? = some j ∧ (i + q < keep → t = none)
 | [], _, _, _, _, h => by simp [jp] at h
 | j0 :: r, i, q, j, t, h => by
  unfold jp at h
  cases q with
  | zero =>
   simp only [List.getElem?_cons_zero, Option.some.injEq, Prod.mk.injEq] at h
   obtain ⟨rfl, h⟩ := h
   refine ⟨by simp, fun hk => ?_⟩
   have : Nat.blt i keep = true := by rw [Nat.blt_eq]; omega
   rw [this] at h
   exact h.symm
  | succ q =>
   rw [List.getElem?_cons_succ] at h
   obtain ⟨g1, g2⟩ := vU h
   exact ⟨by simpa using g1, fun hk => g2 (by omega)⟩
theorem yV : ∀ {ids : List Nat}, ji ids = true → ∀ {p q j : Nat}, ids[p]? = some j → ids[q]? = some j → p = q
 | [], _, _, _, _, h, _ => by simp at h
 | i :: r, hn, p, q, j, hp, hq => by
  simp only [ji, Bool.and_eq_true, Bool.not_eq_true', List.any_eq_false] at hn
  have hno : ∀ k, r[k]? = some i → False := fun k hk => hn.1 i (List.mem_of_getElem? hk) (Nat.beq_refl i)
  cases p with
  | zero =>
   cases q with
   | zero => rfl
   | succ q => simp at hp hq; subst hp; exact absurd (hno q hq) id
  | succ p =>
   cases q with
   | zero => simp at hp hq; subst hq; exact absurd (hno p hp) id
   | succ q => simp at hp hq; rw [yV hn.2 hp hq]
theorem zdt : ∀ {ids : List Nat} {k i : Nat}, zgn ids k i = true → ∀ q, q < k → ids[q]? = some (i + q)
 | _, 0, _, _, q, hq => absurd hq (Nat.not_lt_zero _)
 | [], _ + 1, _, h, _, _ => by cases h
 | j :: r, k + 1, i, h, q, hq => by
  simp only [zgn, Bool.and_eq_true] at h
  cases q with
  | zero => simp; exact Nat.eq_of_beq_eq_true h.1
  | succ q =>
   rw [List.getElem?_cons_succ, zdt h.2 q (by omega)]
   congr 1; omega
theorem jr {keep : Nat} {objs : T AObj} : ∀ {ids : List Nat} {i : Nat}, (jp keep objs ids i).length = ids.length
 | [], _ => rfl
 | _ :: r, i => by simp [jp, jr (ids := r)]
theorem qc {K : Prop} : ∀ {l : List (Nat → Option AV)}, vX l K → (∀ f ∈ l, zb f) ∧ K
 | [], h => ⟨fun _ hf => absurd hf List.not_mem_nil, h⟩
 | f :: r, h => by
  obtain ⟨g1, g2⟩ := qc (l := r) h.2
  exact ⟨fun f' hf => by
   rcases List.mem_cons.1 hf with e | e
   · rw [e]; exact h.1
   · exact g1 f' e, g2⟩
noncomputable def Base.re (B : Base) (tb : Tab) (h : AHeap) : Base := { B with
 pend := fun i => match tb[i]? with
  | none => none
  | some (j, _) => match B.pend j with
   | none => none
   | some _ => h.get i
 ro := fun i => ∃ j t, tb[i]? = some (j, t) ∧ B.ro j }
theorem Sim.can {w0 : Env} {base : List Frame} {keep : Nat} {ids us : List Nat} {uss : List (List Nat)} {m m' : AM} {fr : Frame} {cs : List Frame} {w : World} (hk : ∀ i r L, w0.pin i r = some L → i < keep)
 (e : zmQ keep ids us uss m = some m') (hp : ∀ f ∈ zlA m.heap.objs (jp keep m.heap.objs ids 0), zb f) (k : Sim P w0 base m fr cs w) : Sim P w0 base m' fr cs w := by
 obtain ⟨top, rest, h⟩ := m
 obtain ⟨B, R, fs, hc, hb, kh, ho, kt, kb⟩ := k
 simp only [zmQ] at e
 cases hn : (ji ids && zgn ids keep 0) with
 | false => rw [hn] at e; cases e
 | true =>
  rw [hn] at e
  rw [Bool.and_eq_true] at hn
  simp only [cond_true] at e
  generalize htb : jp keep h.objs ids 0 = tb at e hp
  split at e
  · cases e
  rename_i h' hh
  split at e
  · cases e
  rename_i top' htop
  split at e
  · cases e
  rename_i rest' hrest
  cases e
  obtain ⟨g1, g2⟩ := zdW (tb.ok R) (B' := B.re tb h') (h' := h') hrest kb
  refine ⟨B.re tb h', tb.re R, fs, hc, hb, ?_, ho, ?_, g1⟩
  · obtain ⟨objs, next, glob⟩ := h
    simp only [jh] at hh
    cases hlt : (tb.all fun p => Nat.blt p.1 next) with
    | false => rw [hlt] at hh; cases hh
    | true =>
     rw [hlt] at hh
     simp only [cond_true] at hh
     split at hh
     · cases hh
     rename_i objs' hobjs
     cases hh
     have hget := vG (n := 0) hobjs (fun q o' g => by cases g) (fun q => by rw [Nat.zero_add])
     have hsome := wy hobjs
     have htlt : ∀ {q j : Nat} {t : Option Nat}, tb[q]? = some (j, t) → q < tb.length := fun h => (List.getElem?_eq_some_iff.1 h).1
     have hre : ∀ {i r L}, tb.re R i r = some L → ∃ j t s, tb[i]? = some (j, t) ∧ R j s = some L ∧ (t = none → s = r) ∧ (∀ t0, t = some t0 → s = t0 ∧ r = 0) := by
      intro i r L e
      unfold Tab.re at e
      split at e
      · cases e
      · rename_i j hi; exact ⟨j, none, r, hi, e, (fun _ => rfl), (fun _ h => by cases h)⟩
      · rename_i j t0 hi
        split at e
        · rename_i hr; exact ⟨j, some t0, t0, hi, e, (fun h => by cases h), (fun _ h => by cases h; exact ⟨rfl, hr⟩)⟩
        · cases e
     have hinj : ∀ {p q j : Nat} {t t' : Option Nat}, tb[p]? = some (j, t) → tb[q]? = some (j, t') → p = q := by
      intro p q j t t' h1 h2
      rw [← htb] at h1 h2
      exact yV hn.1 (vU h1).1 (vU h2).1
     refine ⟨fun i hi r => ?_, fun i o' eo hpe => ?_, fun i o' e => ?_, fun i r L e => ?_, fun i hi => ?_, fun i hi => ?_, fun i r L hi e => ?_, kh.low, fun i r L e => ?_, fun i r i' r' L L' e e' hbl hor => ?_, fun i r r' L L' e e' hbl => ?_, fun g c e => ?_⟩
     · have : tb[i]? = none := List.getElem?_eq_none hi
       simp only [Tab.re, this]
     · obtain ⟨j, t, o, q1, q2, q3⟩ := hget i o' eo
       have hpend : B.pend j = none := by
        simp only [Base.re, q1] at hpe
        cases hb : B.pend j with
        | none => rfl
        | some o0 => rw [hb] at hpe; simp only at hpe; rw [hpe] at eo; cases eo
       exact zcQ (tb.ok R) (fun ht r => by subst ht; simp only [Tab.re, q1]) (fun t0 ht r => by subst ht; simp only [Tab.re, q1]) q3 (fun f hf => hp f (zb0 hsome q1 q2 hf)) (kh.obj j o q2 hpend)
     · simp only [Base.re] at e
       split at e
       · cases e
       · rename_i j t hj
         split at e
         · cases e
         · rename_i o0 hb0
           refine ⟨htlt hj, e, fun r => ?_⟩
           have hno := (kh.pend j o0 hb0).2.2
           cases hr : tb.re R i r with
           | none => rfl
           | some L =>
            obtain ⟨j', t', s, q1, q2, _, _⟩ := hre hr
            rw [hj] at q1; cases q1
            rw [hno s] at q2; cases q2
     · obtain ⟨j, t, s, q1, q2, q3, q4⟩ := hre e
       exact ⟨(kh.place j s L q2).1.elim .inl fun hr => .inr ⟨j, t, q1, hr⟩, (kh.place j s L q2).2⟩
     · obtain ⟨j, t, q1, q2⟩ := hi
       refine ⟨htlt q1, fun o' eo => ?_⟩
       obtain ⟨j', t', o, p1, p2, p3⟩ := hget i o' eo
       rw [q1] at p1; cases p1
       have := (kh.rd j q2).2 o p2
       cases o with
       | ro c lo n =>
        cases t with
        | none => simp only [zej] at p3; cases p3; rfl
        | some t0 => simp only [zej] at p3; cases p3
       | _ => cases this
     · obtain ⟨j, t, q1, q2⟩ := hi
       simp only [Base.re, q1, kh.rp j q2]
     · obtain ⟨j, t, s, q1, q2, q3, q4⟩ := hre e
       obtain ⟨j', t', p1, p2⟩ := hi
       rw [q1] at p1; cases p1
       exact kh.rol j s L p2 q2
     · have hik := hk i r L (by have e' : B.env.pin i r = some L := e; rw [hb] at e'; exact e')
       have hst := zdt hn.2 i hik
       have hlen : i < tb.length := by
        rw [← htb, jr]; exact (List.getElem?_eq_some_iff.1 hst).1
       obtain ⟨⟨j, t⟩, hjt⟩ : ∃ p, tb[i]? = some p := ⟨_, List.getElem?_eq_getElem hlen⟩
       have := hjt
       rw [← htb] at this
       obtain ⟨a1, a2⟩ := vU this
       rw [a1] at hst
       simp only [Nat.zero_add, Option.some.injEq] at hst a2
       have ht := a2 hik
       subst hst ht
       simp only [Tab.re, hjt]
       exact kh.pin _ r L e
     · obtain ⟨j, t, s, q1, q2, _, _⟩ := hre e
       obtain ⟨j', t', s', q1', q2', _, _⟩ := hre e'
       have := kh.apart j s j' s' L L' q2 q2' hbl (hor.imp (fun hn hr => hn ⟨j, t, q1, hr⟩) (fun hn hr => hn ⟨j', t', q1', hr⟩))
       subst this
       exact hinj q1 q1'
     · obtain ⟨j, t, s, q1, q2, _, _⟩ := hre e
       obtain ⟨j', t', s', q1', q2', _, _⟩ := hre e'
       rw [q1] at q1'; cases q1'
       exact kh.same j s s' L L' q2 q2' hbl
     · exact kh.glob g c e
  · show FrameRel P _ _ rest'.length false _ top' fr
    rw [g2]
    exact jR (tb.ok R) htop kt
end
end Go.Proofs.YtdbfpjgnlfejmaaDoor.Ev
end
section
namespace Go.Proofs.YtdbfpjgnlfejmaaDoor.Ev
open Go
def zg (P : Program) (keep : Nat) (f0 : FuncId) (Q : AV → AHeap → Prop) (m : AM) : Prop :=
 ∀ (w0 : Env) (base : List Frame) (fr : Frame) (cs : List Frame) (w : World), (∀ i r L, w0.pin i r = some L → i < keep) → Sim P w0 base m fr cs w →
  ∃ (fr' : Frame) (w' : World) (B : Base) (R : Bij) (v : AV) (v' : Value) (h' : AHeap), Steps P (lone fr cs w) (lone fr' base w') ∧ fr'.leaving P w' (.returned v') ∧ fr'.fn = f0 ∧
   zl R v v' ∧ B.env = w0 ∧ HRel P B R h' w' ∧ Old0 w0.toWorld w' ∧ Q v h'
noncomputable section
variable (P : Program)
mutual
def okD : Nat → AV → Bool
 | 0, _ => false
 | n + 1, v => match v with
  | .fn _ a b => zmq n a && zmq n b
  | .ifc _ v => okD n v
  | .agg l | .tup l => zmq n l
  | _ => true
def zmq : Nat → List AV → Bool
 | 0, _ => false
 | n + 1, l => match l with
  | [] => true
  | v :: r => okD n v && zmq n r
end
def zmi (b : Bool) (K : Prop) : Prop := match b with
 | true => K
 | false => False
def atP (p : AV) (size : Nat) (i : Int) (len : Nat) : Option (AV × Prop) := match p with
 | .ptr id ver off => some (.ptr id ver (off + i.toNat * size), 0 ≤ i ∧ i < len)
 | .gp g off => some (.gp g (off + i.toNat * size), 0 ≤ i ∧ i < len)
 | _ => none
def zmA (size : Nat) (x : AV) (i : Int) : Option (AV × Prop) := match x with
 | .slc id ver off len _ => atP (.ptr id ver off) size i len
 | .slg id ver off len _ => atP (.ptr id ver off) size i len
 | _ => none
def kQ (t : TypeId) (x ix : AV) : Option (AV × Prop) := match ix with
 | .int _ i => match P.underlying t with
  | some (.array len el) => match yt P el with
   | none => none
   | some s => atP x s i len
  | some (.slice el) => match yt P el with
   | none => none
   | some s => zmA s x i
  | _ => none
 | _ => none
def zlc (t : TypeId) : Bool := match zlm P t with
 | some b => !b
 | none => false
def zi0 (t : TypeId) (x ix : AV) : Option (AV × Prop) := match ix with
 | .int _ i => match P.underlying t with
  | some .string => match x with
   | .str s => some (.int .u8 (s.getD i.toNat 0).toNat, 0 ≤ i ∧ i < s.length)
   | _ => none
  | some (.array len el) => match x with
   | .agg cs => match zlc P el with
    | false => none
    | true => match yt P el with
     | none => none
     | some s => some (cs.getD (i.toNat * s) vi, (0 ≤ i ∧ i < len) ∧ i.toNat * s < cs.length)
   | _ => none
  | _ => none
 | _ => none
def yp (len cap : Nat) (lo hi mx : Option Int) : Nat × Nat × Nat × Prop :=
 let m : Nat := match mx with
  | none => cap
  | some v => v.toNat
 let mp : Prop := match mx with
  | none => True
  | some v => 0 ≤ v ∧ v ≤ (cap : Int)
 let h : Nat := match hi with
  | none => len
  | some v => v.toNat
 let hp : Prop := match hi with
  | none => match mx with
   | none => mp
   | some _ => False
  | some v => match mx with
   | none => 0 ≤ v ∧ v ≤ (m : Int)
   | some _ => mp ∧ 0 ≤ v ∧ v ≤ (m : Int)
 match lo with
 | none => (0, h, m, hp)
 | some v => (v.toNat, h, m, match hi with
  | none => match mx with
   | none => 0 ≤ v ∧ v ≤ (h : Int)
   | some _ => False
  | some _ => hp ∧ 0 ≤ v ∧ v ≤ (h : Int))
def zhC (t : TypeId) (x : AV) (lo hi mx : Option Int) : Option (AV × Prop) := match P.underlying t with
 | some .string => match x with
  | .str s => match mx with
   | some _ => none
   | none => match yp s.length s.length lo hi none with
    | (l, h, _, p) => some (.str ((s.drop l).take (h - l)), p)
  | _ => none
 | some (.slice el) => match yt P el with
  | none => none
  | some sz => match x with
   | .nils len cap => match yp len cap lo hi mx with
    | (l, h, m, p) => some (.nils (h - l) (m - l), p)
   | .slc id ver off len cap => match yp len cap lo hi mx with
    | (l, h, m, p) => some (.slc id ver (if m = l then off else off + l * sz) (h - l) (m - l), p)
   | .slg id ver off len st => match mx with
    | some _ => match len with
     | 0 => none
     | _ + 1 => match yp len len lo hi mx with
      | (l, h, m, p) => some (.slc id ver (if m = l then off else off + l * sz) (h - l) (m - l), p)
    | none => match yp len len lo hi none with
     | (l, h, _, p) => some (.slg id ver (off + l * sz) (h - l) (st + l), p)
   | _ => none
 | _ => none
def binS (op : BinOp) (x y : AV) : Option (AV × Prop) := match x with
 | .str a => match y with
  | .str b => match op with
   | .add => some (.str (a ++ b), a.length + b.length < 2 ^ 40)
   | _ => none
  | _ => none
 | .int k a => match y with
  | .int k' b => match op with
   | .quo => if k = k' then some (.int k (k.wrap (a.tdiv b)), b ≠ 0) else none
   | .rem => if k = k' then some (.int k (a.tmod b), b ≠ 0) else none
   | .shl => some (.int k (k.wrap (a * 2 ^ (min b.toNat k.bits))), 0 ≤ b)
   | .shr => some (.int k (a.fdiv (2 ^ (min b.toNat k.bits))), 0 ≤ b)
   | _ => none
  | _ => none
 | _ => none
def zge (h : AHeap) (id ver off k : Nat) : Option (List AV × Prop) := match h.get id with
 | some (.ro c lo n) => bif Nat.beq ver 0 then match zM c off k with
  | none => none
  | some l => some (l, lo ≤ off ∧ off + k ≤ n) else none
 | some (.cells c n _ lo hi _ _ _ ex) => match zJ ex n hi ver with
  | none => none
  | some e => bif Nat.ble lo ver && Nat.ble ver hi then match zM c off k with
   | none => none
   | some l => some (l, off + k ≤ e) else none
 | _ => none
def zj3 (h : AHeap) (t : TypeId) (p : AV) : Option (AV × Prop) := match p with
 | .ptr id ver off => match zlm P t with
  | none => none
  | some true => match P.info? t with
   | none => none
   | some i => match zge h id ver off i.size with
    | none => none
    | some (l, p) => some (.agg l, p)
  | some false => match zge h id ver off 1 with
   | some ([v], p) => some (v, p)
   | _ => none
 | _ => none
def zes (h : AHeap) (r : Option (AV × Prop)) : Option (AR × Prop) := match r with
 | none => none
 | some (v, p) => some (.val v h, p)
def zjC (ρ : Operand → Option AV) (x y : Operand) (f : AV → AV → Option (AR × Prop)) : Option (AR × Prop) := match ρ x with
 | none => none
 | some a => match ρ y with
  | none => none
  | some b => f a b
def opS (ρ : Operand → Option AV) (h : AHeap) (o : Op) : Option (AR × Prop) := match o with
 | .indexAddr t x ix => zjC ρ x ix fun a b => zes h (kQ P t a b)
 | .index t x ix => zjC ρ x ix fun a b => zes h (zi0 P t a b)
 | .binOp op _ x y _ => zjC ρ x y fun a b => zes h (binS op a b)
 | .slice t x lo hi mx => match ρ x with
  | none => none
  | some v => match qF ρ lo with
   | none => none
   | some l => match qF ρ hi with
    | none => none
    | some hh => match qF ρ mx with
     | none => none
     | some m => zes h (zhC P t v l hh m)
 | .load t a => match ρ a with
  | none => none
  | some p => zes h (zj3 P h t p)
 | _ => none
def zmY (h : AHeap) (id : Nat) : Bool := match h.get id with
 | some (.ro ..) => true
 | some (.cells (.fn _) ..) => true
 | _ => false
def zho (h : AHeap) (t : TypeId) (p v : AV) (K : Prop) : Prop := match zj3 P h t p with
 | none => False
 | some (x, q) => q ∧ x = v ∧ K
def zl3 (ρ : Operand → Option AV) (h : AHeap) (o : Op) (v : AV) (K : Prop) : Prop := match o with
 | .load t a => match ρ a with
  | some (.ptr id ver off) => match zmY h id with
   | true => zho P h t (.ptr id ver off) v K
   | false => qy P ρ h (.load t a) = some v ∧ K
  | _ => qy P ρ h (.load t a) = some v ∧ K
 | o => qy P ρ h o = some v ∧ K
def zlx (all : List Oper) (t : T AV) (h : AHeap) (o : Oper) (K : Prop) : Prop := match zW all t o.guard with
 | none => False
 | some w => match w with
  | false => K
  | true => match o.dst with
   | none => (qy P (ev t) h o.op).isSome = true ∧ K
   | some d => match t.get d with
    | none => False
    | some v => zl3 P (ev t) h o.op v (zmi (okD 300 v) K)
def zmO (all : List Oper) (anc : Nat) (t : T AV) (h : AHeap) : List Nat → Prop → Prop
 | [], K => K
 | p :: r, K => match all[p]? with
  | none => zmO all anc t h r K
  | some o => match yP P o.op && !(anc.testBit p) with
   | false => zmO all anc t h r K
   | true => zlx P all t h o (zmO all anc t h r K)
def zkV (fr : AFrame) (h : AHeap) (all : Array Oper) (i : Nat) (o : Oper) (l dn : List Nat) (k : List AItem) (t : Option (T AV)) (K : AFrame → Prop) : Prop := match t with
 | none => False
 | some t => match fr with
  | ⟨fn, n, _, _, ds, mode, kind, round⟩ => match yY P o || xy o.op with
   | false => K ⟨fn, n, t, .drw all l (i :: dn) :: k, ds, mode, kind, round⟩
   | true => zmO P all.toList (bif yY P o then (zS P all.toList).anc.getD i 0 else 0) t h dn (K ⟨fn, n, t, .drw all l (i :: dn) :: k, ds, mode, kind, round⟩)
def zjp {α : Type} (o : Option α) (K : α → Prop) : Prop := match o with
 | none => False
 | some a => K a
def Fin (fr : AFrame) (h : AHeap) (v : AV) (K : AFrame → Prop) : Prop := match fr.todo with
 | .drw all (i :: l) dn :: k => match all[i]? with
  | none => False
  | some o => zkV P fr h all i o l dn k (zjx fr.tmps fr.n o.dst v) K
 | _ => zjp (xm P fr h v) K
def zjz [XT P] (fr : AFrame) (rest : List AFrame) (heap : AHeap) (r : AR) (K : AM → Prop) : Prop := match r with
 | .val v h => Fin P fr h v fun fr => K ⟨fr, rest, h⟩
 | .skip h => Fin P fr h vi fun fr => K ⟨fr, rest, h⟩
 | r => zjp (zk4 P fr rest heap r) K
def jC (fr : AFrame) : Option (List Oper × Oper) := match fr.todo with
 | .ops all (o :: _) :: _ => some (all, o)
 | .drw all (i :: _) _ :: _ => match all[i]? with
  | none => none
  | some o => some (all.toList, o)
 | _ => none
def Br (b : Bool) (m : AM) (K : AM → Prop) : Prop := match m with
 | ⟨fr, rest, h⟩ => match fr.mode with
  | .run => match fr.todo with
   | .code (.cond c x y) :: k => match ev fr.tmps c with
    | some (.bool t) => t = b ∧ K ⟨fr.withTodo (.code (bif b then x else y) :: k), rest, h⟩
    | _ => False
   | _ => False
  | _ => False
def Know (u : Nat) (b : Bool) (m : AM) (K : AM → Prop) : Prop := match m with
 | ⟨⟨fn, n, t, todo, ds, mode, kind, round⟩, rest, h⟩ => match t.get u with
  | some (.bool c) => c = b ∧ K ⟨⟨fn, n, t.set (some (.bool b)) u, todo, ds, mode, kind, round⟩, rest, h⟩
  | _ => False
def Slot (u : Nat) (v : AV) (m : AM) (K : AM → Prop) : Prop := match m with
 | ⟨⟨fn, n, t, todo, ds, mode, kind, round⟩, rest, h⟩ => match t.get u with
  | some x => x = v ∧ K ⟨⟨fn, n, t.set (some v) u, todo, ds, mode, kind, round⟩, rest, h⟩
  | _ => False
def OpK [XT P] (m : AM) (K : AM → Prop) : Prop := match m with
 | ⟨fr, rest, h⟩ => match fr.mode with
  | .run => match jC fr with
   | none => False
   | some (all, o) => match zW all fr.tmps o.guard with
    | some true => match opS P (ev fr.tmps) h o.op with
     | none => False
     | some (r, p) => p ∧ zjz P fr rest h r K
    | _ => False
  | _ => False
def ResK [XT P] (r : AR) (m : AM) (K : AM → Prop) : Prop := match m with
 | ⟨fr, rest, h⟩ => match fr.mode with
  | .run => match jC fr with
   | none => False
   | some (all, o) => match zW all fr.tmps o.guard with
    | some true => opA P (ev fr.tmps) h o.op = some r ∧ zjz P fr rest h r K
    | _ => False
  | _ => False
def zlS [XT P] (m : AM) (K : AM → Prop) : Prop := match m with
 | ⟨fr, rest, h⟩ => match fr.mode with
  | .run => match jC fr with
   | none => False
   | some (all, o) => match zW all fr.tmps o.guard with
    | some true => zjp (opA P (ev fr.tmps) h o.op) fun r => zjz P fr rest h r K
    | _ => False
  | .returning => match fr.defers with
   | [] => match fr.kind with
    | .normal => match rest with
     | [] => False
     | c :: r => match c.mode with
      | .run => zjp (znM P fr h) fun v => Fin P c h v fun c => K ⟨c, r, h⟩
      | _ => False
    | _ => False
   | _ :: _ => False
  | _ => False
def zh0 (us : List Nat) (Q : AV → Prop) (m : AM) (K : AM → Prop) : Prop := match m with
 | ⟨fr, rest, h⟩ => match rest with
  | [] => False
  | c :: r => match fr.kind with
   | .normal => match c.mode with
    | .run => match zmQ 0 [] us [] ⟨fr, [], h⟩ with
     | none => False
     | some m' => zg P 0 fr.fn (fun v _ => Q v ∧ va 99 v = true) m' ∧ ∀ v, Q v → Fin P c h v fun c => K ⟨c, r, h⟩
    | _ => False
   | _ => False
def zc (f : FuncId) (args : List AV) (G : T (T AV)) : AM := match qY P f args .normal with
 | some a => ⟨a, [], ⟨.leaf, 0, G⟩⟩
 | none => ⟨⟨0, 0, .leaf, [], [], .run, .normal, none⟩, [], ⟨.leaf, 0, G⟩⟩
def zmd (us : List Nat) (v : AV) (m : AM) (K : AM → Prop) : Prop := match m with
 | ⟨fr, rest, h⟩ => match rest with
  | [] => False
  | c :: r => match fr.kind with
   | .normal => match c.mode with
    | .run => match zmQ 0 [] us [] ⟨fr, [], h⟩ with
     | none => False
     | some m' => zmi (va 99 v) (zg P 0 fr.fn (fun x _ => x = v) m' ∧ Fin P c h v fun c => K ⟨c, r, h⟩)
    | _ => False
   | _ => False
def zgD (t : T AV) : List Nat → T AV → T AV
 | [], acc => acc
 | u :: r, acc => (acc.set (t.get u) u).seq fun acc => zgD t r acc
def zl6 (us : List Nat) (m : AM) (K : AM → Prop) : Prop := match m with
 | ⟨⟨fn, n, t, todo, ds, mode, kind, round⟩, rest, h⟩ => match todo with
  | .drw _ _ _ :: _ => False
  | todo => K ⟨⟨fn, n, zgD t us .leaf, todo, ds, mode, kind, round⟩, rest, h⟩
def znt (f0 : FuncId) (Q : AV → AHeap → Prop) (m : AM) : Prop := zjp (zjE P f0 m) fun v => Q v m.heap
end
section
variable {P : Program}
theorem yo {α : Type} {o : Option α} {K : α → Prop} (h : zjp o K) : ∃ a, o = some a ∧ K a := by
 unfold zjp at h
 split at h
 · exact h.elim
 · exact ⟨_, rfl, h⟩
theorem T.set_same' {α : Type} : ∀ {t : T α} {n : Nat} {v : α}, t.get n = some v → t.set (some v) n = t
 | .leaf, _, _, e => by cases e
 | .fn f, n, v, e => by
  show T.fn (fun m => bif Nat.beq m n then some v else f m) = _
  congr 1
  funext m
  cases hb : Nat.beq m n with
  | false => rfl
  | true => rw [Nat.eq_of_beq_eq_true hb]; exact e.symm
 | .node l x r, n, v, e => by
  rw [T.get_node] at e
  show (bif Nat.beq n 0 then T.node l (some v) r else bif Nat.beq (Nat.mod n 2) 1 then T.seq (l.set (some v) (Nat.div n 2)) (fun l => T.node l x r) else T.seq (r.set (some v) (Nat.sub (Nat.div n 2) 1)) (fun r => T.node l x r)) = _
  rw [T.seq_eq, T.seq_eq]
  split at e
  · rename_i h0
    subst h0; subst e; rfl
  · rename_i h0
    have e0 : Nat.beq n 0 = false := by cases n <;> simp_all [Nat.beq]
    rw [e0]
    split at e
    · rename_i h1
      have e1 : Nat.beq (Nat.mod n 2) 1 = true := by rw [show Nat.mod n 2 = 1 from h1]; rfl
      rw [e1]
      show T.node (l.set (some v) (n / 2)) x r = _
      rw [T.set_same' e]
    · rename_i h1
      have e1 : Nat.beq (Nat.mod n 2) 1 = false := by
       rw [show Nat.mod n 2 = 0 from by show n % 2 = 0; omega]; rfl
      rw [e1]
      show T.node l x (r.set (some v) (n / 2 - 1)) = _
      rw [T.set_same' e]
mutual
theorem zcA : ∀ (n : Nat) (v : AV), okD n v = true → vd n v v = true
 | 0, _, h => by simp [okD] at h
 | n + 1, v, h => by
  cases v <;> simp only [okD, Bool.and_eq_true] at h <;> simp only [vd, Bool.and_eq_true, decide_eq_true_eq, Nat.beq_refl, and_self, beq_self_eq_true]
  case fn f a b => exact ⟨⟨trivial, wj n _ h.1⟩, wj n _ h.2⟩
  case ifc t v => exact ⟨trivial, zcA n _ h⟩
  case agg l => exact wj n _ h
  case tup l => exact wj n _ h
theorem wj : ∀ (n : Nat) (v : List AV), zmq n v = true → w9 n v v = true
 | 0, _, h => by simp [zmq] at h
 | n + 1, l, h => by
  cases l with
  | nil => rfl
  | cons v r =>
   simp only [zmq, Bool.and_eq_true] at h
   simp only [w9, Bool.and_eq_true]
   exact ⟨zcA n _ h.1, wj n _ h.2⟩
end
theorem zbB {b : Bool} {K : Prop} (h : zmi b K) : b = true ∧ K := by
 cases b with
 | true => exact ⟨rfl, h⟩
 | false => exact h.elim
theorem zmc {p : AV} {size len : Nat} {i : Int} {v : AV} {q : Prop} (e : atP p size i len = some (v, q)) (hq : q) : ∀ el : Option Nat, el = some size → zaS len el p i = some v := by
 rintro el rfl
 unfold atP at e
 split at e
 · cases e; simp only [zaS, qI, if_pos hq]
 · cases e; simp only [zaS, if_pos hq]
 · cases e
theorem zke {x : AV} {size : Nat} {i : Int} {v : AV} {q : Prop} (e : zmA size x i = some (v, q)) (hq : q) : zdk (some size) x i = some v := by
 unfold zmA at e
 split at e
 · cases e; simp only [zdk, qI, if_pos hq]
 · cases e; simp only [zdk, qI, if_pos hq]
 · cases e
theorem zcE {t : TypeId} {x ix v : AV} {q : Prop} (e : kQ P t x ix = some (v, q)) (hq : q) : qu P t x ix = some v := by
 unfold kQ at e
 unfold qu
 split at e
 · split at e
   · rename_i len el hu
     split at e
     · cases e
     · rename_i s hs
       simp only [hu]
       exact zmc e hq _ hs
   · rename_i el hu
     split at e
     · cases e
     · rename_i s hs
       simp only [hu, hs]
       exact zke e hq
   · cases e
 · cases e
theorem zhK {t : TypeId} {x ix v : AV} {q : Prop} (e : zi0 P t x ix = some (v, q)) (hq : q) : zd8 P t x ix = some v := by
 unfold zi0 at e
 unfold zd8
 split at e
 · rename_i k i
   split at e
   · rename_i hu
     split at e
     · rename_i s
       cases e
       simp only [hu, zcb, if_pos hq.1]
       have : i.toNat < s.length := by omega
       rw [List.getElem?_eq_getElem this, List.getD_eq_getElem?_getD, List.getElem?_eq_getElem this]
       rfl
     · cases e
   · rename_i len el hu
     split at e
     · rename_i cs
       split at e
       · cases e
       rename_i ha
       split at e
       · cases e
       rename_i s hs
       cases e
       have hagg : zlm P el = some false := by
        unfold zlc at ha
        split at ha
        · rename_i b hb
          rw [hb]
          cases b
          · rfl
          · cases ha
        · cases ha
       simp only [hu, zcJ, hs]
       rw [if_pos hq.1]
       simp only [za2, hagg]
       rw [List.getD_eq_getElem?_getD, List.getElem?_eq_getElem hq.2]
       rfl
     · cases e
   · cases e
 · cases e
theorem qB {len cap : Nat} {lo hi mx : Option Int} {l h m : Nat} {p : Prop} (e : yp len cap lo hi mx = (l, h, m, p)) (hp : p) : xa len cap lo hi mx = some (l, h, m) := by
 unfold yp at e
 cases lo <;> cases hi <;> cases mx <;> simp only [Prod.mk.injEq] at e <;> obtain ⟨rfl, rfl, rfl, rfl⟩ := e <;>
  simp only [xa, yb, xN, xB, xO, Option.isSome_none, Option.isSome_some] <;> first | rfl | exact (hp : False).elim | (simp_all; done)
theorem ziQ {t : TypeId} {x v : AV} {lo hi mx : Option Int} {q : Prop} (e : zhC P t x lo hi mx = some (v, q)) (hq : q) : zaq P t x lo hi mx = some v := by
 unfold zhC at e
 unfold zaq
 split at e
 · rename_i hu
   split at e
   · split at e
     · cases e
     · generalize hb : yp _ _ _ _ _ = b at e
       obtain ⟨l, h, m, p⟩ := b
       cases e
       simp only [hu, zbQ, qB hb hq, zjJ]
   · cases e
 · rename_i el hu
   split at e
   · cases e
   · rename_i sz hs
     simp only [hu, hs, ze6]
     split at e
     · generalize hb : yp _ _ _ _ _ = b at e
       obtain ⟨l, h, m, p⟩ := b
       cases e
       simp only [qB hb hq, zh6]
     · generalize hb : yp _ _ _ _ _ = b at e
       obtain ⟨l, h, m, p⟩ := b
       cases e
       simp only [qB hb hq, zd4]
     · split at e
       · split at e
         · cases e
         · generalize hb : yp _ _ _ _ _ = b at e
           obtain ⟨l, h, m, p⟩ := b
           cases e
           simp only [qB hb hq, zgP, zd4]
       · generalize hb : yp _ _ _ _ _ = b at e
         obtain ⟨l, h, m, p⟩ := b
         cases e
         simp only [qB hb hq, zgP]
     · cases e
 · cases e
theorem zlH {h : AHeap} {op : BinOp} {t : TypeId} {lit : Bool} {x y v : AV} {q : Prop} (e : binS op x y = some (v, q)) (hq : q) : jJ P h op t lit x y = some v := by
 unfold binS at e
 split at e
 · split at e
   · split at e
     · cases e
       show catA _ _ = _
       unfold catA
       rw [if_pos hq]
     · cases e
   · cases e
 · split at e
   · split at e
     · split at e
       · rename_i hk
         cases e
         simp only [jJ, zgt, Bool.or_self, zmN, jc, hk, true_or, if_true]
         show quoA _ _ _ = _
         simp only [quoA, if_neg hq]
       · cases e
     · split at e
       · rename_i hk
         cases e
         simp only [jJ, zgt, Bool.or_self, zmN, jc, hk, true_or, if_true]
         show remA _ _ _ = _
         simp only [remA, if_neg hq]
       · cases e
     · cases e
       simp only [jJ, zgt, Bool.or_self, zmN, jc, zaU, or_true, if_true]
       show shlA _ _ _ = _
       simp only [shlA, if_neg (Int.not_lt.2 hq)]
     · cases e
       simp only [jJ, zgt, Bool.or_self, zmN, jc, zaU, or_true, if_true]
       show shrA _ _ _ = _
       simp only [shrA, if_neg (Int.not_lt.2 hq)]
     · cases e
   · cases e
 · cases e
theorem zdp {h : AHeap} {id ver off k : Nat} {l : List AV} {q : Prop} (e : zge h id ver off k = some (l, q)) (hq : q) : zo h id ver off k = some l := by
 unfold zge at e
 unfold zo
 split at e
 · rename_i c lo n ho
   cases hb : Nat.beq ver 0 with
   | false => rw [hb] at e; cases e
   | true =>
    rw [hb] at e
    simp only [cond_true] at e
    split at e
    · cases e
    · rename_i l' hl
      cases e
      simp only [ho, hl]
      rw [if_pos ⟨Nat.eq_of_beq_eq_true hb, hq⟩]
 · rename_i c n el lo hi nv fz sg ex ho
   split at e
   · cases e
   · rename_i e0 he
     cases hb : (Nat.ble lo ver && Nat.ble ver hi) with
     | false => rw [hb] at e; cases e
     | true =>
      rw [hb] at e
      simp only [cond_true] at e
      rw [Bool.and_eq_true] at hb
      split at e
      · cases e
      · rename_i l' hl
        cases e
        simp only [ho, he, hl]
        rw [if_pos ⟨Nat.le_of_ble_eq_true hb.1, Nat.le_of_ble_eq_true hb.2, hq⟩]
 · cases e
theorem zfS {h : AHeap} {t : TypeId} {p v : AV} {q : Prop} (e : zj3 P h t p = some (v, q)) (hq : q) : zb9 P h t p = some v := by
 unfold zj3 at e
 unfold zb9
 split at e
 · split at e
   · cases e
   · rename_i ha
     split at e
     · cases e
     · rename_i i hi
       split at e
       · cases e
       · rename_i l p' hl
         cases e
         simp only [ha, hi, zdp hl hq]
   · rename_i ha
     split at e
     · rename_i v' p' hl
       cases e
       simp only [ha, zdp hl hq]
     · cases e
 · cases e
theorem zkJ {ρ : Operand → Option AV} {h : AHeap} {o : Op} {v : AV} {K : Prop} (e : zl3 P ρ h o v K) : qy P ρ h o = some v ∧ K := by
 unfold zl3 at e
 split at e
 · rename_i t a
   split at e
   · rename_i id ver off ha
     split at e
     · unfold zho at e
       split at e
       · exact e.elim
       · rename_i x q hx
         obtain ⟨hq, rfl, hk⟩ := e
         refine ⟨?_, hk⟩
         unfold qy
         show (match jl P t a ρ h with | some (.val v _) => some v | _ => none) = _
         simp only [jl, wb, ha, zfS hx hq, qi]
     · exact e
   · exact e
 · exact e
theorem zjK {all : List Oper} {t : T AV} {h : AHeap} {o : Oper} {K : Prop} (e : zlx P all t h o K) : kG P all t h o = true ∧ K := by
 unfold zlx at e
 unfold kG
 split at e
 · exact e.elim
 · rename_i w hw
   rw [hw]
   split at e
   · exact ⟨rfl, e⟩
   · split at e
     · rename_i hd; simp only [hd]; exact e
     · rename_i d hd
       simp only [hd]
       split at e
       · exact e.elim
       · rename_i v hv
         obtain ⟨h1, h2⟩ := zkJ e
         obtain ⟨h3, h4⟩ := zbB h2
         rw [hv, h1]
         exact ⟨zcA 300 v h3, h4⟩
theorem zcw {all : List Oper} {anc : Nat} {t : T AV} {h : AHeap} : ∀ {dn : List Nat} {K : Prop}, zmO P all anc t h dn K → qU P all anc t h dn = true ∧ K
 | [], K, e => ⟨rfl, e⟩
 | p :: r, K, e => by
  unfold zmO at e
  unfold qU
  rw [Bool.and_eq_true]
  split at e
  · rename_i hp
    obtain ⟨g1, g2⟩ := zcw e
    rw [hp]
    exact ⟨⟨rfl, g1⟩, g2⟩
  · rename_i o hp
    rw [hp]
    unfold ki
    simp only
    split at e
    · rename_i hr
      obtain ⟨g1, g2⟩ := zcw e
      rw [hr]
      exact ⟨⟨rfl, g1⟩, g2⟩
    · rename_i hr
      obtain ⟨q1, q2⟩ := zjK e
      obtain ⟨g1, g2⟩ := zcw q2
      rw [hr]
      exact ⟨⟨q1, g1⟩, g2⟩
theorem vZ {fr : AFrame} {h : AHeap} {v : AV} {K : AFrame → Prop} (e : Fin P fr h v K) : ∃ a, xm P fr h v = some a ∧ K a := by
 unfold Fin at e
 split at e
 · rename_i all i l dn k htodo
   split at e
   · exact e.elim
   · rename_i o ho
     unfold xm
     rw [htodo]
     simp only [ho]
     unfold zkV at e
     unfold zde
     split at e
     · exact e.elim
     · rename_i t ht
       rw [ht]
       obtain ⟨fn, n, t0, td, ds, mode, kind, round⟩ := fr
       simp only at e ⊢
       split at e
       · rename_i hf
         rw [hf]
         exact ⟨_, rfl, e⟩
       · rename_i hf
         obtain ⟨g1, g2⟩ := zcw e
         rw [hf, g1]
         exact ⟨_, rfl, g2⟩
 · exact yo e
theorem yn [XT P] [XTOk P] {fr : AFrame} {rest : List AFrame} {heap : AHeap} {r : AR} {K : AM → Prop} (e : zjz P fr rest heap r K) : ∃ m, zk4 P fr rest heap r = some m ∧ K m := by
 unfold zjz at e
 split at e
 · obtain ⟨a, h1, h2⟩ := vZ e
   exact ⟨_, by simp only [zk4, h1, jM], h2⟩
 · obtain ⟨a, h1, h2⟩ := vZ e
   exact ⟨_, by simp only [zk4, h1, jM], h2⟩
 · exact yo e
theorem yc [XT P] [XTOk P] {fr : AFrame} {rest : List AFrame} {h : AHeap} {all : List Oper} {o : Oper} (hm : fr.mode = .run) (ht : jC fr = some (all, o)) : zdj P ⟨fr, rest, h⟩ = vD P fr rest h all o := by
 unfold jC at ht
 simp only [zdj, hm, zi4]
 split at ht
 · rename_i all' o' l k htodo
   cases ht
   rw [htodo]
   rfl
 · rename_i all' i l dn k htodo
   split at ht
   · cases ht
   · rename_i o' ho
     cases ht
     rw [htodo]
     show zlF P fr rest h all'.toList all'[i]? = _
     rw [ho]; rfl
 · cases ht
theorem znD {ρ : Operand → Option AV} {h : AHeap} {o : Op} {r : AR} {p : Prop} (e : opS P ρ h o = some (r, p)) (hp : p) : opA P ρ h o = some r := by
 have lift : ∀ {x : Option (AV × Prop)} {y : Option AV}, zes h x = some (r, p) → (∀ v q, x = some (v, q) → q → y = some v) → qi h y = some r := by
  intro x y e g
  unfold zes at e
  split at e
  · cases e
  · rename_i v q
    cases e
    rw [g v _ rfl hp]; rfl
 cases o <;> simp only [opS] at e
 case binOp op t x y t' =>
  unfold zjC at e
  split at e
  · cases e
  · rename_i a ha
    split at e
    · cases e
    · rename_i b hb
      show wU P op t x y t' ρ h = _
      simp only [wU, two, ha, hb]
      exact lift e fun v q e hq => zlH e hq
 case slice t x lo hi mx =>
  split at e
  · cases e
  rename_i a ha
  split at e
  · cases e
  rename_i l hl
  split at e
  · cases e
  rename_i hh hhh
  split at e
  · cases e
  rename_i m hm
  show qR P t x lo hi mx ρ h = _
  simp only [qR, vF, ha, hl, hhh, hm]
  exact lift e fun v q e hq => by simp only [zbF, ziQ e hq]
 case indexAddr t x y =>
  unfold zjC at e
  split at e
  · cases e
  · rename_i a ha
    split at e
    · cases e
    · rename_i b hb
      show qf P t x y ρ h = _
      simp only [qf, two, ha, hb]
      exact lift e fun v q e hq => zcE e hq
 case index t x y =>
  unfold zjC at e
  split at e
  · cases e
  · rename_i a ha
    split at e
    · cases e
    · rename_i b hb
      show jO P t x y ρ h = _
      simp only [jO, two, ha, hb]
      exact lift e fun v q e hq => zhK e hq
 case load t x =>
  split at e
  · cases e
  · rename_i a ha
    show jl P t x ρ h = _
    simp only [jl, wb, ha]
    exact lift e fun v q e hq => zfS e hq
 all_goals cases e
theorem zg.step [XT P] [XTOk P] (hmix : P.follows .mixedOrders = true) {keep : Nat} {f0 : FuncId} {Q : AV → AHeap → Prop} {m m' : AM} (e : zdj P m = some m') (k : zg P keep f0 Q m') : zg P keep f0 Q m := by
 intro w0 base fr cs w hk s
 obtain ⟨fr1, cs1, w1, s1, k1⟩ := zkF hmix s e
 obtain ⟨fr', w', B, R, v, v', h', s2, g⟩ := k w0 base fr1 cs1 w1 hk k1
 exact ⟨fr', w', B, R, v, v', h', s1.trans s2, g⟩
theorem zg.runN [XT P] [XTOk P] (hmix : P.follows .mixedOrders = true) {keep : Nat} {f0 : FuncId} {Q : AV → AHeap → Prop} : ∀ {n : Nat} {m m' : AM}, runN P n m = some m' → zg P keep f0 Q m' → zg P keep f0 Q m
 | 0, m, m', e, k => by cases e; exact k
 | n + 1, m, m', e, k => by
  unfold Ev.runN at e
  split at e
  · cases e
  · rename_i m1 h1
    exact .step hmix h1 (zg.runN hmix e k)
theorem HRel.grow {B : Base} {R : Bij} {h : AHeap} {w w' : World} (k : HRel P B R h w) (hB : B.n ≤ w.heap.size) (hs : w.heap.size ≤ w'.heap.size) (ho : ∀ b, b < w.heap.size → w'.heap[b]? = w.heap[b]?) : HRel P B R h w' where
 fresh := k.fresh
 pend := k.pend
 obj i o e hp := (k.obj i o e hp).mono R.le_refl (fun _ => rfl) (fun r L hL => ho _ (k.place i r L hL).2)
 place i r L hL := ⟨(k.place i r L hL).1, Nat.lt_of_lt_of_le (k.place i r L hL).2 hs⟩
 rd := k.rd
 low b hb := (ho b (Nat.lt_of_lt_of_le (Base.low_lt hb) hB)).trans (k.low b hb)
 rp := k.rp
 rol := k.rol
 pin := k.pin
 apart := k.apart
 same := k.same
 glob g c e := by
  obtain ⟨e1, cs, el, fz, e2, e3⟩ := k.glob g c e
  exact ⟨e1, cs, el, fz, (ho g (Nat.lt_of_lt_of_le (Base.low_lt e1) hB)).trans e2, e3⟩
theorem ziY {fr f : Frame} {cs : List Frame} {w : World} {v : Value} (hl : fr.leaving P w (.returned v)) : step P (lone fr (f :: cs) w) = .next (lone (f.finish v) cs w) := by
 obtain ⟨h1, h2, h3, fn, h4, h5⟩ := hl
 refine step_lone_go (fr' := f.finish v) (cs' := cs) (w' := w) ?_
 have hst : stepG P true { frame := fr, callers := f :: cs, status := .running, dying := none } w = unwind P true fr (f :: cs) none w := by
  simp only [stepG, h1]
 rw [hst]
 simp only [unwind, h2, h1, h4, Sem.runT_eq, h5]
 simp [doReturn, h3]
theorem zbz {keep : Nat} {f0 : FuncId} {Q : AV → AHeap → Prop} {us : List Nat} {q : AV → Prop} {m : AM} {K : AM → Prop} (e : zh0 P us q m K) (hK : ∀ m, K m → zg P keep f0 Q m) : zg P keep f0 Q m := by
 intro w0 base fr cs w hk s
 obtain ⟨a, rest, h⟩ := m
 unfold zh0 at e
 simp only at e
 split at e
 · exact e.elim
 rename_i c r
 split at e
 rotate_left
 · exact e.elim
 rename_i hkind
 split at e
 rotate_left
 · exact e.elim
 rename_i hcm
 split at e
 · exact e.elim
 rename_i m' hm'
 obtain ⟨hspec, hgo⟩ := e
 obtain ⟨B, R, fs, rfl, hb, kh, ho, kt, kb⟩ := s
 obtain ⟨f, fs', rfl, kf, kr⟩ := kb
 have hroom : B.n ≤ w.heap.size := by show B.env.heap.size ≤ _; rw [hb]; exact ho.size
 have hloc : Sim P (Env.of w) (f :: fs' ++ base) m' fr (f :: fs' ++ base) w := by
  simp only [zmQ, ji, zgn, Bool.and_self, cond_true, jp] at hm'
  split at hm'
  · cases hm'
  rename_i h2 hh2
  split at hm'
  · cases hm'
  rename_i top htop
  simp only [zhY] at hm'
  cases hm'
  obtain ⟨objs, next, glob⟩ := h
  simp only [jh, List.all_nil, cond_true, vM, List.length_nil] at hh2
  cases hh2
  have hR : Tab.re [] R = fun _ _ => none := by
   funext i r
   simp only [Tab.re, List.getElem?_nil]
  refine ⟨Base.of w, fun _ _ => none, [], rfl, rfl, .start fun g c e => ?_, .start w, ?_, rfl⟩
  · obtain ⟨_, cs, el, fz, e2, e3⟩ := kh.glob g c e
    exact ⟨xq e2, cs, el, fz, e2, e3⟩
  · rw [← hR]
    exact jR (Tab.ok [] R) htop kt
 obtain ⟨fr', w', B', R', v, v', h', s1, s2, s3, s4, s5, s6, s7, s8, s9⟩ := hspec (Env.of w) (f :: fs' ++ base) fr (f :: fs' ++ base) w (fun i r L e => by cases e) hloc
 have hold : OldX (Env.of w) w' := s7.all s5 s6
 have hsame : ∀ b, b < w.heap.size → w'.heap[b]? = w.heap[b]? := fun b hb => hold.other b hb id
 obtain ⟨c', q1, q2⟩ := vZ (hgo v s8)
 have hsim : Sim P w0 base ⟨c', r, h⟩ (f.finish v') (fs' ++ base) w' :=
  ⟨B, R, fs', rfl, hb, kh.grow hroom s7.size hsame, ⟨s7.os.trans ho.os, s7.tape.trans ho.tape, s7.output.trans ho.output, Nat.le_trans ho.size s7.size, Nat.le_trans ho.drawn s7.drawn⟩, xH kf hcm q1 (wX 99 _ _ s9 s4), kr⟩
 obtain ⟨fr2, w2, B2, R2, v2, v2', h2, t1, t2⟩ := hK _ q2 w0 base _ _ w' hk hsim
 exact ⟨fr2, w2, B2, R2, v2, v2', h2, s1.trans (.head (ziY s2) t1), t2⟩
theorem zg.mono {keep : Nat} {f0 : FuncId} {Q Q' : AV → AHeap → Prop} {m : AM} (h : ∀ v k, Q v k → Q' v k) (g : zg P keep f0 Q m) : zg P keep f0 Q' m := by
 intro w0 base fr cs w hk s
 obtain ⟨fr', w', B, R, v, v', h', a1, a2, a3, a4, a5, a6, a7, a8⟩ := g w0 base fr cs w hk s
 exact ⟨fr', w', B, R, v, v', h', a1, a2, a3, a4, a5, a6, a7, h _ _ a8⟩
theorem zgW {us : List Nat} {v : AV} {m : AM} {K : AM → Prop} (e : zmd P us v m K) : zh0 P us (fun x => x = v) m K := by
 obtain ⟨a, rest, h⟩ := m
 unfold zmd at e
 unfold zh0
 simp only at e
 split at e
 · exact e.elim
 split at e
 rotate_left
 · exact e.elim
 rename_i hkind
 split at e
 rotate_left
 · exact e.elim
 rename_i hcm
 split at e
 · exact e.elim
 rename_i m' hm'
 obtain ⟨hp, g1, g2⟩ := zbB e
 simp only [hkind, hcm, hm']
 exact ⟨g1.mono fun x _ hx => ⟨hx, by rw [hx]; exact hp⟩, fun x hx => by rw [hx]; exact g2⟩
theorem zbL {keep : Nat} {f0 : FuncId} {Q : AV → AHeap → Prop} {m : AM} (e : znt P f0 Q m) : zg P keep f0 Q m := by
 intro w0 base fr cs w hk s
 obtain ⟨v, hd, hq⟩ := yo e
 obtain ⟨af, rest, h⟩ := m
 obtain ⟨B, R, fs, rfl, hb, kh, ho, kt, kb⟩ := s
 unfold zjE at hd
 simp only at hd
 split at hd
 · cases hd
 split at hd
 rotate_left
 · cases hd
 rename_i hmode
 split at hd
 · cases hd
 rename_i hdef
 split at hd
 rotate_left
 · cases hd
 rename_i hkind
 split at hd
 rotate_left
 · cases hd
 rename_i hf0
 have hfs : fs = [] := kb
 subst hfs
 have hs : z8 R af.tmps fr.tmps := by have := kt.top; rw [hmode] at this; exact this
 obtain ⟨fn, v', r1, r2, r3⟩ := zdQ kh hs kt.fn hd
 have hm : fr.mode = .returning := by have := kt.mode; rw [hmode] at this; exact this
 have hdf : fr.defers = [] := by have := kt.defers; rw [hdef] at this; exact this
 exact ⟨fr, w, B, R, v, v', h, Steps.refl _ _, ⟨hm, hdf, by rw [kt.kind, hkind], fn, r1, r2⟩, kt.fn.trans (Nat.eq_of_beq_eq_true hf0), r3, hb, kh, ho, hq⟩
theorem zg.ofRun [XT P] [XTOk P] (hmix : P.follows .mixedOrders = true) {keep : Nat} {f0 : FuncId} {Q : AV → AHeap → Prop} : ∀ {n : Nat} {m : AM} {v : AV}, runA P f0 n m = some v → (∀ h, Q v h) → zg P keep f0 Q m
 | 0, m, v, e, _ => by cases e
 | n + 1, m, v, e, hq => by
  unfold runA at e
  split at e
  · rename_i v' hd
    cases e
    exact zbL (m := m) (show zjp (zjE P f0 m) _ by rw [hd]; exact hq _)
  · split at e
    · cases e
    · rename_i m1 h1
      exact .step hmix h1 (zg.ofRun hmix e hq)
theorem zc4 {t : T AV} : ∀ {us : List Nat} {acc : T AV}, (∀ u v, acc.get u = some v → t.get u = some v) → ∀ u v, (zgD t us acc).get u = some v → t.get u = some v
 | [], _, h, u, v, e => h u v e
 | u0 :: r, acc, h, u, v, e => by
  rw [zgD, T.seq_eq] at e
  refine zc4 (us := r) (fun u v e => ?_) u v e
  rw [T.get_set] at e
  split at e
  · rename_i hu; rw [hu]; exact e
  · exact h u v e
theorem zgr {keep : Nat} {f0 : FuncId} {Q : AV → AHeap → Prop} {us : List Nat} {m : AM} {K : AM → Prop} (e : zl6 us m K) (hK : ∀ m, K m → zg P keep f0 Q m) : zg P keep f0 Q m := by
 intro w0 base fr cs w hk s
 obtain ⟨⟨fn, n, t, todo, ds, mode, kind, round⟩, rest, h⟩ := m
 obtain ⟨B, R, fs, hc, hb, kh, ho, kt, kb⟩ := s
 unfold zl6 at e
 simp only at e
 have hkeep : ∀ {a : Array Value}, z8 R t a → z8 R (zgD t us .leaf) a := fun hs u v e => hs u v (zc4 (fun u v e => by cases e) u v e)
 split at e
 · exact e.elim
 · rename_i hn
   refine hK _ e w0 base fr cs w hk ⟨B, R, fs, hc, hb, kh, ho, ?_, kb⟩
   obtain ⟨k1, k2, k3, k4, k5, k6, k7, k8, k9⟩ := kt
   refine ⟨k1, k2, k3, k4, k5, k6, k7, k8, ?_⟩
   cases mode with
   | run =>
    change zQ P B R rest.length false h todo t fr.todo fr.tmps at k9
    show zQ P B R rest.length false h todo (zgD t us .leaf) fr.todo fr.tmps
    cases todo with
    | nil => exact ⟨k9.1, hkeep k9.2⟩
    | cons it kk =>
     cases it with
     | drw a b c => exact absurd rfl (hn a b c kk)
     | _ => exact ⟨k9.1, hkeep k9.2⟩
   | returning => exact hkeep k9
   | panicking c => exact hkeep k9
theorem zi3 {keep k : Nat} {f0 : FuncId} {Q : AV → AHeap → Prop} {ids us : List Nat} {uss : List (List Nat)} {m : AM} {K : AM → Prop} (hkk : keep ≤ k) (e : CanP k ids us uss m K) (hK : ∀ m, K m → zg P keep f0 Q m) : zg P keep f0 Q m := by
 intro w0 base fr cs w hk s
 unfold CanP at e
 split at e
 · exact e.elim
 rename_i m' hm'
 obtain ⟨g1, g2⟩ := qc e
 exact hK _ g2 w0 base fr cs w hk (Sim.can (fun i r L h => Nat.lt_of_lt_of_le (hk i r L h) hkk) hm' g1 s)
end
end Go.Proofs.YtdbfpjgnlfejmaaDoor.Ev
end
section
namespace Go.Proofs.YtdbfpjgnlfejmaaDoor.Ev
open Go
noncomputable section
variable (P : Program)
def wit (h : AHeap) : List Nat → AV → Option AV
 | [], v => some v
 | k :: r, v => match v with
  | .ptr i ver o => match h.get i with
   | some (.cells c n _ lo hi _ _ _ ex) => match zJ ex n hi ver with
    | some e => bif Nat.ble lo ver && Nat.ble ver hi && Nat.ble o k && Nat.blt k e then (match c.get k with
     | some v => wit h r v
     | none => none) else none
    | none => none
   | _ => none
  | .slc i ver o _ _ => match h.get i with
   | some (.cells c n _ lo hi _ _ _ ex) => match zJ ex n hi ver with
    | some e => bif Nat.ble lo ver && Nat.ble ver hi && Nat.ble o k && Nat.blt k e then (match c.get k with
     | some v => wit h r v
     | none => none) else none
    | none => none
   | _ => none
  | .mp i => match h.get i with
   | some (.map es _) => match es[k]? with
    | some e => wit h r e.val
    | none => none
   | _ => none
  | .fn _ a b => match (a ++ b)[k]? with
   | some v => wit h r v
   | none => none
  | .ifc _ v => wit h r v
  | .agg l => match l[k]? with
   | some v => wit h r v
   | none => none
  | .tup l => match l[k]? with
   | some v => wit h r v
   | none => none
  | _ => none
def ks : AV → Option Nat
 | .ptr i _ _ => some i
 | .slc i _ _ _ _ => some i
 | .slg i _ _ _ _ => some i
 | .mp i => some i
 | .yld i => some i
 | _ => none
def zhF (h : AHeap) (t : T AV) : List (Nat × Nat × List Nat) → Bool
 | [] => true
 | (j, u, p) :: r => (match t.get u with
  | none => false
  | some v => match wit h p v with
   | none => false
   | some v => match ks v with
    | none => false
    | some i => Nat.beq i j) && zhF h t r
def xo (l : List (Nat × Nat × List Nat)) : Tab := l.map fun p => (p.1, none)
def locM (l : List (Nat × Nat × List Nat)) (us : List Nat) (fr : AFrame) (h : AHeap) : Option AM :=
 bif ji (l.map (·.1)) && zhF h fr.tmps l then match jh (xo l) h with
  | none => none
  | some h0 => match zmF (xo l).ver us fr with
   | none => none
   | some a => some ⟨a, [], h0⟩ else none
def vO (σ : List Nat) (next : Nat) (i : Nat) : Nat := match σ[i]? with
 | some j => j
 | none => next + (i - σ.length)
def ziR (σ : List Nat) (next : Nat) (i r : Nat) : Option (Nat × Nat) := some (vO σ next i, r)
def qb (g : Nat → Nat → Option (Nat × Nat)) (f : Nat → Nat) (objs' : T AObj) : Nat → Nat → T AObj → Option (T AObj)
 | 0, _, acc => some acc
 | n + 1, i, acc => match objs'.get i with
  | none => (acc.set none (f i)).seq fun acc => qb g f objs' n (i + 1) acc
  | some o => match zej g none o with
   | none => none
   | some o => (acc.set (some o) (f i)).seq fun acc => qb g f objs' n (i + 1) acc
def zaY (objs' : T AObj) : Nat → Nat → List (Nat → Option AV)
 | 0, _ => []
 | n + 1, i => match objs'.get i with
  | none => zaY objs' n (i + 1)
  | some o => zmX o ++ zaY objs' n (i + 1)
def znj (σ : List Nat) (h h' : AHeap) : Option AHeap := bif Nat.ble σ.length h'.next then match qb (ziR σ h.next) (vO σ h.next) h'.objs h'.next 0 h.objs with
 | none => none
 | some objs => some ⟨objs, h.next + (h'.next - σ.length), h.glob⟩ else none
def zme (l : List (Nat × Nat × List Nat)) (us : List Nat) (v : AV) (H : AHeap) (m : AM) (K : AM → Prop) : Prop := match m with
 | ⟨fr, rest, h⟩ => match rest with
  | [] => False
  | c :: r => match fr.kind with
   | .normal => match c.mode with
    | .run => match locM l us fr h with
     | none => False
     | some m' => match zei (ziR (l.map (·.1)) h.next) 99 v with
      | none => False
      | some v2 => match znj (l.map (·.1)) h H with
       | none => False
       | some h2 => vX (zlA h.objs (xo l)) (vX (zaY H.objs H.next 0) (zg P l.length fr.fn (fun x k => x = v ∧ k = H) m' ∧ Fin P c h2 v2 fun c => K ⟨c, r, h2⟩))
    | _ => False
   | _ => False
end
section
variable {P : Program} {B : Base} {R : Bij} {h : AHeap} {w : World}
theorem zbv (kh : HRel P B R h w) {i ver o k : Nat} {L : Loc} (hL : R i ver = some L) (hm : L.minus ≤ o) {c : T AV} {n : Nat} {el : TypeId} {lo hi nv fz : Nat} {sg : Bool} {ex : T Nat} (ho : h.get i = some (.cells c n el lo hi nv fz sg ex)) {e : Nat}
 (he : zJ ex n hi ver = some e) (hb : (Nat.ble lo ver && Nat.ble ver hi && Nat.ble o k && Nat.blt k e) = true) {v : AV} (hv : c.get k = some v) : ∃ x, zl R v x := by
 simp only [Bool.and_eq_true] at hb
 obtain ⟨⟨⟨h1, h2⟩, h3⟩, h4⟩ := hb
 obtain ⟨L', hL', cs, a, b, g1, g2, g3, g4, g5⟩ := kh.ver hL ho (Nat.le_of_ble_eq_true h1) (Nat.le_of_ble_eq_true h2) he
 rw [hL] at hL'; cases hL'
 have := Nat.le_of_ble_eq_true h3
 have h4 : k < e := by simpa [Nat.blt_eq] using h4
 obtain ⟨x, _, hx⟩ := g5 k v h4 (by omega) hv
 exact ⟨x, hx⟩
theorem qQ (kh : HRel P B R h w) : ∀ {p : List Nat} {v v' : AV} {x : Value}, wit h p v = some v' → zl R v x → ∃ x', zl R v' x'
 | [], v, v', x, e, hv => by cases e; exact ⟨x, hv⟩
 | k :: r, v, v', x, e, hv => by
  cases v <;> simp only [wit] at e
  case ptr i ver o =>
   obtain ⟨L, hL, hm, _⟩ := hv
   split at e
   · rename_i c n el lo hi nv fz sg ex ho
     split at e
     · rename_i e0 he
       cases hb : (Nat.ble lo ver && Nat.ble ver hi && Nat.ble o k && Nat.blt k e0) with
       | false => rw [hb] at e; cases e
       | true =>
        rw [hb] at e
        simp only [cond_true] at e
        split at e
        · rename_i y hy
          obtain ⟨z, hz⟩ := zbv kh hL hm ho he hb hy
          exact qQ kh e hz
        · cases e
     · cases e
   · cases e
  case slc i ver o len cap =>
   obtain ⟨L, hL, hm, _⟩ := hv
   split at e
   · rename_i c n el lo hi nv fz sg ex ho
     split at e
     · rename_i e0 he
       cases hb : (Nat.ble lo ver && Nat.ble ver hi && Nat.ble o k && Nat.blt k e0) with
       | false => rw [hb] at e; cases e
       | true =>
        rw [hb] at e
        simp only [cond_true] at e
        split at e
        · rename_i y hy
          obtain ⟨z, hz⟩ := zbv kh hL hm ho he hb hy
          exact qQ kh e hz
        · cases e
     · cases e
   · cases e
  case mp i =>
   obtain ⟨L, hL, _⟩ := hv
   split at e
   · rename_i es clock ho
     obtain ⟨L', es', hL', hh, hrel⟩ := kh.obj' hL ho
     split at e
     · rename_i en hen
       obtain ⟨b, _, hb⟩ := hrel.get k en hen
       exact qQ kh e hb.2.1
     · cases e
   · cases e
  case fn f a b =>
   obtain ⟨_, a', b', rfl, h1, h2⟩ := hv
   split at e
   · rename_i y hy
     obtain ⟨z, _, hz⟩ := (h1.append h2).get k y hy
     exact qQ kh e hz
   · cases e
  case ifc t y =>
   obtain ⟨z, _, hz⟩ := hv
   exact qQ kh e hz
  case agg l =>
   obtain ⟨a, rfl, h1⟩ := hv
   split at e
   · rename_i y hy
     obtain ⟨z, _, hz⟩ := h1.get k y hy
     exact qQ kh e hz
   · cases e
  case tup l =>
   obtain ⟨a, rfl, h1⟩ := hv
   split at e
   · rename_i y hy
     obtain ⟨z, _, hz⟩ := h1.get k y hy
     exact qQ kh e hz
   · cases e
  all_goals cases e
theorem vE {v : AV} {x : Value} {i : Nat} (hv : zl R v x) (e : ks v = some i) : ∃ r L, R i r = some L := by
 cases v <;> simp only [ks, Option.some.injEq] at e
 case ptr => subst e; obtain ⟨L, hL, _⟩ := hv; exact ⟨_, L, hL⟩
 case slc => subst e; obtain ⟨L, hL, _⟩ := hv; exact ⟨_, L, hL⟩
 case slg => subst e; obtain ⟨L, a, hL, _⟩ := hv; exact ⟨_, L, hL⟩
 case mp => subst e; obtain ⟨L, hL, _⟩ := hv; exact ⟨_, L, hL⟩
 case yld => subst e; obtain ⟨L, hL, _⟩ := hv; exact ⟨_, L, hL⟩
 all_goals cases e
theorem zbG (kh : HRel P B R h w) {t : T AV} {a : Array Value} (hs : z8 R t a) : ∀ {l : List (Nat × Nat × List Nat)}, zhF h t l = true → ∀ q ∈ l, ∃ r L, R q.1 r = some L
 | [], _, q, hq => absurd hq List.not_mem_nil
 | (j, u, p) :: l, e, q, hq => by
  simp only [zhF, Bool.and_eq_true] at e
  rcases List.mem_cons.1 hq with rfl | hq
  · have e := e.1
    split at e
    · cases e
    · rename_i v hv
      split at e
      · cases e
      · rename_i v' hv'
        split at e
        · cases e
        · rename_i i hi
          have := Nat.eq_of_beq_eq_true e
          subst this
          obtain ⟨x, _, hx⟩ := hs u v hv
          obtain ⟨x', hx'⟩ := qQ kh hv' hx
          exact vE hx' hi
  · exact zbG kh hs e.2 q hq
theorem zgQ {g : Nat → Nat → Option (Nat × Nat)} {d : Nat} {sus : Bool} {af af' : AFrame} {fr : Frame} {us : List Nat} (e : zmF g us af = some af') (k : FrameRel P B R d sus h af fr) : z8 R af.tmps fr.tmps := by
 obtain ⟨fn, n, t, todo, ds, mode, kind, round⟩ := af
 simp only [zmF] at e
 split at e
 · cases e
 split at e
 · cases e
 rename_i todo' htodo
 have k9 := k.top
 cases mode with
 | run =>
  change zQ P B R d sus h todo t fr.todo fr.tmps at k9
  cases todo with
  | nil => exact k9.2
  | cons it kk =>
   cases it with
   | drw a b c => exact absurd rfl (kR htodo _ List.mem_cons_self a b c)
   | _ => exact k9.2
 | returning => exact k9
 | panicking c => exact k9
theorem w6 {l : List (Nat × Nat × List Nat)} {i : Nat} {j : Nat} {t : Option Nat} (e : (xo l)[i]? = some (j, t)) : (l.map (·.1))[i]? = some j ∧ t = none := by
 unfold xo at e
 rw [List.getElem?_map] at e ⊢
 cases hl : l[i]? with
 | none => rw [hl] at e; cases e
 | some p => rw [hl] at e; cases e; exact ⟨rfl, rfl⟩
theorem zc1 {l : List (Nat × Nat × List Nat)} {i : Nat} {j : Nat} (e : (l.map (·.1))[i]? = some j) : (xo l)[i]? = some (j, none) := by
 unfold xo
 rw [List.getElem?_map] at e ⊢
 cases hl : l[i]? with
 | none => rw [hl] at e; cases e
 | some p => rw [hl] at e; cases e; rfl
theorem wg {g : Nat → Nat → Option (Nat × Nat)} {f : Nat → Nat} {objs' : T AObj} : ∀ {n i : Nat} {acc r : T AObj}, qb g f objs' n i acc = some r → (∀ a b, i ≤ a → i ≤ b → a < i + n → b < i + n → f a = f b → a = b) → ∀ c o2, r.get c = some o2 →
 (∃ a, i ≤ a ∧ a < i + n ∧ f a = c ∧ ∃ o, objs'.get a = some o ∧ zej g none o = some o2) ∨ ((∀ a, i ≤ a → a < i + n → f a ≠ c) ∧ acc.get c = some o2)
 | 0, i, acc, r, e, _, c, o2, hc => by cases e; exact .inr ⟨fun a h1 h2 => by omega, hc⟩
 | n + 1, i, acc, r, e, hinj, c, o2, hc => by
  unfold qb at e
  have hinj' : ∀ a b, i + 1 ≤ a → i + 1 ≤ b → a < i + 1 + n → b < i + 1 + n → f a = f b → a = b := fun a b h1 h2 h3 h4 h5 => hinj a b (by omega) (by omega) (by omega) (by omega) h5
  split at e
  · rename_i ho
    rw [T.seq_eq] at e
    rcases wg e hinj' c o2 hc with ⟨a, h1, h2, h3, h4⟩ | ⟨h1, h2⟩
    · exact .inl ⟨a, by omega, by omega, h3, h4⟩
    · rw [T.get_set] at h2
      split at h2
      · cases h2
      · rename_i hne
        refine .inr ⟨fun a g1 g2 => ?_, h2⟩
        by_cases ha : a = i
        · subst ha; exact fun hh => hne hh.symm
        · exact h1 a (by omega) (by omega)
  · rename_i o ho
    split at e
    · cases e
    · rename_i o' ho'
      rw [T.seq_eq] at e
      rcases wg e hinj' c o2 hc with ⟨a, h1, h2, h3, h4⟩ | ⟨h1, h2⟩
      · exact .inl ⟨a, by omega, by omega, h3, h4⟩
      · rw [T.get_set] at h2
        split at h2
        · rename_i hce
          cases h2
          exact .inl ⟨i, Nat.le_refl _, by omega, hce.symm, o, ho, ho'⟩
        · rename_i hne
          refine .inr ⟨fun a g1 g2 => ?_, h2⟩
          by_cases ha : a = i
          · subst ha; exact fun hh => hne hh.symm
          · exact h1 a (by omega) (by omega)
theorem qg {g : Nat → Nat → Option (Nat × Nat)} {f : Nat → Nat} {objs' : T AObj} : ∀ {n i : Nat} {acc r : T AObj}, qb g f objs' n i acc = some r → ∀ c, (∀ a, i ≤ a → a < i + n → f a ≠ c) → r.get c = acc.get c
 | 0, i, acc, r, e, c, _ => by cases e; rfl
 | n + 1, i, acc, r, e, c, hc => by
  unfold qb at e
  have hne := hc i (Nat.le_refl _) (by omega)
  split at e
  · rw [T.seq_eq] at e
    rw [qg e c (fun a h1 h2 => hc a (by omega) (by omega)), T.get_set, if_neg (fun h => hne h.symm)]
  · split at e
    · cases e
    · rw [T.seq_eq] at e
      rw [qg e c (fun a h1 h2 => hc a (by omega) (by omega)), T.get_set, if_neg (fun h => hne h.symm)]
theorem xd.live {i : Nat} {o : AObj} (k : xd P R w i o) : ∃ r L, R i r = some L := by
 cases o with
 | cells c n el lo hi nv fz sg ex =>
  obtain ⟨a1, a2, a3, a4, a5⟩ := k
  obtain ⟨L, h1, _⟩ := a4 hi n a1 (Nat.le_refl _) (by simp [zJ])
  exact ⟨hi, L, h1⟩
 | map es clock => obtain ⟨L, es', h1, _⟩ := k; exact ⟨0, L, h1⟩
 | iter s p => obtain ⟨L, h1, _⟩ := k; exact ⟨0, L, h1⟩
 | loop lp => obtain ⟨L, lp', h1, _⟩ := k; exact ⟨0, L, h1⟩
 | dfrd ds => obtain ⟨L, ds', h1, _⟩ := k; exact ⟨0, L, h1⟩
 | ro c lo n => obtain ⟨L, cs, el, fz, h1, _⟩ := k; exact ⟨0, L, h1⟩
theorem zai {objs' : T AObj} : ∀ {n i a : Nat} {o : AObj} {f : Nat → Option AV}, i ≤ a → a < i + n → objs'.get a = some o → f ∈ zmX o → f ∈ zaY objs' n i
 | 0, i, a, o, f, h1, h2, _, _ => by omega
 | n + 1, i, a, o, f, h1, h2, ho, hf => by
  unfold zaY
  by_cases ha : a = i
  · subst ha
    rw [ho]
    exact List.mem_append_left _ hf
  · have := zai (n := n) (i := i + 1) (by omega) (by omega) ho hf
    split
    · exact this
    · exact List.mem_append_right _ this
def zda (B : Base) (R : Bij) (w : World) (σ : List Nat) (tb : Tab) : Env := { w with
 own := fun b => ∃ j ∈ σ, ¬ B.ro j ∧ ∃ r L, R j r = some L ∧ L.block = b
 rob := fun b => ∃ j ∈ σ, B.ro j ∧ ∃ r L, R j r = some L ∧ L.block = b
 pin := tb.re R }
def zeB (B : Base) (R : Bij) (w : World) (σ : List Nat) (tb : Tab) : Base := ⟨zda B R w σ tb, fun i => ∃ j, σ[i]? = some j ∧ B.ro j, fun _ => none, fun _ => (0, 0)⟩
theorem zmB (kh : HRel P B R h w) (hroom : B.n ≤ w.heap.size) {l : List (Nat × Nat × List Nat)} {h0 : AHeap} (hn : ji (l.map (·.1)) = true) (hlive : ∀ q ∈ l, ∃ r L, R q.1 r = some L) (e : jh (xo l) h = some h0)
 (hp : ∀ f ∈ zlA h.objs (xo l), zb f) : HRel P (zeB B R w (l.map (·.1)) (xo l)) ((xo l).re R) h0 w := by
 obtain ⟨objs, next, glob⟩ := h
 simp only [jh] at e
 cases hlt : ((xo l).all fun p => Nat.blt p.1 next) with
 | false => rw [hlt] at e; cases e
 | true =>
  rw [hlt] at e
  simp only [cond_true] at e
  split at e
  · cases e
  rename_i objs' hobjs
  cases e
  have hget := vG (n := 0) hobjs (fun q o' g => by cases g) (fun q => by rw [Nat.zero_add])
  have hsome := wy hobjs
  have hre : ∀ {i r L}, (xo l).re R i r = some L → ∃ j, (l.map (·.1))[i]? = some j ∧ R j r = some L := by
   intro i r L e
   unfold Tab.re at e
   split at e
   · cases e
   · rename_i j hi; exact ⟨j, (w6 hi).1, e⟩
   · rename_i j t hi; cases (w6 hi).2
  have hmem : ∀ {i j : Nat}, (l.map (·.1))[i]? = some j → j ∈ l.map (·.1) := fun hi => List.mem_of_getElem? hi
  have hpend : ∀ {j : Nat}, j ∈ l.map (·.1) → B.pend j = none := fun hj => by
   obtain ⟨q, hq, rfl⟩ := List.mem_map.1 hj
   obtain ⟨r, L, hL⟩ := hlive q hq
   exact kh.live hL
  have hmay : ∀ b, (zeB B R w (l.map (·.1)) (xo l)).may b → B.may b := by
   rintro b (h1 | ⟨j, _, hj, r, L, hL, rfl⟩)
   · exact .inl (Nat.le_trans hroom h1)
   · exact (kh.place j r L hL).1.elim id fun h => absurd h hj
  refine ⟨fun i hi r => ?_, fun i o' eo _ => ?_, (fun i o e => by cases e), fun i r L e => ?_, fun i hi => ?_, fun i hi => rfl, fun i r L hi e => ?_, fun b _ => rfl, fun i r L e => e, fun i r i' r' L L' e e' hbl hor => ?_, fun i r r' L L' e e' hbl => ?_, fun g c e => ?_⟩
  · have : (xo l)[i]? = none := List.getElem?_eq_none hi
    simp only [Tab.re, this]
  · obtain ⟨j, t, o, q1, q2, q3⟩ := hget i o' eo
    obtain ⟨q4, rfl⟩ := w6 q1
    exact zcQ ((xo l).ok R) (fun _ r => by simp only [Tab.re, q1]) (fun t0 ht r => by cases ht) q3 (fun f hf => hp f (zb0 hsome q1 q2 hf)) (kh.obj j o q2 (hpend (hmem q4)))
  · obtain ⟨j, q1, q2⟩ := hre e
    refine ⟨?_, (kh.place j r L q2).2⟩
    by_cases hr : B.ro j
    · exact .inr ⟨j, q1, hr⟩
    · exact .inl (.inr ⟨j, hmem q1, hr, r, L, q2, rfl⟩)
  · obtain ⟨j, q1, q2⟩ := hi
    refine ⟨by have := (List.getElem?_eq_some_iff.1 (zc1 q1)).1; exact this, fun o' eo => ?_⟩
    obtain ⟨j', t', o, p1, p2, p3⟩ := hget i o' eo
    obtain ⟨p4, rfl⟩ := w6 p1
    rw [q1] at p4; cases p4
    have := (kh.rd j q2).2 o p2
    cases o with
    | ro c lo n => simp only [zej] at p3; cases p3; rfl
    | _ => cases this
  · obtain ⟨j, q1, q2⟩ := hi
    obtain ⟨j', p1, p2⟩ := hre e
    rw [q1] at p1; cases p1
    exact ⟨j, hmem q1, q2, r, L, p2, rfl⟩
  · obtain ⟨j, q1, q2⟩ := hre e
    obtain ⟨j', q1', q2'⟩ := hre e'
    have := kh.apart j r j' r' L L' q2 q2' hbl (hor.imp (fun hn hr => hn ⟨j, q1, hr⟩) (fun hn hr => hn ⟨j', q1', hr⟩))
    subst this
    exact yV hn q1 q1'
  · obtain ⟨j, q1, q2⟩ := hre e
    obtain ⟨j', q1', q2'⟩ := hre e'
    rw [q1] at q1'; cases q1'
    exact kh.same j r r' L L' q2 q2' hbl
  · obtain ⟨g1, g2⟩ := kh.glob g c e
    exact ⟨fun hm => g1 (hmay g hm), g2⟩
def jD (σ : List Nat) (next : Nat) (R R' : Bij) : Bij := fun c r => match (σ.map fun j => ((j, none) : Nat × Option Nat)) |> fun tb => Tab.find tb c with
 | some (i, _) => R' i r
 | none => if next ≤ c then R' (σ.length + (c - next)) r else R c r
theorem zkp {σ : List Nat} {c i : Nat} {t : Option Nat} (e : Tab.find (σ.map fun j => (j, none)) c = some (i, t)) : σ[i]? = some c := by
 have := (wY e).2
 simp only [Nat.sub_zero, List.getElem?_map] at this
 cases hs : σ[i]? with
 | none => rw [hs] at this; cases this
 | some x => rw [hs] at this; cases this; rfl
theorem zeX {c : Nat} : ∀ {σ : List Nat} {i k : Nat}, ji σ = true → σ[i]? = some c → ze8 c (σ.map fun j => ((j, none) : Nat × Option Nat)) k = some (k + i, none)
 | [], i, k, _, e => by simp at e
 | j :: r, i, k, hn, e => by
  cases i with
  | zero =>
   simp at e; subst e
   simp [ze8, Nat.beq_refl]
  | succ i =>
   have hne : j ≠ c := fun h => by
    subst h
    have := yV hn (p := 0) (q := i + 1) (j := j) (by simp) e
    omega
   have hb : Nat.beq j c = false := by
    cases hb : Nat.beq j c with
    | false => rfl
    | true => exact absurd (Nat.eq_of_beq_eq_true hb) hne
   have hn' : ji r = true := by simp only [ji, Bool.and_eq_true] at hn; exact hn.2
   have := zeX (σ := r) (i := i) (k := k + 1) hn' (by simpa using e)
   simp only [List.map_cons, ze8, hb, cond_false]
   rw [this]
   congr 2
   omega
theorem zjd {σ : List Nat} {c : Nat} (e : Tab.find (σ.map fun j => ((j, none) : Nat × Option Nat)) c = none) (hn : ji σ = true) : c ∉ σ := by
 intro hc
 obtain ⟨i, hi, he⟩ := List.getElem_of_mem hc
 have := zeX (σ := σ) (i := i) (k := 0) hn (by rw [List.getElem?_eq_getElem hi, he])
 unfold Tab.find at e
 rw [this] at e
 cases e
noncomputable def xA (B B' : Base) (σ : List Nat) (next : Nat) (h2 : AHeap) : Base := { B with
 pend := fun c => match Tab.find (σ.map fun j => ((j, none) : Nat × Option Nat)) c with
  | some _ => none
  | none => if next ≤ c then (match B'.pend (σ.length + (c - next)) with
   | none => none
   | some _ => h2.get c) else B.pend c
 ro := fun c => match Tab.find (σ.map fun j => ((j, none) : Nat × Option Nat)) c with
  | some (i, _) => B'.ro i
  | none => if next ≤ c then B'.ro (σ.length + (c - next)) else B.ro c }
theorem zgR {keep : Nat} {f0 : FuncId} {Q : AV → AHeap → Prop} {l : List (Nat × Nat × List Nat)} {us : List Nat} {v : AV} {H : AHeap} {m : AM} {K : AM → Prop} (e : zme P l us v H m K) (hK : ∀ m, K m → zg P keep f0 Q m) : zg P keep f0 Q m := by
 intro w0 base fr cs w hk s
 obtain ⟨a, rest, h⟩ := m
 unfold zme at e
 simp only at e
 split at e
 · exact e.elim
 rename_i c r
 split at e
 rotate_left
 · exact e.elim
 rename_i hkind
 split at e
 rotate_left
 · exact e.elim
 rename_i hcm
 split at e
 · exact e.elim
 rename_i m' hm'
 split at e
 · exact e.elim
 rename_i v2 hv2
 split at e
 · exact e.elim
 rename_i h2 hh2
 obtain ⟨hp1, e⟩ := qc e
 obtain ⟨hp2, hspec, hgo⟩ := qc e
 obtain ⟨B, R, fs, rfl, hb, kh, ho, kt, kb⟩ := s
 obtain ⟨f, fs', rfl, kf, kr⟩ := kb
 have hroom : B.n ≤ w.heap.size := by show B.env.heap.size ≤ _; rw [hb]; exact ho.size
 unfold locM at hm'
 cases hn : (ji (l.map (·.1)) && zhF h a.tmps l) with
 | false => rw [hn] at hm'; cases hm'
 | true =>
 rw [hn] at hm'
 rw [Bool.and_eq_true] at hn
 obtain ⟨hnd, hled⟩ := hn
 simp only [cond_true] at hm'
 split at hm'
 · cases hm'
 rename_i h0 hh0
 split at hm'
 · cases hm'
 rename_i a0 ha0
 cases hm'
 generalize hσ : l.map (·.1) = σ at *
 have hlen : l.length = σ.length := by rw [← hσ]; simp
 have hlive := zbG kh (zgQ ha0 kt) hled
 have hloc := zmB kh hroom (by rw [hσ]; exact hnd) hlive hh0 hp1
 rw [hσ] at hloc
 obtain ⟨fr', w', B', R', v0, v', h', s1, s2, s3, s4, s5, s6, s7, rfl, rfl⟩ := hspec (zda B R w σ (xo l)) (f :: fs' ++ base) fr (f :: fs' ++ base) w
  (fun i r L e => by
   have : i < (xo l).length := by
    unfold zda at e
    simp only [Tab.re] at e
    split at e
    · cases e
    · rename_i j hi; exact (List.getElem?_eq_some_iff.1 hi).1
    · rename_i j t hi; exact (List.getElem?_eq_some_iff.1 hi).1
   simpa [xo] using this)
  ⟨zeB B R w σ (xo l), (xo l).re R, [], rfl, rfl, hloc, ⟨rfl, rfl, rfl, Nat.le_refl _, Nat.le_refl _⟩, jR ((xo l).ok R) ha0 kt, rfl⟩
 have hold : OldX (zda B R w σ (xo l)) w' := s7.all s5 s6
 have hpin : ∀ i r L, (xo l).re R i r = some L → R' i r = some L := fun i r L e => s6.pin i r L (by rw [s5]; exact e)
 have hσget : ∀ {i j : Nat}, σ[i]? = some j → (xo l)[i]? = some (j, none) := fun hi => zc1 (by rw [hσ]; exact hi)
 have hpinσ : ∀ {i j : Nat}, σ[i]? = some j → ∀ r L, R j r = some L → R' i r = some L := fun hi r L e => hpin _ r L (by simp only [Tab.re, hσget hi]; exact e)
 have hσlt : ∀ {j : Nat}, j ∈ σ → j < h.next := fun hj => by
  rw [← hσ] at hj
  obtain ⟨q, hq, rfl⟩ := List.mem_map.1 hj
  obtain ⟨r, L, hL⟩ := hlive q hq
  rcases Nat.lt_or_ge q.1 h.next with h1 | h1
  · exact h1
  · rw [kh.fresh _ h1] at hL; cases hL
 have hσpend : ∀ {j : Nat}, j ∈ σ → B.pend j = none := fun hj => by
  rw [← hσ] at hj
  obtain ⟨q, hq, rfl⟩ := List.mem_map.1 hj
  obtain ⟨r, L, hL⟩ := hlive q hq
  exact kh.live hL
 have hσpend' : ∀ {i j : Nat}, σ[i]? = some j → B'.pend i = none := fun hi => by
  have hj := List.mem_of_getElem? hi
  rw [← hσ] at hj
  obtain ⟨q, hq, hqj⟩ := List.mem_map.1 hj
  obtain ⟨r, L, hL⟩ := hlive q hq
  rw [hqj] at hL
  exact s6.live (hpinσ hi r L hL)
 have hfind : ∀ c, (∃ i, σ[i]? = some c ∧ Tab.find (σ.map fun j => ((j, none) : Nat × Option Nat)) c = some (i, none)) ∨ (c ∉ σ ∧ Tab.find (σ.map fun j => ((j, none) : Nat × Option Nat)) c = none) := by
  intro c
  cases hc : Tab.find (σ.map fun j => ((j, none) : Nat × Option Nat)) c with
  | none => exact .inr ⟨zjd hc hnd, rfl⟩
  | some p =>
   obtain ⟨i, t⟩ := p
   have hi := zkp hc
   have := zeX (k := 0) hnd hi
   unfold Tab.find at hc
   rw [this, Nat.zero_add] at hc
   cases hc
   exact .inl ⟨i, hi, rfl⟩
 have hble : σ.length ≤ h'.next ∧ ∃ objs, qb (ziR σ h.next) (vO σ h.next) h'.objs h'.next 0 h.objs = some objs ∧ h2 = ⟨objs, h.next + (h'.next - σ.length), h.glob⟩ := by
  unfold znj at hh2
  cases hbl : Nat.ble σ.length h'.next with
  | false => rw [hbl] at hh2; cases hh2
  | true =>
   rw [hbl] at hh2
   simp only [cond_true] at hh2
   split at hh2
   · cases hh2
   · rename_i objs hobjs; cases hh2; exact ⟨Nat.le_of_ble_eq_true hbl, objs, hobjs, rfl⟩
 obtain ⟨hkn, objs2, hobjs2, rfl⟩ := hble
 have hFσ : ∀ {i j : Nat}, σ[i]? = some j → vO σ h.next i = j := fun hi => by simp only [vO, hi]
 have hFn : ∀ {i : Nat}, σ.length ≤ i → vO σ h.next i = h.next + (i - σ.length) := fun hi => by simp only [vO, List.getElem?_eq_none hi]
 have hFinj : ∀ a b, 0 ≤ a → 0 ≤ b → a < 0 + h'.next → b < 0 + h'.next → vO σ h.next a = vO σ h.next b → a = b := by
  intro a b _ _ _ _ hab
  rcases Nat.lt_or_ge a σ.length with h1 | h1 <;> rcases Nat.lt_or_ge b σ.length with h3 | h3
  · have e1 := List.getElem?_eq_getElem h1
    have e2 := List.getElem?_eq_getElem h3
    rw [hFσ e1, hFσ e2] at hab
    rw [← hab] at e2
    exact yV hnd e1 e2
  · have e1 := List.getElem?_eq_getElem h1
    rw [hFσ e1, hFn h3] at hab
    have := hσlt (List.mem_of_getElem? e1)
    omega
  · have e2 := List.getElem?_eq_getElem h3
    rw [hFn h1, hFσ e2] at hab
    have := hσlt (List.mem_of_getElem? e2)
    omega
  · rw [hFn h1, hFn h3] at hab; omega
 have hget := wg hobjs2 hFinj
 have hR2σ : ∀ {i c r}, σ[i]? = some c → jD σ h.next R R' c r = R' i r := fun hi => by
  rcases hfind _ with ⟨i', h1, h3⟩ | ⟨h1, _⟩
  · have := yV hnd hi h1
    subst this
    simp only [jD, h3]
  · exact absurd (List.mem_of_getElem? hi) h1
 have hR2n : ∀ {i r}, σ.length ≤ i → jD σ h.next R R' (h.next + (i - σ.length)) r = R' i r := fun {i r} hi => by
  rcases hfind (h.next + (i - σ.length)) with ⟨i', h1, h3⟩ | ⟨h1, h3⟩
  · have := hσlt (List.mem_of_getElem? h1); omega
  · simp only [jD, h3]
    rw [if_pos (by omega)]
    congr 1
    omega
 have hR2o : ∀ {c r}, c ∉ σ → c < h.next → jD σ h.next R R' c r = R c r := fun {c r} h1 h3 => by
  rcases hfind c with ⟨i', h4, _⟩ | ⟨_, h4⟩
  · exact absurd (List.mem_of_getElem? h4) h1
  · simp only [jD, h4]
    rw [if_neg (by omega)]
 have hR2F : ∀ i r, jD σ h.next R R' (vO σ h.next i) r = R' i r := fun i r => by
  rcases Nat.lt_or_ge i σ.length with h1 | h1
  · have e1 := List.getElem?_eq_getElem h1
    rw [hFσ e1, hR2σ e1]
  · rw [hFn h1, hR2n h1]
 have hren : zjY (ziR σ h.next) R' (jD σ h.next R R') := fun i r j r' e L hL => by
  simp only [ziR, Option.some.injEq, Prod.mk.injEq] at e
  obtain ⟨rfl, rfl⟩ := e
  rw [hR2F]; exact hL
 have hparts : ∀ c, (c ∉ σ ∧ c < h.next) ∨ ∃ i, vO σ h.next i = c ∧ (c ∈ σ ∨ h.next ≤ c) := by
  intro c
  by_cases hc : c ∈ σ
  · obtain ⟨i, hi, he⟩ := List.getElem_of_mem hc
    exact .inr ⟨i, hFσ (by rw [List.getElem?_eq_getElem hi, he]), .inl hc⟩
  · rcases Nat.lt_or_ge c h.next with h1 | h1
    · exact .inl ⟨hc, h1⟩
    · exact .inr ⟨σ.length + (c - h.next), by rw [hFn (by omega)]; omega, .inr h1⟩
 have hnot : ∀ {c i}, c ∉ σ → c < h.next → vO σ h.next i ≠ c := fun {c i} h1 h3 he => by
  rcases Nat.lt_or_ge i σ.length with h4 | h4
  · have e1 := List.getElem?_eq_getElem h4
    rw [hFσ e1] at he
    exact h1 (he ▸ List.mem_of_getElem? e1)
  · rw [hFn h4] at he; omega
 have hleR : R.le (jD σ h.next R R') := fun c r L e => by
  have hc : c < h.next := by
   rcases Nat.lt_or_ge c h.next with h1 | h1
   · exact h1
   · rw [kh.fresh c h1] at e; cases e
  by_cases hcσ : c ∈ σ
  · obtain ⟨i, hi, he⟩ := List.getElem_of_mem hcσ
    have e1 : σ[i]? = some c := by rw [List.getElem?_eq_getElem hi, he]
    rw [hR2σ e1]; exact hpinσ e1 r L e
  · rw [hR2o hcσ hc]; exact e
 have howned : ∀ b, (zda B R w σ (xo l)).own b → B.may b := by
  rintro b ⟨j, _, hj, r0, L, hL, rfl⟩
  exact (kh.place j r0 L hL).1.elim id fun h => absurd h hj
 have hsame : ∀ {c r0 L}, c ∉ σ → R c r0 = some L → w'.heap[L.block]? = w.heap[L.block]? := fun {c r0 L} hc hL => by
  refine hold.other _ (kh.place c r0 L hL).2 ?_
  rintro ⟨j, hj, hjr, r1, M, hM, hbl⟩
  have := kh.apart j r1 c r0 M L hM hL hbl (.inl hjr)
  exact hc (this ▸ hj)
 have hmay : ∀ {i r0 L}, R' i r0 = some L → ¬ B'.ro i → B.may L.block := fun {i r0 L} hL hr => by
  have := (s6.place i r0 L hL).1.elim id fun h => absurd h hr
  rcases this with h1 | h1
  · refine .inl (Nat.le_trans hroom ?_)
    have : B'.env.heap.size ≤ L.block := h1
    rw [s5] at this
    exact this
  · rw [s5] at h1
    exact howned _ h1
 have hrob : ∀ {i r0 L}, R' i r0 = some L → B'.ro i → ∃ j ∈ σ, B.ro j ∧ ∃ r1 M, R j r1 = some M ∧ M.block = L.block := fun {i r0 L} hL hr => by
  have := s6.rol i r0 L hr hL
  rw [s5] at this
  obtain ⟨j, h1, h3, r1, M, h4, h5⟩ := this
  exact ⟨j, h1, h3, r1, M, h4, h5⟩
 have hroF : ∀ i, (xA B B' σ h.next ⟨objs2, h.next + (h'.next - σ.length), h.glob⟩).ro (vO σ h.next i) = B'.ro i := fun i => by
  rcases Nat.lt_or_ge i σ.length with h1 | h1
  · have e1 := List.getElem?_eq_getElem h1
    rw [hFσ e1]
    rcases hfind σ[i] with ⟨i', h3, h4⟩ | ⟨h3, _⟩
    · have := yV hnd e1 h3
      subst this
      simp only [xA, h4]
    · exact absurd (List.mem_of_getElem? e1) h3
  · rw [hFn h1]
    rcases hfind (h.next + (i - σ.length)) with ⟨i', h3, _⟩ | ⟨_, h4⟩
    · have := hσlt (List.mem_of_getElem? h3); omega
    · simp only [xA, h4]
      rw [if_pos (by omega)]
      congr 1
      omega
 have hroO : ∀ c, c ∉ σ → c < h.next → (xA B B' σ h.next ⟨objs2, h.next + (h'.next - σ.length), h.glob⟩).ro c = B.ro c := fun c h1 h3 => by
  rcases hfind c with ⟨i', h4, _⟩ | ⟨_, h4⟩
  · exact absurd (List.mem_of_getElem? h4) h1
  · simp only [xA, h4]
    rw [if_neg (by omega)]
 have hpendσ : ∀ c, c ∈ σ → (xA B B' σ h.next ⟨objs2, h.next + (h'.next - σ.length), h.glob⟩).pend c = none := fun c h1 => by
  rcases hfind c with ⟨i', _, h4⟩ | ⟨h4, _⟩
  · simp only [xA, h4]
  · exact absurd h1 h4
 have hpendO : ∀ c, c ∉ σ → c < h.next → (xA B B' σ h.next ⟨objs2, h.next + (h'.next - σ.length), h.glob⟩).pend c = B.pend c := fun c h1 h3 => by
  rcases hfind c with ⟨i', h4, _⟩ | ⟨_, h4⟩
  · exact absurd (List.mem_of_getElem? h4) h1
  · simp only [xA, h4]
    rw [if_neg (by omega)]
 have hpendN : ∀ c, h.next ≤ c → (xA B B' σ h.next ⟨objs2, h.next + (h'.next - σ.length), h.glob⟩).pend c = (match B'.pend (σ.length + (c - h.next)) with
  | none => none
  | some _ => (⟨objs2, h.next + (h'.next - σ.length), h.glob⟩ : AHeap).get c) := fun c h1 => by
  rcases hfind c with ⟨i', h3, _⟩ | ⟨_, h4⟩
  · have := hσlt (List.mem_of_getElem? h3); omega
  · simp only [xA, h4]
    rw [if_pos h1]
 have hH : HRel P (xA B B' σ h.next ⟨objs2, h.next + (h'.next - σ.length), h.glob⟩) (jD σ h.next R R') ⟨objs2, h.next + (h'.next - σ.length), h.glob⟩ w' := by
  refine ⟨fun c hc r0 => ?_, fun c o2 eo hpe => ?_, fun c o2 e => ?_, fun c r0 L e => ?_, fun c hc => ?_, fun c hc => ?_, fun c r0 L hc e => ?_, fun b hbm => ?_, fun c r0 L e => ?_, fun c r0 c' r0' L L' e e' hbl hor => ?_, fun c r0 r0' L L' e e' hbl => ?_, fun g cc e => ?_⟩
  ·
   have hc : h.next + (h'.next - σ.length) ≤ c := hc
   have : jD σ h.next R R' c r0 = R' (σ.length + (c - h.next)) r0 := by
    have := hR2n (i := σ.length + (c - h.next)) (r := r0) (by omega)
    rwa [show h.next + (σ.length + (c - h.next) - σ.length) = c by omega] at this
   rw [this]
   exact s6.fresh _ (by omega) r0
  ·
   rcases hget c o2 eo with ⟨i, _, hi, hic, o, ho1, ho2⟩ | ⟨hno, hold2⟩
   · subst hic
     have hpi : B'.pend i = none := by
      rcases Nat.lt_or_ge i σ.length with h1 | h1
      · exact hσpend' (List.getElem?_eq_getElem h1)
      · rw [hFn h1, hpendN _ (by omega)] at hpe
        rw [show σ.length + (h.next + (i - σ.length) - h.next) = i by omega] at hpe
        cases hb : B'.pend i with
        | none => rfl
        | some o0 =>
         rw [hb] at hpe
         simp only at hpe
         rw [hFn h1] at eo
         rw [eo] at hpe
         cases hpe
     exact zcQ hren (fun _ r => hR2F i r) (fun t0 ht => by cases ht) ho2 (fun f hf => hp2 f (zai (Nat.zero_le _) hi ho1 hf)) (s6.obj i o ho1 hpi)
   · rcases hparts c with ⟨h1, h3⟩ | ⟨i, hic, h3⟩
     · rw [hpendO c h1 h3] at hpe
       exact (kh.obj c o2 hold2 hpe).mono hleR (fun r => hR2o h1 h3) (fun r L hL => hsame h1 hL)
     · exfalso
       rcases h3 with h3 | h3
       · obtain ⟨i', hi', he⟩ := List.getElem_of_mem h3
         exact hno i' (Nat.zero_le _) (by omega) (hFσ (by rw [List.getElem?_eq_getElem hi', he]))
       · have hold2 : h.get c = some o2 := hold2
         have hpc : B.pend c = none := by
          cases hb : B.pend c with
          | none => rfl
          | some o0 => exact absurd (kh.pend c o0 hb).1 (Nat.not_lt.2 h3)
         obtain ⟨r1, L, hL⟩ := (kh.obj c o2 hold2 hpc).live
         rw [kh.fresh c h3] at hL
         cases hL
  ·
   by_cases hc : c ∈ σ
   · rw [hpendσ c hc] at e; cases e
   · rcases Nat.lt_or_ge c h.next with h1 | h1
     · rw [hpendO c hc h1] at e
       obtain ⟨g1, g2, g3⟩ := kh.pend c o2 e
       refine ⟨by show c < h.next + _; omega, ?_, fun r0 => by rw [hR2o hc h1]; exact g3 r0⟩
       exact (qg hobjs2 c fun a _ _ => hnot hc h1).trans g2
     · rw [hpendN c h1] at e
       cases hb : B'.pend (σ.length + (c - h.next)) with
       | none => rw [hb] at e; cases e
       | some o0 =>
        rw [hb] at e
        simp only at e
        obtain ⟨g1, g2, g3⟩ := s6.pend _ o0 hb
        refine ⟨by show c < h.next + _; omega, e, fun r0 => ?_⟩
        have := hR2n (i := σ.length + (c - h.next)) (r := r0) (by omega)
        rw [show h.next + (σ.length + (c - h.next) - σ.length) = c by omega] at this
        rw [this]; exact g3 r0
  ·
   rcases hparts c with ⟨h1, h3⟩ | ⟨i, rfl, _⟩
   · rw [hR2o h1 h3] at e
     refine ⟨?_, Nat.lt_of_lt_of_le (kh.place c r0 L e).2 s7.size⟩
     rw [hroO c h1 h3]
     exact (kh.place c r0 L e).1
   · rw [hR2F] at e
     refine ⟨?_, (s6.place i r0 L e).2⟩
     rw [hroF]
     by_cases hr : B'.ro i
     · exact .inr hr
     · exact .inl (hmay e hr)
  ·
   rcases hparts c with ⟨h1, h3⟩ | ⟨i, rfl, h3⟩
   · rw [hroO c h1 h3] at hc
     refine ⟨by show c < h.next + _; omega, fun o2 eo => ?_⟩
     rcases hget c o2 eo with ⟨i, _, hi, hic, _⟩ | ⟨_, hold2⟩
     · exact absurd hic (hnot h1 h3)
     · exact (kh.rd c hc).2 o2 hold2
   · rw [hroF] at hc
     obtain ⟨g1, g2⟩ := s6.rd i hc
     refine ⟨?_, fun o2 eo => ?_⟩
     · show vO σ h.next i < h.next + (h'.next - σ.length)
       rcases Nat.lt_or_ge i σ.length with h4 | h4
       · have e1 := List.getElem?_eq_getElem h4
         rw [hFσ e1]
         have := hσlt (List.mem_of_getElem? e1)
         omega
       · rw [hFn h4]; omega
     · rcases hget _ o2 eo with ⟨i', _, hi', hic, o, ho1, ho2⟩ | ⟨hno, _⟩
       · have := hFinj i' i (Nat.zero_le _) (Nat.zero_le _) hi' (by omega) hic
         subst this
         have := g2 o ho1
         cases o with
         | ro c lo n => simp only [zej] at ho2; cases ho2; rfl
         | _ => cases this
       · exact absurd rfl (hno i (Nat.zero_le _) (by omega))
  ·
   by_cases hcσ : c ∈ σ
   · exact hpendσ c hcσ
   · rcases Nat.lt_or_ge c h.next with h1 | h1
     · rw [hroO c hcσ h1] at hc
       rw [hpendO c hcσ h1]
       exact kh.rp c hc
     · have hF : vO σ h.next (σ.length + (c - h.next)) = c := by rw [hFn (by omega)]; omega
       have := hroF (σ.length + (c - h.next))
       rw [hF] at this
       rw [this] at hc
       rw [hpendN c h1, s6.rp _ hc]
  ·
   rcases hparts c with ⟨h1, h3⟩ | ⟨i, rfl, _⟩
   · rw [hroO c h1 h3] at hc
     rw [hR2o h1 h3] at e
     exact kh.rol c r0 L hc e
   · rw [hroF] at hc
     rw [hR2F] at e
     obtain ⟨j, _, hj, r1, M, hM, hbl⟩ := hrob e hc
     rw [← hbl]
     exact kh.rol j r1 M hj hM
  ·
   have hbm' : ¬ B.may b := hbm
   have hlt := Nat.lt_of_lt_of_le (Base.low_lt hbm') hroom
   exact (hold.other b hlt (fun h => hbm' (howned b h))).trans (kh.low b hbm')
  · exact hleR _ _ _ (kh.pin c r0 L e)
  ·
   have cross : ∀ {c r0 L i r1 M}, c ∉ σ → c < h.next → R c r0 = some L → R' i r1 = some M → L.block = M.block → (¬ B.ro c ∨ ¬ B'.ro i) → False := by
    intro c r0 L i r1 M h1 h3 hL hM hbl hor
    by_cases hr : B'.ro i
    · obtain ⟨j, hj, hjr, r2, N, hN, hbN⟩ := hrob hM hr
      have := kh.apart c r0 j r2 L N hL hN (hbl.trans hbN.symm) (.inl (hor.resolve_right (fun h => h hr)))
      exact h1 (this ▸ hj)
    · have := (s6.place i r1 M hM).1.elim id fun h => absurd h hr
      rcases this with h4 | h4
      · have h4 : B'.env.heap.size ≤ M.block := h4
        rw [s5] at h4
        have h4 : w.heap.size ≤ M.block := h4
        have := (kh.place c r0 L hL).2
        omega
      · rw [s5] at h4
        obtain ⟨j, hj, hjr, r2, N, hN, hbN⟩ := h4
        have := kh.apart c r0 j r2 L N hL hN (hbl.trans hbN.symm) (.inr hjr)
        exact h1 (this ▸ hj)
   rcases hparts c with ⟨h1, h3⟩ | ⟨i, rfl, _⟩ <;> rcases hparts c' with ⟨h1', h3'⟩ | ⟨i', rfl, _⟩
   · rw [hR2o h1 h3] at e
     rw [hR2o h1' h3'] at e'
     rw [hroO c h1 h3, hroO c' h1' h3'] at hor
     exact kh.apart c r0 c' r0' L L' e e' hbl hor
   · rw [hR2o h1 h3] at e
     rw [hR2F] at e'
     rw [hroO c h1 h3, hroF] at hor
     exact (cross h1 h3 e e' hbl hor).elim
   · rw [hR2F] at e
     rw [hR2o h1' h3'] at e'
     rw [hroO c' h1' h3', hroF] at hor
     exact (cross h1' h3' e' e hbl.symm hor.symm).elim
   · rw [hR2F] at e e'
     rw [hroF, hroF] at hor
     rw [s6.apart i r0 i' r0' L L' e e' hbl hor]
  ·
   rcases hparts c with ⟨h1, h3⟩ | ⟨i, rfl, _⟩
   · rw [hR2o h1 h3] at e e'
     exact kh.same c r0 r0' L L' e e' hbl
   · rw [hR2F] at e e'
     exact s6.same i r0 r0' L L' e e' hbl
  ·
   obtain ⟨g1, cs, el, fz, g2, g3⟩ := kh.glob g cc e
   refine ⟨g1, cs, el, fz, (hold.other g (xq g2) (fun h => g1 (howned g h))).trans g2, g3⟩
 have hkeep : B.keeps (xA B B' σ h.next ⟨objs2, h.next + (h'.next - σ.length), h.glob⟩) (r.length + 1) := ⟨rfl, fun id ob e _ => by
  have h1 : id ∉ σ := fun hm => by rw [hσpend hm] at e; cases e
  have h3 := (kh.pend id ob e).1
  exact ⟨by rw [hpendO id h1 h3]; exact e, rfl⟩⟩
 obtain ⟨c', q1, q2⟩ := vZ hgo
 have hsim : Sim P w0 base ⟨c', r, ⟨objs2, h.next + (h'.next - σ.length), h.glob⟩⟩ (f.finish v') (fs' ++ base) w' :=
  ⟨xA B B' σ h.next ⟨objs2, h.next + (h'.next - σ.length), h.glob⟩, jD σ h.next R R', fs', rfl, hb, hH, ⟨s7.os.trans ho.os, s7.tape.trans ho.tape, s7.output.trans ho.output, Nat.le_trans ho.size s7.size, Nat.le_trans ho.drawn s7.drawn⟩,
   xH (kf.mono (h' := h) hleR hkeep (Nat.lt_succ_self _)) hcm q1 (qe hren 99 _ _ _ hv2 s4), kr.mono hleR hkeep (Nat.le_succ _)⟩
 obtain ⟨fr2, w2, B2, R2, v3, v3', h3, t1, t2⟩ := hK _ q2 w0 base _ _ w' hk hsim
 exact ⟨fr2, w2, B2, R2, v3, v3', h3, s1.trans (.head (ziY s2) t1), t2⟩
end
end Go.Proofs.YtdbfpjgnlfejmaaDoor.Ev
end
section
namespace Go.Proofs.YtdbfpjgnlfejmaaDoor.Ev
open Go
noncomputable section
variable (P : Program)
def zeH (c : T AV) (off n : Nat) (f : Nat → Option AV) : T AV := .fn fun k => bif Nat.ble off k && Nat.blt k (off + n) then f (k - off) else c.get k
def zdJ (h : AHeap) (id ver off n size : Nat) : Option ((Nat → Option AV) × Prop) := match h.get id with
 | some (.ro c lo m) => bif Nat.beq ver 0 then some (fun k => c.get (off + k), (lo ≤ off ∧ off + n * size ≤ m) ∧ ∀ k, k < n * size → ∃ v, c.get (off + k) = some v ∧ AV.one v = true) else none
 | some (.cells c m _ lo hi _ _ _ ex) => match zJ ex m hi ver with
  | none => none
  | some e => bif Nat.ble lo ver && Nat.ble ver hi then some (fun k => c.get (off + k), off + n * size ≤ e ∧ ∀ k, k < n * size → ∃ v, c.get (off + k) = some v ∧ AV.one v = true) else none
 | _ => none
def jS (h : AHeap) (size n : Nat) (x : AV) : Option ((Nat → Option AV) × Prop) := match x with
 | .str s => bif Nat.beq size 1 then some (fun k => some (.int .u8 (s.getD k 0).toNat), n ≤ s.length) else none
 | .slc id ver off _ _ => zdJ h id ver off n size
 | .slg id ver off _ _ => zdJ h id ver off n size
 | _ => none
def srcW (h : AHeap) (size bytes : Nat) (z : AV) (zeros : Bool) (x : AV) : Option (Nat × (Nat → Option AV) × Prop) := match zeros with
 | true => match x with
  | .int _ l => bif Nat.beq size 1 then some (l.toNat, fun _ => z.cells.head?, (0 ≤ l ∧ l < 2 ^ 40) ∧ l.toNat * bytes ≤ 2 ^ 48) else none
  | _ => none
 | false => match zay x with
  | none => none
  | some n => match jS h size n x with
   | none => none
   | some (f, p) => some (n, f, p)
def zf1 (h : AHeap) (size id ver off sLen cap n : Nat) (f : Nat → Option AV) (p : Prop) : Option (AR × Prop) := match h.get id with
 | some (.cells c m el lo hi nv fz sg ex) => match zJ ex m hi ver with
  | none => none
  | some e => bif Nat.ble lo ver && Nat.ble ver hi then
   some (.val (.slc id ver off (sLen + n) cap) (h.put id (.cells (zeH c (off + sLen * size) (n * size) f) e el ver ver nv fz sg ex)),
    p ∧ sLen + n ≤ cap ∧ off + sLen * size + n * size ≤ e ∧ fz ≤ off + sLen * size ∧ match Nat.beq lo ver && Nat.beq hi ver with
     | true => True
     | false => 0 < n)
   else none
 | _ => none
def zlg (h : AHeap) (el : TypeId) (bytes size n : Nat) (f : Nat → Option AV) (p : Prop) : Option (AR × Prop) :=
 some (.val (.slg h.next 0 0 n 0) (h.new (.cells (.fn f) (n * size) el 0 0 1 0 false .leaf)), p ∧ 0 < n ∧ x9 n bytes = true)
def zle (h : AHeap) (el : TypeId) (bytes size id ver off sLen cap n : Nat) (f : Nat → Option AV) (p : Prop) : Option (AR × Prop) := match zdJ h id ver off sLen size with
 | none => none
 | some (g, q) => some (.val (.slg h.next 0 0 (sLen + n) 0) (h.new (.cells (.fn fun k => bif Nat.blt k (sLen * size) then g k else f (k - sLen * size)) (sLen * size + n * size) el 0 0 1 0 false .leaf)),
  p ∧ q ∧ 0 < n ∧ cap < sLen + n ∧ x9 (sLen + n) bytes = true)
def znW (h : AHeap) (el : TypeId) (bytes size id ver off sLen st n : Nat) (f : Nat → Option AV) (p : Prop) : Option (AR × Prop) := match h.get id with
 | some (.cells c m el' lo hi nv fz sg ex) => match zJ ex m hi ver with
  | none => none
  | some e => bif Nat.ble lo ver && Nat.ble ver hi && Nat.beq el' el && Nat.blt hi nv then
   some (.val (.slg id nv off (sLen + n) st) (h.put id (.cells (zeH c (off + sLen * size) (n * size) f) (off + sLen * size + n * size) el nv nv (nv + 1) fz sg ex)),
    p ∧ 0 < n ∧ off + sLen * size ≤ e ∧ fz ≤ off + sLen * size ∧ off = st * size ∧ x9 (sLen + n) bytes = true ∧ e < off + (sLen + n) * size)
   else none
 | _ => none
def zld (h : AHeap) (el : TypeId) (size id ver off sLen st n : Nat) (f : Nat → Option AV) (p : Prop) : Option (AR × Prop) := match h.get id with
 | some (.cells c m el' lo hi nv fz sg ex) => match zJ ex m hi ver with
  | none => none
  | some e => bif Nat.ble lo ver && Nat.ble ver hi && Nat.beq el' el then
   some (.val (.slg id ver off (sLen + n) st) (h.put id (.cells (zeH c (off + sLen * size) (n * size) f) e el' ver ver nv fz sg ex)),
    p ∧ 0 < n ∧ off + (sLen + n) * size ≤ e ∧ off + sLen * size + n * size ≤ e ∧ fz ≤ off + sLen * size ∧ off = st * size)
   else none
 | _ => none
def zfh (moved : Bool) (h : AHeap) (t : TypeId) (zeros : Bool) (s x : AV) : Option (AR × Prop) := match P.underlying t with
 | some (.slice el) => match P.info? el with
  | none => none
  | some i => match wJ P el with
   | none => none
   | some z => match Nat.blt 0 i.size && Nat.beq z.cells.length i.size && z.cells.all AV.one with
    | false => none
    | true => match srcW h i.size i.bytes z zeros x with
     | none => none
     | some (n, f, p) => match s with
      | .nils 0 0 => zlg h el i.bytes i.size n f p
      | .slc id ver off sLen cap => match moved with
       | false => zf1 h i.size id ver off sLen cap n f p
       | true => zle h el i.bytes i.size id ver off sLen cap n f p
      | .slg id ver off sLen st => match moved with
       | false => znW h el i.bytes i.size id ver off sLen st n f p
       | true => zld h el i.size id ver off sLen st n f p
      | _ => none
 | _ => none
def w7 (h : AHeap) (id ver off : Nat) (n : Nat) (f : Nat → Option AV) (r : AHeap → AR) (p : Prop) : Option (AR × Prop) := match h.get id with
 | some (.cells c m el lo hi nv fz sg ex) => match zJ ex m hi ver with
  | none => none
  | some e => bif Nat.ble lo ver && Nat.ble ver hi then
   some (r (h.put id (.cells (zeH c off n f) e el ver ver nv fz sg ex)), p ∧ off + n ≤ e ∧ fz ≤ off)
   else none
 | _ => none
def putW (h : AHeap) (id ver off : Nat) (v : AV) : Option (AR × Prop) := match h.get id with
 | some (.cells c m el lo hi nv fz sg ex) => match zJ ex m hi ver with
  | none => none
  | some e => bif Nat.ble lo ver && Nat.ble ver hi then
   some (.skip (h.put id (.cells (.fn fun k => bif Nat.beq k off then some v else c.get k) e el ver ver nv fz sg ex)), off + 1 ≤ e ∧ fz ≤ off)
   else none
 | _ => none
def zcR (h : AHeap) (t : TypeId) (p v : AV) : Option (AR × Prop) := match p with
 | .ptr id ver off => match P.info? t with
  | none => none
  | some i => match Nat.beq v.cells.length i.size && v.cells.all AV.one with
   | false => none
   | true => match v.cells with
    | [x] => putW h id ver off x
    | l => w7 h id ver off l.length (fun k => l[k]?) .skip True
 | _ => none
def zma (h : AHeap) (t : TypeId) (dst src : AV) : Option (AR × Prop) := match P.underlying t with
 | some (.slice el) => match yt P el with
  | none => none
  | some s => match xK dst with
   | none => none
   | some dn => match zay src with
    | none => none
    | some sn => match jS h s (Nat.min sn dn) src with
     | none => none
     | some (f, p) => match dst with
      | .slc id ver off _ _ => w7 h id ver off (Nat.min sn dn * s) f (fun h => .val (.int .i64 (Nat.min sn dn : Nat)) h) p
      | .slg id ver off _ _ => w7 h id ver off (Nat.min sn dn * s) f (fun h => .val (.int .i64 (Nat.min sn dn : Nat)) h) p
      | _ => none
 | _ => none
def zlC (h : AHeap) (t : TypeId) (len cap : AV) : Option (AR × Prop) := match P.underlying t with
 | some (.slice el) => match len with
  | .int _ l => match cap with
   | .int _ c => match P.info? el with
    | none => none
    | some i => match wJ P el with
     | none => none
     | some z => match Nat.beq i.size 1 && Nat.beq z.cells.length 1 && z.cells.all AV.one with
      | false => none
      | true => some (.val (.slc h.next 0 0 l.toNat c.toNat) (h.new (.cells (.fn fun _ => z.cells.head?) c.toNat el 0 0 1 0 false .leaf)), 0 ≤ l ∧ l ≤ c ∧ c < 2 ^ 40 ∧ i.bytes * c ≤ 2 ^ 48)
   | _ => none
  | _ => none
 | _ => none
def zic (h : AHeap) (t : TypeId) (x : AV) : Option (AR × Prop) := match P.underlying t with
 | some (.slice el) => match wJ P el with
  | none => none
  | some z => match z.cells.all AV.one with
   | false => none
   | true => match x with
    | .slc id ver off n _ => w7 h id ver off (n * z.cells.length) (fun k => z.cells[k % z.cells.length]?) (fun h => .val (.tup []) h) (0 < n)
    | .slg id ver off n _ => w7 h id ver off (n * z.cells.length) (fun k => z.cells[k % z.cells.length]?) (fun h => .val (.tup []) h) (0 < n)
    | _ => none
 | _ => none
def opW (moved : Bool) (ρ : Operand → Option AV) (h : AHeap) (o : Op) : Option (AR × Prop) := match o with
 | .store t a x => zjC ρ a x fun p v => zcR P h t p v
 | .makeSlice t l c => zjC ρ l c fun a b => zlC P h t a b
 | .call c => match qE ρ c.args.toList with
  | none => none
  | some args => match c.callee with
   | .builtin b => match b with
    | .append => match c.argTypes[0]? with
     | none => none
     | some t => match c.argTypes[1]? with
      | none => none
      | some u => match jy P u with
       | none => none
       | some z => match zkM args with
        | none => none
        | some (s, x) => zfh P moved h t z s x
    | .copy => match c.argTypes[0]? with
     | none => none
     | some t => match zkM args with
      | none => none
      | some (d, s) => zma P h t d s
    | .clear => match c.argTypes[0]? with
     | none => none
     | some t => match args with
      | [x] => zic P h t x
      | _ => none
    | _ => none
   | _ => none
 | _ => none
def zid (fr : AFrame) (o : Oper) : Bool := match fr.todo with
 | .drw _ _ _ :: _ => yY P o
 | _ => true
def OpWK [XT P] (moved : Bool) (m : AM) (K : AM → Prop) : Prop := match m with
 | ⟨fr, rest, h⟩ => match fr.mode with
  | .run => match jC fr with
   | none => False
   | some (all, o) => match zW all fr.tmps o.guard with
    | some true => match zid P fr o with
     | false => False
     | true => match opW P moved (ev fr.tmps) h o.op with
      | none => False
      | some (r, p) => p ∧ zjz P fr rest h r K
    | _ => False
  | _ => False
end
section
variable {P : Program}
def wa (P : Program) (id : Nat) (hE hW : AHeap) : Prop := ∃ (oE oW : AObj), hE.get id = some oE ∧ hW.next = hE.next ∧ hW.glob = hE.glob ∧ (∀ i, hW.get i = if i = id then some oW else hE.get i) ∧
 oE.isRo = false ∧ oW.isRo = false ∧ ∀ (R : Bij) (w : World), xd P R w id oE → xd P R w id oW
theorem HRel.less {B : Base} {R : Bij} {w : World} {id : Nat} {hE hW : AHeap} (e : wa P id hE hW) (hp : B.pend id = none) (kh : HRel P B R hE w) : HRel P B R hW w := by
 obtain ⟨o, o', hobj, hnext, hglob, hget, hro, hro', hsw⟩ := e
 refine ⟨fun i hi => kh.fresh i (by rw [← hnext]; exact hi), fun i x eo hpe => ?_, fun i x eo => ?_, kh.place, fun i hi => ⟨by rw [hnext]; exact (kh.rd i hi).1, fun x eo => ?_⟩, kh.rp, kh.rol, kh.low, kh.pin, kh.apart, kh.same, fun g c e => kh.glob g c (by rw [← hglob]; exact e)⟩
 · rw [hget] at eo
   split at eo
   · rename_i hi
     subst hi
     cases eo
     exact hsw R w (kh.obj i _ hobj hpe)
   · exact kh.obj i x eo hpe
 · obtain ⟨h1, h2, h3⟩ := kh.pend i x eo
   refine ⟨by rw [hnext]; exact h1, ?_, h3⟩
   rw [hget, if_neg (fun h => by rw [h, hp] at eo; cases eo)]
   exact h2
 · rw [hget] at eo
   split at eo
   · rename_i hi'
     subst hi'
     cases eo
     have := (kh.rd i hi).2 _ hobj
     rw [hro] at this; cases this
   · exact (kh.rd i hi).2 x eo
theorem wa.put {h : AHeap} {id : Nat} {oE oW : AObj} (h1 : oE.isRo = false) (h2 : oW.isRo = false) (hsw : ∀ (R : Bij) (w : World), xd P R w id oE → xd P R w id oW) : wa P id (h.put id oE) (h.put id oW) := by
 obtain ⟨objs, next, glob⟩ := h
 refine ⟨oE, oW, ?_, rfl, rfl, fun i => ?_, h1, h2, hsw⟩
 · show (objs.set (some oE) id).get id = _
   rw [T.get_set, if_pos rfl]
 · show (objs.set (some oW) id).get i = if i = id then some oW else (objs.set (some oE) id).get i
   rw [T.get_set, T.get_set]
   split <;> rfl
theorem wa.new {h : AHeap} {oE oW : AObj} (h1 : oE.isRo = false) (h2 : oW.isRo = false) (hsw : ∀ (R : Bij) (w : World), xd P R w h.next oE → xd P R w h.next oW) : wa P h.next (h.new oE) (h.new oW) := by
 obtain ⟨objs, next, glob⟩ := h
 refine ⟨oE, oW, ?_, rfl, rfl, fun i => ?_, h1, h2, hsw⟩
 · show (objs.set (some oE) next).get next = _
   rw [T.get_set, if_pos rfl]
 · show (objs.set (some oW) next).get i = if i = next then some oW else (objs.set (some oE) next).get i
   rw [T.get_set, T.get_set]
   split <;> rfl
theorem zbC {i : Nat} {cE cW : T AV} {n : Nat} {el : TypeId} {lo lo' hi nv fz : Nat} {sg : Bool} {ex ex' : T Nat} (hle : ∀ k v, k < n → cW.get k = some v → cE.get k = some v) (h1 : lo ≤ lo') (h2 : lo' ≤ hi)
 (hx : ∀ r e, lo' ≤ r → r ≤ hi → zJ ex' n hi r = some e → zJ ex n hi r = some e) (R : Bij) (w : World) (k : xd P R w i (.cells cE n el lo hi nv fz sg ex)) : xd P R w i (.cells cW n el lo' hi nv fz sg ex') := by
 obtain ⟨a1, a2, a3, a4, a5⟩ := k
 refine ⟨h2, a2, a3, fun r e b1 b2 b3 => ?_, fun r e b1 b2 b3 => a5 r e (Nat.le_trans h1 b1) b2 (hx r e b1 b2 b3)⟩
 have b3' := hx r e b1 b2 b3
 obtain ⟨L, g1, cs, a, b, c1, c2, c3, c4, c5⟩ := a4 r e (Nat.le_trans h1 b1) b2 b3'
 exact ⟨L, g1, cs, a, b, c1, c2, c3, c4, fun q v q1 q2 q3 => c5 q v q1 q2 (hle q v (Nat.lt_of_lt_of_le q1 (a5 r e (Nat.le_trans h1 b1) b2 b3')) q3)⟩
theorem xD {i : Nat} {cE cW : T AV} {n : Nat} {el : TypeId} {lo hi nv fz : Nat} {sg : Bool} {ex : T Nat} (hle : ∀ k v, k < n → cW.get k = some v → cE.get k = some v) (R : Bij) (w : World) (k : xd P R w i (.cells cE n el lo hi nv fz sg ex)) : xd P R w i (.cells cW n el lo hi nv fz sg ex) :=
 zbC hle (Nat.le_refl _) k.1 (fun _ _ _ _ e => e) R w k
def Lives (h : AHeap) (vs : List AV) (id : Nat) : Prop := id = h.next ∨ ∃ v ∈ vs, ks v = some id
def zj0 (P : Program) (h : AHeap) (vs : List AV) (rE r : AR) : Prop := ∃ id, Lives h vs id ∧ ((∃ v hE hW, rE = .val v hE ∧ r = .val v hW ∧ wa P id hE hW) ∨ ∃ hE hW, rE = .skip hE ∧ r = .skip hW ∧ wa P id hE hW)
theorem zbM {c : T AV} {off : Nat} : ∀ {n : Nat} {acc : List AV}, (∀ k, k < n → ∃ v, c.get (off + k) = some v ∧ AV.one v = true) → acc.all AV.one = true → ∃ l, zad c off n acc = some l ∧ l.all AV.one = true
 | 0, acc, _, ha => ⟨acc, rfl, ha⟩
 | n + 1, acc, h, ha => by
  obtain ⟨v, hv, ho⟩ := h n (Nat.lt_succ_self n)
  unfold zad
  rw [hv]
  exact zbM (fun k hk => h k (Nat.lt_succ_of_lt hk)) (by simp [ho, ha])
theorem qL {c : T AV} {off n : Nat} (h : ∀ k, k < n → ∃ v, c.get (off + k) = some v ∧ AV.one v = true) : ∃ l, zM c off n = some l ∧ l.all AV.one = true ∧ l.length = n ∧ ∀ k v, k < n → c.get (off + k) = some v → l[k]? = some v := by
 obtain ⟨l, h1, h2⟩ := zbM (acc := []) h rfl
 obtain ⟨g1, g2⟩ := xf h1
 refine ⟨l, h1, h2, g1, fun k v hk hv => ?_⟩
 have hlt : k < l.length := by omega
 have := g2 k l[k] (List.getElem?_eq_getElem hlt)
 rw [hv] at this
 rw [List.getElem?_eq_getElem hlt]
 exact this.symm
theorem zaT {h : AHeap} {id ver off n size : Nat} {f : Nat → Option AV} {p : Prop} (e : zdJ h id ver off n size = some (f, p)) (hp : p) :
 ∃ l, zo h id ver off (n * size) = some l ∧ l.all AV.one = true ∧ l.length = n * size ∧ ∀ k v, k < n * size → f k = some v → l[k]? = some v := by
 unfold zdJ at e
 unfold zo
 split at e
 · rename_i c lo m ho
   cases hb : Nat.beq ver 0 with
   | false => rw [hb] at e; cases e
   | true =>
    rw [hb] at e
    simp only [cond_true, Option.some.injEq, Prod.mk.injEq] at e
    obtain ⟨rfl, rfl⟩ := e
    obtain ⟨l, h1, h2, h3, h4⟩ := qL hp.2
    refine ⟨l, ?_, h2, h3, h4⟩
    simp only [ho]
    rw [if_pos ⟨Nat.eq_of_beq_eq_true hb, hp.1⟩, h1]
 · rename_i c m el lo hi nv fz sg ex ho
   split at e
   · cases e
   · rename_i e0 he
     cases hb : (Nat.ble lo ver && Nat.ble ver hi) with
     | false => rw [hb] at e; cases e
     | true =>
      rw [hb] at e
      simp only [cond_true, Option.some.injEq, Prod.mk.injEq] at e
      obtain ⟨rfl, rfl⟩ := e
      rw [Bool.and_eq_true] at hb
      obtain ⟨l, h1, h2, h3, h4⟩ := qL hp.2
      refine ⟨l, ?_, h2, h3, h4⟩
      simp only [ho, he]
      rw [if_pos ⟨Nat.le_of_ble_eq_true hb.1, Nat.le_of_ble_eq_true hb.2, hp.1⟩, h1]
 · cases e
theorem vI {h : AHeap} {size n : Nat} {x : AV} {f : Nat → Option AV} {p : Prop} (e : jS h size n x = some (f, p)) (hp : p) :
 ∃ l, qd h size n x = some l ∧ l.all AV.one = true ∧ l.length = n * size ∧ ∀ k v, k < n * size → f k = some v → l[k]? = some v := by
 unfold jS at e
 split at e
 · rename_i s
   cases hb : Nat.beq size 1 with
   | false => rw [hb] at e; cases e
   | true =>
    rw [hb] at e
    simp only [cond_true, Option.some.injEq, Prod.mk.injEq] at e
    obtain ⟨rfl, rfl⟩ := e
    obtain rfl := Nat.eq_of_beq_eq_true hb
    refine ⟨_, rfl, (List.all_eq_true.2 fun x hx => by obtain ⟨b, _, rfl⟩ := List.mem_map.1 hx; rfl), by simp [zw]; omega, fun k v hk hv => ?_⟩
    rw [Nat.mul_one] at hk
    cases hv
    have hs : k < s.length := by omega
    simp [zw, hk, hs]
 · exact zaT e hp
 · exact zaT e hp
 · cases e
theorem wm (v : AV) : ∀ n k, k < n → (zZ [v] n)[k]? = some v
 | 0, k, h => by omega
 | n + 1, 0, _ => rfl
 | n + 1, k + 1, h => by
  show (zZ [v] n)[k]? = _
  exact wm v n k (by omega)
theorem zaj {h : AHeap} {size bytes : Nat} {z : AV} {zeros : Bool} {x : AV} {n : Nat} {f : Nat → Option AV} {p : Prop} (hz : z.cells.length = size) (hz1 : z.cells.all AV.one = true) (e : srcW h size bytes z zeros x = some (n, f, p)) (hp : p) :
 ∃ new, kl h size z zeros x = some (n, new) ∧ new.all AV.one = true ∧ new.length = n * size ∧ (zeros = true → Nat.ble (n * bytes) (2 ^ 48) = true) ∧ ∀ k v, k < n * size → f k = some v → new[k]? = some v := by
 unfold srcW at e
 unfold kl
 split at e
 · split at e
   · rename_i k l
     cases hb : Nat.beq size 1 with
     | false => rw [hb] at e; cases e
     | true =>
      rw [hb] at e
      simp only [cond_true, Option.some.injEq, Prod.mk.injEq] at e
      obtain ⟨rfl, rfl, rfl⟩ := e
      obtain rfl := Nat.eq_of_beq_eq_true hb
      simp only
      refine ⟨_, by rw [if_pos hp.1], zaK hz1 _, by rw [zH, hz], fun _ => Nat.ble_eq_true_of_le hp.2, fun k v hk hv => ?_⟩
      rw [Nat.mul_one] at hk
      match hc : z.cells, hz with
      | [y], _ =>
       rw [hc] at hv
       cases hv
       exact wm _ _ _ hk
   · cases e
 · split at e
   · cases e
   · rename_i n' hn
     split at e
     · cases e
     · rename_i f' p' hf
       cases e
       obtain ⟨l, h1, h2, h3, h4⟩ := vI hf hp
       exact ⟨l, by simp only [hn, h1], h2, h3, fun h => (by cases h), h4⟩
theorem zbT {c : T AV} {off n : Nat} {f : Nat → Option AV} {vs : List AV} (hl : vs.length = n) (hf : ∀ k v, k < n → f k = some v → vs[k]? = some v) (k : Nat) (v : AV) (e : (zeH c off n f).get k = some v) : (zA c off vs).get k = some v := by
 rw [zr, hl]
 change (bif Nat.ble off k && Nat.blt k (off + n) then f (k - off) else c.get k) = some v at e
 cases hb : (Nat.ble off k && Nat.blt k (off + n)) with
 | true =>
  rw [hb] at e
  rw [Bool.and_eq_true] at hb
  have h1 := Nat.le_of_ble_eq_true hb.1
  have h2 : k < off + n := Nat.le_of_ble_eq_true hb.2
  rw [if_pos ⟨h1, h2⟩]
  exact hf _ _ (by omega) e
 | false =>
  rw [hb] at e
  rw [if_neg]
  · exact e
  · rintro ⟨h1, h2⟩
    rw [Nat.ble_eq_true_of_le h1, show Nat.blt k (off + n) = true from Nat.ble_eq_true_of_le h2] at hb
    cases hb
theorem wr {h : AHeap} {id ver off n : Nat} {f : Nat → Option AV} {c : T AV} {m : Nat} {el : TypeId} {lo hi nv fz : Nat} {sg : Bool} {ex : T Nat} {e : Nat} (ho : h.get id = some (.cells c m el lo hi nv fz sg ex)) (he : zJ ex m hi ver = some e) (h1 : lo ≤ ver) (h2 : ver ≤ hi)
 (h3 : off + n ≤ e) (h4 : fz ≤ off) {vs : List AV} (hl : vs.length = n) (ha : vs.all AV.one = true) (hf : ∀ k v, k < n → f k = some v → vs[k]? = some v) :
 zI h id ver off vs = some (h.put id (.cells (zA c off vs) e el ver ver nv fz sg ex)) ∧ wa P id (h.put id (.cells (zA c off vs) e el ver ver nv fz sg ex)) (h.put id (.cells (zeH c off n f) e el ver ver nv fz sg ex)) := by
 refine ⟨?_, .put rfl rfl (xD fun k v _ e => zbT hl hf k v e)⟩
 unfold zI
 rw [ho]
 simp only [he]
 rw [if_pos ⟨h1, h2, by omega, h4, ha⟩, T.seq_eq]
theorem zni {a b c : Nat} (h : (Nat.ble a b && Nat.ble b c) = true) : a ≤ b ∧ b ≤ c := by
 rw [Bool.and_eq_true] at h
 exact ⟨Nat.le_of_ble_eq_true h.1, Nat.le_of_ble_eq_true h.2⟩
theorem v7 {h : AHeap} {id ver off n : Nat} {f : Nat → Option AV} {mk : AHeap → AR} {p0 p : Prop} {r : AR} (e : w7 h id ver off n f mk p0 = some (r, p)) (hp : p) {vs : List AV} (hl : vs.length = n) (ha : vs.all AV.one = true) (hf : ∀ k v, k < n → f k = some v → vs[k]? = some v) :
 ∃ hE hW, zI h id ver off vs = some hE ∧ r = mk hW ∧ wa P id hE hW := by
 unfold w7 at e
 split at e
 rotate_left
 · cases e
 rename_i c m el lo hi nv fz sg ex ho
 split at e
 · cases e
 rename_i e0 he
 cases hb : (Nat.ble lo ver && Nat.ble ver hi) with
 | false => rw [hb] at e; cases e
 | true =>
  rw [hb] at e
  simp only [cond_true, Option.some.injEq, Prod.mk.injEq] at e
  obtain ⟨rfl, rfl⟩ := e
  obtain ⟨b1, b2⟩ := zni hb
  obtain ⟨g1, g2⟩ := wr (P := P) ho he b1 b2 hp.2.1 hp.2.2 hl ha hf
  exact ⟨_, _, g1, rfl, g2⟩
theorem zcU {h : AHeap} {id ver off n : Nat} {f : Nat → Option AV} {mk : AHeap → AR} {p0 p : Prop} {r : AR} (e : w7 h id ver off n f mk p0 = some (r, p)) (hp : p) : p0 := by
 unfold w7 at e
 split at e
 rotate_left
 · cases e
 rename_i c m el lo hi nv fz sg ex ho
 split at e
 · cases e
 rename_i e0 he
 cases hb : (Nat.ble lo ver && Nat.ble ver hi) with
 | false => rw [hb] at e; cases e
 | true =>
  rw [hb] at e
  simp only [cond_true, Option.some.injEq, Prod.mk.injEq] at e
  obtain ⟨rfl, rfl⟩ := e
  exact hp.1
theorem zms {h : AHeap} {id ver off : Nat} {v : AV} {p : Prop} {r : AR} (e : putW h id ver off v = some (r, p)) (hp : p) (ha : AV.one v = true) :
 ∃ hE hW, zI h id ver off [v] = some hE ∧ r = .skip hW ∧ wa P id hE hW := by
 unfold putW at e
 split at e
 rotate_left
 · cases e
 rename_i c m el lo hi nv fz sg ex ho
 split at e
 · cases e
 rename_i e0 he
 cases hb : (Nat.ble lo ver && Nat.ble ver hi) with
 | false => rw [hb] at e; cases e
 | true =>
  rw [hb] at e
  simp only [cond_true, Option.some.injEq, Prod.mk.injEq] at e
  obtain ⟨rfl, rfl⟩ := e
  obtain ⟨b1, b2⟩ := zni hb
  refine ⟨h.put id (.cells (zA c off [v]) e0 el ver ver nv fz sg ex), _, ?_, rfl, .put rfl rfl (xD fun k x _ e => ?_)⟩
  · unfold zI
    rw [ho]
    simp only [he]
    rw [if_pos ⟨b1, b2, hp.1, hp.2, by simp [ha]⟩, T.seq_eq]
  · rw [zr]
    change (bif Nat.beq k off then some v else c.get k) = some x at e
    cases hq : Nat.beq k off with
    | true =>
     rw [hq] at e
     obtain rfl := Nat.eq_of_beq_eq_true hq
     rw [if_pos ⟨Nat.le_refl _, Nat.lt_succ_self _⟩]
     simpa using e
    | false =>
     rw [hq] at e
     rw [if_neg]
     · exact e
     · rintro ⟨h1, h2⟩
       have : k = off := by simp at h2; omega
       rw [this, Nat.beq_refl] at hq
       cases hq
theorem zfe {h : AHeap} {t : TypeId} {a v : AV} {r : AR} {p : Prop} (e : zcR P h t a v = some (r, p)) (hp : p) : ∃ id hE hW, zcZ P h t a v = some hE ∧ r = .skip hW ∧ wa P id hE hW ∧ ks a = some id := by
 unfold zcR at e
 unfold zcZ
 split at e
 rotate_left
 · cases e
 split at e
 · cases e
 rename_i i hi
 split at e
 · cases e
 rename_i hb
 rw [Bool.and_eq_true] at hb
 have hs := Nat.eq_of_beq_eq_true hb.1
 simp only [hi, if_pos hs]
 split at e
 · rename_i x hx
   rw [hx] at hb ⊢
   obtain ⟨hE, hW, g1, g2, g3⟩ := zms (P := P) e hp (by simpa using hb.2)
   exact ⟨_, hE, hW, g1, g2, g3, rfl⟩
 · obtain ⟨hE, hW, g1, g2, g3⟩ := v7 (P := P) e hp rfl hb.2 fun k v _ e => e
   exact ⟨_, hE, hW, g1, g2, g3, rfl⟩
theorem zkk {h : AHeap} {t : TypeId} {d s : AV} {r : AR} {p : Prop} (e : zma P h t d s = some (r, p)) (hp : p) : ∃ id v hE hW, ziw P h t d s = some (v, hE) ∧ r = .val v hW ∧ wa P id hE hW ∧ ks d = some id := by
 unfold zma at e
 unfold ziw
 split at e
 rotate_left
 · cases e
 rename_i el hu
 simp only [hu]
 unfold zhx
 split at e
 · cases e
 rename_i sz hsz
 split at e
 · cases e
 rename_i dn hdn
 split at e
 · cases e
 rename_i sn hsn
 split at e
 · cases e
 rename_i f p' hf
 simp only [hsz, hdn, hsn]
 split at e
 · obtain ⟨l, h1, h2, h3, h4⟩ := vI hf (zcU e hp)
   obtain ⟨hE, hW, g1, g2, g3⟩ := v7 (P := P) e hp h3 h2 h4
   simp only [h1, zfV, g1]
   exact ⟨_, _, _, hW, rfl, g2, g3, rfl⟩
 · obtain ⟨l, h1, h2, h3, h4⟩ := vI hf (zcU e hp)
   obtain ⟨hE, hW, g1, g2, g3⟩ := v7 (P := P) e hp h3 h2 h4
   simp only [h1, zfV, g1]
   exact ⟨_, _, _, hW, rfl, g2, g3, rfl⟩
 · cases e
theorem zcT {vs : List AV} {n : Nat} {f : Nat → Option AV} (hl : vs.length = n) (hf : ∀ k v, k < n → f k = some v → vs[k]? = some v) (k : Nat) (v : AV) (hk : k < n) (e : (T.fn f).get k = some v) : (zA .leaf 0 vs).get k = some v := by
 rw [zr, if_pos ⟨Nat.zero_le _, by omega⟩, Nat.sub_zero]
 exact hf k v hk e
theorem zjD {h : AHeap} {t : TypeId} {a b : AV} {r : AR} {p : Prop} (e : zlC P h t a b = some (r, p)) (hp : p) : ∃ v hE hW, xI P h t a b = some (v, hE) ∧ r = .val v hW ∧ wa P h.next hE hW := by
 unfold zlC at e
 unfold xI
 split at e
 rotate_left
 · cases e
 rename_i el hu
 split at e
 rotate_left
 · cases e
 split at e
 rotate_left
 · cases e
 rename_i k1 l k2 c
 split at e
 · cases e
 rename_i i hi
 split at e
 · cases e
 rename_i z hz
 split at e
 · cases e
 rename_i hb
 rw [Bool.and_eq_true, Bool.and_eq_true] at hb
 cases e
 have h1 := Nat.eq_of_beq_eq_true hb.1.1
 have h2 := Nat.eq_of_beq_eq_true hb.1.2
 have hlen : (zZ z.cells c.toNat).length = c.toNat := by rw [zH, h2, Nat.mul_one]
 refine ⟨_, xV h el (zZ z.cells c.toNat) false, _, ?_, rfl, ?_⟩
 · simp only [hu, qA, hi, hz]
   rw [if_pos ⟨hp.1, hp.2.1, hp.2.2.1, hp.2.2.2, by omega, by omega, hb.2⟩]
 · unfold xV
   rw [hlen]
   refine .new rfl rfl (xD fun k v hk e => zcT hlen (fun k v hk e => ?_) k v hk e)
   match hc : z.cells, h2 with
   | [y], _ =>
    rw [hc] at e
    cases e
    exact wm _ _ _ hk
theorem zj4 {h : AHeap} {id : Nat} {o : AObj} (e : h.get id = some o) : h.put id o = h := by
 obtain ⟨objs, next, glob⟩ := h
 show AHeap.mk (objs.set (some o) id) next glob = _
 rw [T.set_same' e]
theorem zgX {moved : Bool} {h : AHeap} {t : TypeId} {zeros : Bool} {s x : AV} {r : AR} {p : Prop} (e : zfh P moved h t zeros s x = some (r, p)) (hp : p) : ∃ id v hE hW, wo P h t zeros s x = some (v, hE) ∧ r = .val v hW ∧ wa P id hE hW ∧ (id = h.next ∨ ks s = some id) := by
 unfold zfh at e
 unfold wo
 split at e
 rotate_left
 · cases e
 rename_i el hu
 simp only [hu]
 unfold zcj
 split at e
 · cases e
 rename_i i hi
 split at e
 · cases e
 rename_i z hz
 split at e
 · cases e
 rename_i hb
 rw [Bool.and_eq_true, Bool.and_eq_true] at hb
 have hs0 : 0 < i.size := Nat.le_of_ble_eq_true hb.1.1
 have hz1 := Nat.eq_of_beq_eq_true hb.1.2
 split at e
 · cases e
 rename_i n f q hsrc
 simp only [hi, hz]
 split at e
 ·
  unfold zlg at e
  cases e
  obtain ⟨new, h1, h2, h3, h4, h5⟩ := zaj hz1 hb.2 hsrc hp.1
  simp only [xK, h1]
  rw [if_pos ⟨hs0, hz1, hb.2, h2, h3, h4⟩]
  obtain ⟨n, rfl⟩ : ∃ k, n = k + 1 := ⟨n - 1, by have := hp.2.1; omega⟩
  simp only [y9, yg, Nat.zero_add, qd]
  rw [if_pos hp.2.2, if_pos ⟨rfl, by simp⟩]
  refine ⟨_, _, _, _, rfl, rfl, ?_, .inl rfl⟩
  unfold xV
  rw [List.nil_append, h3]
  exact .new rfl rfl (xD fun k v hk e => zcT h3 h5 k v hk e)
 · rename_i id ver off sLen cap
   split at e
   ·
    unfold zf1 at e
    split at e
    rotate_left
    · cases e
    rename_i c m el' lo hi' nv fz sg ex ho
    split at e
    · cases e
    rename_i e0 he
    cases hb' : (Nat.ble lo ver && Nat.ble ver hi') with
    | false => rw [hb'] at e; cases e
    | true =>
     rw [hb'] at e
     simp only [cond_true, Option.some.injEq, Prod.mk.injEq] at e
     obtain ⟨rfl, rfl⟩ := e
     obtain ⟨b1, b2⟩ := zni hb'
     obtain ⟨p1, p2, p3, p4, p5⟩ := hp
     obtain ⟨new, h1, h2, h3, h4, h5⟩ := zaj hz1 hb.2 hsrc p1
     simp only [xK, h1]
     rw [if_pos ⟨hs0, hz1, hb.2, h2, h3, h4⟩]
     cases n with
     | zero =>
      have hv : lo = ver ∧ hi' = ver := by
       revert p5
       cases hq : (Nat.beq lo ver && Nat.beq hi' ver) with
       | true =>
        intro _
        rw [Bool.and_eq_true] at hq
        exact ⟨Nat.eq_of_beq_eq_true hq.1, Nat.eq_of_beq_eq_true hq.2⟩
       | false => exact fun h => absurd h (Nat.lt_irrefl 0)
      obtain ⟨rfl, rfl⟩ := hv
      have hm : m = e0 := by
       unfold zJ at he
       rw [if_pos rfl] at he
       exact Option.some.inj he
      subst hm
      simp only [qs]
      rw [if_pos (by omega)]
      refine ⟨id, _, _, _, rfl, rfl, ?_, .inr rfl⟩
      have hl : wa P id (h.put id (.cells c m el' hi' hi' nv fz sg ex)) (h.put id (.cells (zeH c (off + sLen * i.size) (0 * i.size) f) m el' hi' hi' nv fz sg ex)) := by
       refine .put rfl rfl (xD fun k v _ e => ?_)
       have := zbT (vs := []) (by simp) (fun k v hk => by simp at hk) k v e
       rwa [zA] at this
      rwa [zj4 ho] at hl
     | succ n =>
      obtain ⟨g1, g2⟩ := wr (P := P) ho he b1 b2 p3 p4 h3 h2 h5
      simp only [y9, if_pos p2, zb3, g1]
      exact ⟨_, _, _, _, rfl, rfl, g2, .inr rfl⟩
   ·
    unfold zle at e
    split at e
    · cases e
    rename_i g q' hrow
    cases e
    obtain ⟨p1, p2, p3, p4, p5⟩ := hp
    obtain ⟨new, h1, h2, h3, h4, h5⟩ := zaj hz1 hb.2 hsrc p1
    obtain ⟨old, o1, o2, o3, o4⟩ := zaT hrow p2
    simp only [xK, h1]
    rw [if_pos ⟨hs0, hz1, hb.2, h2, h3, h4⟩]
    obtain ⟨n, rfl⟩ : ∃ k, n = k + 1 := ⟨n - 1, by omega⟩
    simp only [y9, if_neg (Nat.not_le.2 p4), yg, qd, o1]
    rw [if_pos p5, if_pos ⟨o2, o3⟩]
    refine ⟨_, _, _, _, rfl, rfl, ?_, .inl rfl⟩
    unfold xV
    rw [List.length_append, o3, h3]
    refine .new rfl rfl (xD fun k v hk e => zcT (by rw [List.length_append, o3, h3]) (fun k v hk e => ?_) k v hk e)
    cases hq : Nat.blt k (sLen * i.size) with
    | true =>
     rw [hq] at e
     have hlt : k < sLen * i.size := Nat.le_of_ble_eq_true hq
     rw [List.getElem?_append_left (by omega)]
     exact o4 k v hlt e
    | false =>
     rw [hq] at e
     have hge : ¬ k < sLen * i.size := fun h => by rw [show Nat.blt k (sLen * i.size) = true from Nat.ble_eq_true_of_le h] at hq; cases hq
     rw [List.getElem?_append_right (by omega), o3]
     exact h5 _ v (by omega) e
 · rename_i id ver off sLen st
   split at e
   ·
    unfold znW at e
    split at e
    rotate_left
    · cases e
    rename_i c m el' lo hi' nv fz sg ex ho
    split at e
    · cases e
    rename_i e0 he
    cases hb' : (Nat.ble lo ver && Nat.ble ver hi' && Nat.beq el' el && Nat.blt hi' nv) with
    | false => rw [hb'] at e; cases e
    | true =>
     rw [hb'] at e
     simp only [cond_true, Option.some.injEq, Prod.mk.injEq] at e
     obtain ⟨rfl, rfl⟩ := e
     rw [Bool.and_eq_true, Bool.and_eq_true] at hb'
     obtain ⟨⟨hb1, hb2⟩, hb3⟩ := hb'
     obtain ⟨b1, b2⟩ := zni hb1
     have b3 := Nat.eq_of_beq_eq_true hb2
     have b4 : hi' < nv := Nat.le_of_ble_eq_true hb3
     obtain ⟨p1, p2, p3, p4, p5, p6, p7⟩ := hp
     obtain ⟨new, h1, h2, h3, h4, h5⟩ := zaj hz1 hb.2 hsrc p1
     simp only [xK, h1]
     rw [if_pos ⟨hs0, hz1, hb.2, h2, h3, h4⟩]
     obtain ⟨n, rfl⟩ : ∃ k, n = k + 1 := ⟨n - 1, by omega⟩
     have hkn : yd h el i.size id ver off st sLen (sLen + (n + 1)) new = none := by
      simp only [yd, ho, he]
      rw [if_neg (fun hc => by have := hc.1; omega)]
     simp only [y9, hkn]
     simp only [wL, ho, he]
     rw [if_pos ⟨b1, b2, p3, p4, b3, p5, b4, p6⟩]
     split
     · rename_i hc
       rw [T.seq_eq, T.seq_eq]
       refine ⟨id, _, _, _, rfl, rfl, ?_, .inr rfl⟩
       rw [h3]
       refine .put rfl rfl (zbC (fun k v _ e => zbT h3 h5 k v e) (by omega) (Nat.le_refl _) fun r e q1 q2 q3 => ?_)
       obtain rfl : r = nv := by omega
       unfold zJ at q3 ⊢
       rw [if_pos rfl] at q3 ⊢
       exact q3
     · rw [T.seq_eq]
       refine ⟨id, _, _, _, rfl, rfl, ?_, .inr rfl⟩
       rw [h3]
       exact .put rfl rfl (xD fun k v _ e => zbT h3 h5 k v e)
   ·
    unfold zld at e
    split at e
    rotate_left
    · cases e
    rename_i c m el' lo hi' nv fz sg ex ho
    split at e
    · cases e
    rename_i e0 he
    cases hb' : (Nat.ble lo ver && Nat.ble ver hi' && Nat.beq el' el) with
    | false => rw [hb'] at e; cases e
    | true =>
     rw [hb'] at e
     simp only [cond_true, Option.some.injEq, Prod.mk.injEq] at e
     obtain ⟨rfl, rfl⟩ := e
     rw [Bool.and_eq_true] at hb'
     obtain ⟨hb1, hb2⟩ := hb'
     obtain ⟨b1, b2⟩ := zni hb1
     obtain rfl := Nat.eq_of_beq_eq_true hb2
     obtain ⟨p1, p2, p3, p4, p5, p6⟩ := hp
     obtain ⟨new, h1, h2, h3, h4, h5⟩ := zaj hz1 hb.2 hsrc p1
     simp only [xK, h1]
     rw [if_pos ⟨hs0, hz1, hb.2, h2, h3, h4⟩]
     obtain ⟨n, rfl⟩ : ∃ k, n = k + 1 := ⟨n - 1, by omega⟩
     obtain ⟨g1, g2⟩ := wr (P := P) ho he b1 b2 p4 p5 h3 h2 h5
     simp only [y9, yd, ho, he]
     rw [if_pos ⟨p3, b1, b2, trivial, p6⟩]
     simp only [g1]
     exact ⟨id, _, _, _, rfl, rfl, g2, .inr rfl⟩
 · cases e
theorem zhV {h : AHeap} {t : TypeId} {x : AV} {r : AR} {p : Prop} (e : zic P h t x = some (r, p)) (hp : p) : ∃ id hE hW, zdN P h t x = some hE ∧ r = .val (.tup []) hW ∧ wa P id hE hW ∧ ks x = some id := by
 unfold zic at e
 split at e
 rotate_left
 · cases e
 rename_i el hu
 split at e
 · cases e
 rename_i z hz
 split at e
 · cases e
 rename_i ha
 have hez : qG P t = some z := by unfold qG; rw [hu]; exact hz
 have key : ∀ {id ver off n : Nat}, w7 h id ver off (n * z.cells.length) (fun k => z.cells[k % z.cells.length]?) (fun h => .val (.tup []) h) (0 < n) = some (r, p) →
  ∃ hE hW, vA h (qG P t) id ver off n = some hE ∧ r = .val (.tup []) hW ∧ wa P id hE hW := by
  intro id ver off n e
  obtain ⟨hE, hW, g1, g2, g3⟩ := v7 (P := P) e hp (vs := zZ z.cells n) (zH _ _) (zaK ha n) (fun k v hk hf => by rw [vp _ _ _ hk]; exact hf)
  have hn := zcU e hp
  obtain ⟨m, rfl⟩ : ∃ m, n = m + 1 := ⟨n - 1, by omega⟩
  refine ⟨hE, hW, ?_, g2, g3⟩
  unfold vA
  rw [hez]
  exact g1
 unfold zdN
 simp only [hu]
 split at e
 · rename_i id ver off n c
   obtain ⟨hE, hW, g1, g2, g3⟩ := key e
   exact ⟨id, hE, hW, g1, g2, g3, rfl⟩
 · rename_i id ver off n c
   obtain ⟨hE, hW, g1, g2, g3⟩ := key e
   exact ⟨id, hE, hW, g1, g2, g3, rfl⟩
 · cases e
def zbJ (ρ : Operand → Option AV) (o : Op) : List AV := o.operands.toList.filterMap ρ
theorem zbN {ρ : Operand → Option AV} {o : Op} {x : Operand} {v : AV} (hx : x ∈ o.operands) (hv : ρ x = some v) : v ∈ zbJ ρ o :=
 List.mem_filterMap.2 ⟨x, by simpa using hx, hv⟩
theorem zaf {ρ : Operand → Option AV} {c : Call} {args : List AV} (ha : qE ρ c.args.toList = some args) {v : AV} (hv : v ∈ args) : v ∈ zbJ ρ (.call c) := by
 obtain ⟨h1, h2⟩ := wd ha
 obtain ⟨i, hi, rfl⟩ := List.getElem_of_mem hv
 have hlt : i < c.args.toList.length := by omega
 obtain ⟨b, hb1, hb2⟩ := h2 i _ (List.getElem?_eq_getElem hlt)
 rw [List.getElem?_eq_getElem hi] at hb1
 cases hb1
 refine zbN (x := c.args.toList[i]) ?_ hb2
 show _ ∈ c.operands
 unfold Call.operands
 exact Array.mem_append.2 (.inr (by simp))
theorem znU {moved : Bool} {ρ : Operand → Option AV} {h : AHeap} {o : Op} {r : AR} {p : Prop} (e : opW P moved ρ h o = some (r, p)) (hp : p) : (∀ c, o ≠ .defer c) ∧ ∃ rE, opA P ρ h o = some rE ∧ zj0 P h (zbJ ρ o) rE r := by
 unfold opW at e
 split at e
 · rename_i t a x
   unfold zjC at e
   split at e
   · cases e
   rename_i v1 h1
   split at e
   · cases e
   rename_i v2 h2
   obtain ⟨id, hE, hW, g1, g2, g3, g4⟩ := zfe e hp
   refine ⟨fun c h => (by cases h), .skip hE, ?_, id, .inr ⟨v1, zbN (x := a) (by simp [Op.operands]) h1, g4⟩, .inr ⟨_, _, rfl, g2, g3⟩⟩
   show jW P t a x ρ h = _
   simp only [jW, two, h1, h2, g1, zfk]
 · rename_i t l c
   unfold zjC at e
   split at e
   · cases e
   rename_i v1 h1
   split at e
   · cases e
   rename_i v2 h2
   obtain ⟨v, hE, hW, g1, g2, g3⟩ := zjD e hp
   refine ⟨fun c h => (by cases h), .val v hE, ?_, _, .inl rfl, .inl ⟨_, _, _, rfl, g2, g3⟩⟩
   show xn P t l c ρ h = _
   simp only [xn, two, h1, h2, g1, zbH]
 · rename_i c
   refine ⟨fun c h => (by cases h), ?_⟩
   split at e
   · cases e
   rename_i args ha
   split at e
   rotate_left
   · cases e
   rename_i b hc
   show ∃ rE, zcO P c ρ h = some rE ∧ _
   simp only [zcO, x8, ha, hc]
   split at e
   · split at e
     · cases e
     rename_i t ht
     split at e
     · cases e
     rename_i u hu
     split at e
     · cases e
     rename_i z hz
     split at e
     · cases e
     rename_i s x hx
     obtain ⟨id, v, hE, hW, g1, g2, g3, g4⟩ := zgX e hp
     refine ⟨.val v hE, ?_, id, g4.imp (fun h => h) (fun h => ⟨s, zaf ha (by rw [wM hx]; simp), h⟩), .inl ⟨_, _, _, rfl, g2, g3⟩⟩
     simp only [yD, qw, yA, zbY, ht, hu, hz, hx, g1, zbH]
   · split at e
     · cases e
     rename_i t ht
     split at e
     · cases e
     rename_i d s hx
     obtain ⟨id, v, hE, hW, g1, g2, g3, g4⟩ := zkk e hp
     refine ⟨.val v hE, ?_, id, .inr ⟨d, zaf ha (by rw [wM hx]; simp), g4⟩, .inl ⟨_, _, _, rfl, g2, g3⟩⟩
     simp only [yD, qw, yA, zjR, ht, hx, g1, zbH]
   · split at e
     · cases e
     rename_i t ht
     split at e
     rotate_left
     · cases e
     rename_i x
     obtain ⟨id, hE, hW, g1, g2, g3, g4⟩ := zhV e hp
     refine ⟨.val (.tup []) hE, ?_, id, .inr ⟨x, zaf ha (by simp), g4⟩, .inl ⟨_, _, _, rfl, g2, g3⟩⟩
     simp only [yD, qw, yA, zfP, zdZ, ht, g1, zg4]
   · cases e
 · cases e
theorem xM.less {B : Base} {R : Bij} {h : AHeap} {w : World} {s : Sem Next} {ρ : Operand → Option AV} {ρ' : Operand → Value} {o : Op} {rE r : AR} (k : HRel P B R h w) (hρ : ∀ x ∈ o.operands, ∀ v, ρ x = some v → zl R v (ρ' x)) (hl : zj0 P h (zbJ ρ o) rE r) (e : xM P B R w s rE) : xM P B R w s r := by
 obtain ⟨id, hid, hl⟩ := hl
 have hp : B.pend id = none := by
  cases hb : B.pend id with
  | none => rfl
  | some x =>
   obtain ⟨h1, _, h3⟩ := k.pend id x hb
   rcases hid with rfl | ⟨v, hv, hd⟩
   · exact absurd h1 (Nat.lt_irrefl _)
   · obtain ⟨y, hy, hyv⟩ := List.mem_filterMap.1 hv
     obtain ⟨r, L, hL⟩ := vE (hρ y (by simpa using hy) v hyv) hd
     rw [h3 r] at hL
     cases hL
 rcases hl with ⟨v, hE, hW, rfl, rfl, hless⟩ | ⟨hE, hW, rfl, rfl, hless⟩
 · obtain ⟨R', v', w', r1, r2, r3, r4⟩ := e
   exact ⟨R', v', w', r1, r2, r3.less hless hp, r4⟩
 · obtain ⟨R', w', r1, r3, r4⟩ := e
   exact ⟨R', w', r1, r3.less hless hp, r4⟩
end
section
variable {P : Program} {w0 : Env} {base : List Frame} {B : Base} {R : Bij} {af : AFrame} {rest : List AFrame} {h : AHeap} {fr : Frame} {fs : List Frame} {w : World}
theorem zdS [XT P] [XTOk P] (k : Wait P w0 base B R af rest h fr fs w) {ops : Array Oper} {i : Nat} {s' : List Nat} {k' : List Item} (ht : fr.todo = .inRegion ops (i :: s') :: k') {o : Oper} (ho : ops[i]? = some o)
 (hops : ∀ x ∈ o.op.operands, ∀ v, ev af.tmps x = some v → zl R v (fr.eval x))
 (hgu : ∀ g b q u v, o.guard = some (g, b) → ops[g]? = some q → q.dst = some u → af.tmps.get u = some v → ∃ x, fr.tmps[u]? = some x ∧ zl R v x)
 (hwt : zW ops.toList af.tmps o.guard = some true) (hnd : ∀ c, o.op ≠ .defer c) {rE r : AR} (hE : opA P (ev af.tmps) h o.op = some rE) (hl : zj0 P h (zbJ (ev af.tmps) o.op) rE r)
 {m : AM} (e : zk4 P af rest h r = some m) : zcm P w0 base m fr (fs ++ base) w := by
 have hm := wrun k
 have hw := jm hwt hgu
 have hop := xM.less k.heap hops hl (zgd k.heap k.room hops hE)
 have hoper : (stepG P true { frame := fr, callers := fs ++ base, status := .running, dying := none } w) = stepG.oper P true fr (fs ++ base) none w := by
  simp only [stepG, stepG.exec, hm, ht, ho, hw, Option.map_some, Option.getD_some, if_true]
 have hst : (stepG P true { frame := fr, callers := fs ++ base, status := .running, dying := none } w) = stepG.apply P true fr (fs ++ base) none (execOp fr.eval o) w := by
  rw [hoper]
  simp only [stepG.oper, Frame.oper?, ht, ho]
  split
  · rename_i _ c _ hc
    exact absurd hc (hnd c)
  · rfl
 obtain ⟨id, hid, hl⟩ := hl
 rcases hl with ⟨v, hE, hW, rfl, rfl, hless⟩ | ⟨hE, hW, rfl, rfl, hless⟩
 · obtain ⟨a, b, c, h1, h2⟩ := wN k hop (by simp) (by simp) (by simp) (by rw [hst]) ⟨_, _, _, _, ht⟩ e
   exact ⟨a, b, c, h1, h2⟩
 · obtain ⟨a, b, c, h1, h2⟩ := wN k hop (by simp) (by simp) (by simp) (by rw [hst]) ⟨_, _, _, _, ht⟩ e
   exact ⟨a, b, c, h1, h2⟩
theorem ziP [XT P] [XTOk P] {all : List Oper} {o : Oper} (k : Plain P w0 base B R af rest h fr fs w) (hto : jC af = some (all, o)) (hac : zid P af o = true) (hwt : zW all af.tmps o.guard = some true) (hnd : ∀ c, o.op ≠ .defer c) {rE r : AR}
 (hE : opA P (ev af.tmps) h o.op = some rE) (hl : zj0 P h (zbJ (ev af.tmps) o.op) rE r) {m : AM} (e : zk4 P af rest h r = some m) : zcm P w0 base m fr (fs ++ base) w := by
 have hm := zlh k
 have htop : zQ P B R rest.length false h af.todo af.tmps fr.todo fr.tmps := by
  have := k.top.top
  rw [k.run] at this; exact this
 unfold jC at hto
 split at hto
 · rename_i all' o' l kk htodo
   cases hto
   rw [htodo] at htop
   obtain ⟨⟨_, kk', hfr, ⟨ops, todo, rfl, rfl, hmap⟩, hk⟩, hs⟩ := htop
   cases todo with
   | nil => simp at hmap
   | cons i todo =>
    simp only [List.map_cons, List.cons.injEq] at hmap
    have hw : Wait P w0 base B R af rest h fr fs w := ⟨k.heap, k.base, k.old, by
     obtain ⟨k1, k2, k3, k4, k5, k6, k7, k8, k9⟩ := k.top
     refine ⟨k1, k2, k3, k4, k5, k6, k7, k8, ?_⟩
     have hr := k.run
     obtain ⟨fn, n, t, td, ds, mode, kind, round⟩ := af
     simp only at hr htodo; subst hr; subst htodo
     exact ⟨⟨_, kk', hfr, ⟨ops, _, rfl, rfl, by simp only [List.map_cons, List.cons.injEq]; exact hmap⟩, hk⟩, hs⟩, k.run, k.below⟩
    exact zdS hw hfr hmap.1.symm (fun x _ v hv => vq (fun u _ hu => hs u v hu) hv) (fun g b q u v _ _ _ hv => hs u v hv) hwt hnd hE hl e
 · rename_i all' i l dn kk htodo
   split at hto
   · cases hto
   rename_i o' ho
   cases hto
   rw [htodo] at htop
   obtain ⟨s, k', hfr, hk, hd⟩ := htop
   unfold zid at hac
   rw [htodo] at hac
   have hroom : B.n ≤ w.heap.size := by show B.env.heap.size ≤ _; rw [k.base]; exact k.old.size
   have hrun := k.run
   have htopf := k.top
   obtain ⟨fn, n, t, td, ds, mode, kind, round⟩ := af
   simp only at htodo hrun hd; subst htodo; subst hrun
   have hidn : i ∉ dn := fun hi => (List.nodup_append.1 hd.facts.2.2.2.2.1).2.2 i (by simpa using hi) i List.mem_cons_self rfl
   obtain ⟨k1, k2, k3, k4, k5, k6, k7, k8, k9⟩ := htopf
   have hem : (zS P all'.toList).em.testBit i = true := by rw [hd.plan.em i o ho]; exact hac
   obtain ⟨B', R', w', a', s', g1, g2, g3, g4, g5, g6, g7⟩ := hd.catch_up hem s k.heap hroom hm hfr (fs ++ base)
   have hw : Wait P w0 base B' R' ⟨fn, n, t, .drw all' (i :: l) dn :: kk, ds, .run, kind, round⟩ rest h { fr with tmps := a', todo := .inRegion all' (i :: s') :: k' } fs w' :=
    ⟨g5, g3.1.trans k.base, k.old.keeps k.base k.heap g6, ⟨k1, k2, k3, k4, k5.mono g4, k6.mono fun _ _ q => q.mono g4, k7.mono g4, g2.trans k8, i :: s', k', rfl, hk.mono fun _ _ q => q.mono g4, g7.suspend hem⟩, rfl, k.below.mono g4 g3 (Nat.le_refl _)⟩
   have hreads := g7.reads ho hidn
   obtain ⟨fr', cs', w2, s1, s2⟩ := zdS hw rfl ho (fun x hx v hv => vq (fun u hu he => hreads u v (by rw [hu] at hx; exact xu hx) he) hv)
    (fun g b q u v hg hq hu hv => hreads u v (yk hg (by simpa using hq) hu) hv) hwt hnd hE hl e
   exact ⟨fr', cs', w2, g1.trans s1, s2⟩
 · cases hto
end
section
variable {P : Program}
theorem ziS [XT P] [XTOk P] {keep : Nat} {f0 : FuncId} {Q : AV → AHeap → Prop} {moved : Bool} {m : AM} {K : AM → Prop} (e : OpWK P moved m K) (hK : ∀ m, K m → zg P keep f0 Q m) : zg P keep f0 Q m := by
 intro w0 base cfr cs w hk s
 obtain ⟨fr, rest, h⟩ := m
 unfold OpWK at e
 simp only at e
 split at e
 rotate_left
 · exact e.elim
 rename_i hm
 split at e
 · exact e.elim
 rename_i all o ho
 split at e
 rotate_left
 · exact e.elim
 rename_i hw
 split at e
 · exact e.elim
 rename_i hac
 split at e
 · exact e.elim
 rename_i r p hop
 obtain ⟨hp, e⟩ := e
 obtain ⟨hnd, rE, g1, g2⟩ := znU hop hp
 obtain ⟨m', h1, h2⟩ := yn e
 obtain ⟨B, R, fs, rfl, hb, kh, ho', kt, kb⟩ := s
 obtain ⟨fr1, cs1, w1, s1, k1⟩ := ziP (af := fr) (rest := rest) (h := h) ⟨kh, hb, ho', kt, hm, kb⟩ ho hac hw hnd g1 g2 h1
 obtain ⟨fr', w', B, R, v, v', h', s2, g⟩ := hK _ h2 w0 base fr1 cs1 w1 hk k1
 exact ⟨fr', w', B, R, v, v', h', s1.trans s2, g⟩
end
end Go.Proofs.YtdbfpjgnlfejmaaDoor.Ev
end
