/- Calls that are handed memory: what is known of them by themselves, of what they are handed alone. -/
import Derived.Test.YtcdpmiebmhjmpaaEvSb
namespace Go.Proofs.Ytcdpmiebmhjmpaa.Ev
open Go

noncomputable section
variable (P : Program)

/-- From a value to what it leads to. -/
def wit (h : AHeap) : List Nat → AV → Option AV
  | [], v => some v
  | k :: r, v => match v with
    | .ptr i ver o => match h.get i with
      | some (.cells c n _ lo hi _ _ _ ex) => match extOf ex n hi ver with
        | some e => bif Nat.ble lo ver && Nat.ble ver hi && Nat.ble o k && Nat.blt k e then (match c.get k with
          | some v => wit h r v
          | none => none) else none
        | none => none
      | _ => none
    | .slc i ver o _ _ => match h.get i with
      | some (.cells c n _ lo hi _ _ _ ex) => match extOf ex n hi ver with
        | some e => bif Nat.ble lo ver && Nat.ble ver hi && Nat.ble o k && Nat.blt k e then (match c.get k with
          | some v => wit h r v
          | none => none) else none
        | none => none
      | _ => none
    | .mp i => match h.get i with
      | some (.map es _) => match es[k]? with
        | some e => wit h r e.val
        | none => none
      | _ => none
    | .fn _ a b => match (a ++ b)[k]? with
      | some v => wit h r v
      | none => none
    | .ifc _ v => wit h r v
    | .agg l => match l[k]? with
      | some v => wit h r v
      | none => none
    | .tup l => match l[k]? with
      | some v => wit h r v
      | none => none
    | _ => none

def headId : AV → Option Nat
  | .ptr i _ _ => some i
  | .slc i _ _ _ _ => some i
  | .slg i _ _ _ _ => some i
  | .mp i => some i
  | .yld i => some i
  | _ => none

/-- Each name is led to. -/
def ledTo (h : AHeap) (t : T AV) : List (Nat × Nat × List Nat) → Bool
  | [] => true
  | (j, u, p) :: r => (match t.get u with
    | none => false
    | some v => match wit h p v with
      | none => false
      | some v => match headId v with
        | none => false
        | some i => Nat.beq i j) && ledTo h t r

def locTab (l : List (Nat × Nat × List Nat)) : Tab := l.map fun p => (p.1, none)

/-- A call by itself, of what it is handed. -/
def locM (l : List (Nat × Nat × List Nat)) (us : List Nat) (fr : AFrame) (h : AHeap) : Option AM :=
  bif nodup (l.map (·.1)) && ledTo h fr.tmps l then match canHeap (locTab l) h with
    | none => none
    | some h0 => match canF (locTab l).ver us fr with
      | none => none
      | some a => some ⟨a, [], h0⟩ else none

/-- The names of those that came in are what they were; the new ones come behind all. -/
def backF (σ : List Nat) (next : Nat) (i : Nat) : Nat := match σ[i]? with
  | some j => j
  | none => next + (i - σ.length)

def backG (σ : List Nat) (next : Nat) (i r : Nat) : Option (Nat × Nat) := some (backF σ next i, r)

def backObjs (g : Nat → Nat → Option (Nat × Nat)) (f : Nat → Nat) (objs' : T AObj) : Nat → Nat → T AObj → Option (T AObj)
  | 0, _, acc => some acc
  | n + 1, i, acc => match objs'.get i with
    | none => (acc.set none (f i)).seq fun acc => backObjs g f objs' n (i + 1) acc
    | some o => match canO g none o with
      | none => none
      | some o => (acc.set (some o) (f i)).seq fun acc => backObjs g f objs' n (i + 1) acc

def backFns (objs' : T AObj) : Nat → Nat → List (Nat → Option AV)
  | 0, _ => []
  | n + 1, i => match objs'.get i with
    | none => backFns objs' n (i + 1)
    | some o => fnsO o ++ backFns objs' n (i + 1)

def backH (σ : List Nat) (h h' : AHeap) : Option AHeap := bif Nat.ble σ.length h'.next then match backObjs (backG σ h.next) (backF σ h.next) h'.objs h'.next 0 h.objs with
  | none => none
  | some objs => some ⟨objs, h.next + (h'.next - σ.length), h.glob⟩ else none

/-- A call by what is known of it, where it answers v and leaves H of what it was handed. -/
def CallH (l : List (Nat × Nat × List Nat)) (us : List Nat) (v : AV) (H : AHeap) (m : AM) (K : AM → Prop) : Prop := match m with
  | ⟨fr, rest, h⟩ => match rest with
    | [] => False
    | c :: r => match fr.kind with
      | .normal => match c.mode with
        | .run => match locM l us fr h with
          | none => False
          | some m' => match canV (backG (l.map (·.1)) h.next) 99 v with
            | none => False
            | some v2 => match backH (l.map (·.1)) h H with
              | none => False
              | some h2 => PlainFns (fnsH h.objs (locTab l)) (PlainFns (backFns H.objs H.next 0) (Goal P l.length fr.fn (fun x k => x = v ∧ k = H) m' ∧ Fin P c h2 v2 fun c => K ⟨c, r, h2⟩))
        | _ => False
      | _ => False

end

section
variable {P : Program} {B : Base} {R : Bij} {h : AHeap} {w : World}

theorem cells_step (kh : HRel P B R h w) {i ver o k : Nat} {L : Loc} (hL : R i ver = some L) (hm : L.minus ≤ o) {c : T AV} {n : Nat} {el : TypeId} {lo hi nv fz : Nat} {sg : Bool} {ex : T Nat} (ho : h.get i = some (.cells c n el lo hi nv fz sg ex)) {e : Nat}
    (he : extOf ex n hi ver = some e) (hb : (Nat.ble lo ver && Nat.ble ver hi && Nat.ble o k && Nat.blt k e) = true) {v : AV} (hv : c.get k = some v) : ∃ x, VRel R v x := by
  simp only [Bool.and_eq_true] at hb
  obtain ⟨⟨⟨h1, h2⟩, h3⟩, h4⟩ := hb
  obtain ⟨L', hL', cs, a, b, g1, g2, g3, g4, g5⟩ := kh.ver hL ho (Nat.le_of_ble_eq_true h1) (Nat.le_of_ble_eq_true h2) he
  rw [hL] at hL'; cases hL'
  have := Nat.le_of_ble_eq_true h3
  have h4 : k < e := by simpa [Nat.blt_eq] using h4
  obtain ⟨x, _, hx⟩ := g5 k v h4 (by omega) hv
  exact ⟨x, hx⟩

theorem wit_rel (kh : HRel P B R h w) : ∀ {p : List Nat} {v v' : AV} {x : Value}, wit h p v = some v' → VRel R v x → ∃ x', VRel R v' x'
  | [], v, v', x, e, hv => by cases e; exact ⟨x, hv⟩
  | k :: r, v, v', x, e, hv => by
    cases v <;> simp only [wit] at e
    case ptr i ver o =>
      obtain ⟨L, hL, hm, _⟩ := hv
      split at e
      · rename_i c n el lo hi nv fz sg ex ho
        split at e
        · rename_i e0 he
          cases hb : (Nat.ble lo ver && Nat.ble ver hi && Nat.ble o k && Nat.blt k e0) with
          | false => rw [hb] at e; cases e
          | true =>
            rw [hb] at e
            simp only [cond_true] at e
            split at e
            · rename_i y hy
              obtain ⟨z, hz⟩ := cells_step kh hL hm ho he hb hy
              exact wit_rel kh e hz
            · cases e
        · cases e
      · cases e
    case slc i ver o len cap =>
      obtain ⟨L, hL, hm, _⟩ := hv
      split at e
      · rename_i c n el lo hi nv fz sg ex ho
        split at e
        · rename_i e0 he
          cases hb : (Nat.ble lo ver && Nat.ble ver hi && Nat.ble o k && Nat.blt k e0) with
          | false => rw [hb] at e; cases e
          | true =>
            rw [hb] at e
            simp only [cond_true] at e
            split at e
            · rename_i y hy
              obtain ⟨z, hz⟩ := cells_step kh hL hm ho he hb hy
              exact wit_rel kh e hz
            · cases e
        · cases e
      · cases e
    case mp i =>
      obtain ⟨L, hL, _⟩ := hv
      split at e
      · rename_i es clock ho
        obtain ⟨L', es', hL', hh, hrel⟩ := kh.obj' hL ho
        split at e
        · rename_i en hen
          obtain ⟨b, _, hb⟩ := hrel.get k en hen
          exact wit_rel kh e hb.2.1
        · cases e
      · cases e
    case fn f a b =>
      obtain ⟨_, a', b', rfl, h1, h2⟩ := hv
      split at e
      · rename_i y hy
        obtain ⟨z, _, hz⟩ := (h1.append h2).get k y hy
        exact wit_rel kh e hz
      · cases e
    case ifc t y =>
      obtain ⟨z, _, hz⟩ := hv
      exact wit_rel kh e hz
    case agg l =>
      obtain ⟨a, rfl, h1⟩ := hv
      split at e
      · rename_i y hy
        obtain ⟨z, _, hz⟩ := h1.get k y hy
        exact wit_rel kh e hz
      · cases e
    case tup l =>
      obtain ⟨a, rfl, h1⟩ := hv
      split at e
      · rename_i y hy
        obtain ⟨z, _, hz⟩ := h1.get k y hy
        exact wit_rel kh e hz
      · cases e
    all_goals cases e

theorem headId_live {v : AV} {x : Value} {i : Nat} (hv : VRel R v x) (e : headId v = some i) : ∃ r L, R i r = some L := by
  cases v <;> simp only [headId, Option.some.injEq] at e
  case ptr => subst e; obtain ⟨L, hL, _⟩ := hv; exact ⟨_, L, hL⟩
  case slc => subst e; obtain ⟨L, hL, _⟩ := hv; exact ⟨_, L, hL⟩
  case slg => subst e; obtain ⟨L, a, hL, _⟩ := hv; exact ⟨_, L, hL⟩
  case mp => subst e; obtain ⟨L, hL, _⟩ := hv; exact ⟨_, L, hL⟩
  case yld => subst e; obtain ⟨L, hL, _⟩ := hv; exact ⟨_, L, hL⟩
  all_goals cases e

theorem ledTo_live (kh : HRel P B R h w) {t : T AV} {a : Array Value} (hs : Slots R t a) : ∀ {l : List (Nat × Nat × List Nat)}, ledTo h t l = true → ∀ q ∈ l, ∃ r L, R q.1 r = some L
  | [], _, q, hq => absurd hq List.not_mem_nil
  | (j, u, p) :: l, e, q, hq => by
    simp only [ledTo, Bool.and_eq_true] at e
    rcases List.mem_cons.1 hq with rfl | hq
    · have e := e.1
      split at e
      · cases e
      · rename_i v hv
        split at e
        · cases e
        · rename_i v' hv'
          split at e
          · cases e
          · rename_i i hi
            have := Nat.eq_of_beq_eq_true e
            subst this
            obtain ⟨x, _, hx⟩ := hs u v hv
            obtain ⟨x', hx'⟩ := wit_rel kh hv' hx
            exact headId_live hx' hi
    · exact ledTo_live kh hs e.2 q hq

/-- What a frame's slots stand for, where it has no region whose order is drawn. -/
theorem canF_slots {g : Nat → Nat → Option (Nat × Nat)} {d : Nat} {sus : Bool} {af af' : AFrame} {fr : Frame} {us : List Nat} (e : canF g us af = some af') (k : FrameRel P B R d sus h af fr) : Slots R af.tmps fr.tmps := by
  obtain ⟨fn, n, t, todo, ds, mode, kind, round⟩ := af
  simp only [canF] at e
  split at e
  · cases e
  split at e
  · cases e
  rename_i todo' htodo
  have k9 := k.top
  cases mode with
  | run =>
    change TodoRel P B R d sus h todo t fr.todo fr.tmps at k9
    cases todo with
    | nil => exact k9.2
    | cons it kk =>
      cases it with
      | drw a b c => exact absurd rfl (allO_items htodo _ List.mem_cons_self a b c)
      | _ => exact k9.2
  | returning => exact k9
  | panicking c => exact k9

theorem locTab_get {l : List (Nat × Nat × List Nat)} {i : Nat} {j : Nat} {t : Option Nat} (e : (locTab l)[i]? = some (j, t)) : (l.map (·.1))[i]? = some j ∧ t = none := by
  unfold locTab at e
  rw [List.getElem?_map] at e ⊢
  cases hl : l[i]? with
  | none => rw [hl] at e; cases e
  | some p => rw [hl] at e; cases e; exact ⟨rfl, rfl⟩

theorem locTab_of {l : List (Nat × Nat × List Nat)} {i : Nat} {j : Nat} (e : (l.map (·.1))[i]? = some j) : (locTab l)[i]? = some (j, none) := by
  unfold locTab
  rw [List.getElem?_map] at e ⊢
  cases hl : l[i]? with
  | none => rw [hl] at e; cases e
  | some p => rw [hl] at e; cases e; rfl

theorem backObjs_get {g : Nat → Nat → Option (Nat × Nat)} {f : Nat → Nat} {objs' : T AObj} : ∀ {n i : Nat} {acc r : T AObj}, backObjs g f objs' n i acc = some r → (∀ a b, i ≤ a → i ≤ b → a < i + n → b < i + n → f a = f b → a = b) → ∀ c o2, r.get c = some o2 →
    (∃ a, i ≤ a ∧ a < i + n ∧ f a = c ∧ ∃ o, objs'.get a = some o ∧ canO g none o = some o2) ∨ ((∀ a, i ≤ a → a < i + n → f a ≠ c) ∧ acc.get c = some o2)
  | 0, i, acc, r, e, _, c, o2, hc => by cases e; exact .inr ⟨fun a h1 h2 => by omega, hc⟩
  | n + 1, i, acc, r, e, hinj, c, o2, hc => by
    unfold backObjs at e
    have hinj' : ∀ a b, i + 1 ≤ a → i + 1 ≤ b → a < i + 1 + n → b < i + 1 + n → f a = f b → a = b := fun a b h1 h2 h3 h4 h5 => hinj a b (by omega) (by omega) (by omega) (by omega) h5
    split at e
    · rename_i ho
      rw [T.seq_eq] at e
      rcases backObjs_get e hinj' c o2 hc with ⟨a, h1, h2, h3, h4⟩ | ⟨h1, h2⟩
      · exact .inl ⟨a, by omega, by omega, h3, h4⟩
      · rw [T.get_set] at h2
        split at h2
        · cases h2
        · rename_i hne
          refine .inr ⟨fun a g1 g2 => ?_, h2⟩
          by_cases ha : a = i
          · subst ha; exact fun hh => hne hh.symm
          · exact h1 a (by omega) (by omega)
    · rename_i o ho
      split at e
      · cases e
      · rename_i o' ho'
        rw [T.seq_eq] at e
        rcases backObjs_get e hinj' c o2 hc with ⟨a, h1, h2, h3, h4⟩ | ⟨h1, h2⟩
        · exact .inl ⟨a, by omega, by omega, h3, h4⟩
        · rw [T.get_set] at h2
          split at h2
          · rename_i hce
            cases h2
            exact .inl ⟨i, Nat.le_refl _, by omega, hce.symm, o, ho, ho'⟩
          · rename_i hne
            refine .inr ⟨fun a g1 g2 => ?_, h2⟩
            by_cases ha : a = i
            · subst ha; exact fun hh => hne hh.symm
            · exact h1 a (by omega) (by omega)

theorem backObjs_other {g : Nat → Nat → Option (Nat × Nat)} {f : Nat → Nat} {objs' : T AObj} : ∀ {n i : Nat} {acc r : T AObj}, backObjs g f objs' n i acc = some r → ∀ c, (∀ a, i ≤ a → a < i + n → f a ≠ c) → r.get c = acc.get c
  | 0, i, acc, r, e, c, _ => by cases e; rfl
  | n + 1, i, acc, r, e, c, hc => by
    unfold backObjs at e
    have hne := hc i (Nat.le_refl _) (by omega)
    split at e
    · rw [T.seq_eq] at e
      rw [backObjs_other e c (fun a h1 h2 => hc a (by omega) (by omega)), T.get_set, if_neg (fun h => hne h.symm)]
    · split at e
      · cases e
      · rw [T.seq_eq] at e
        rw [backObjs_other e c (fun a h1 h2 => hc a (by omega) (by omega)), T.get_set, if_neg (fun h => hne h.symm)]

theorem ObjRel.live {i : Nat} {o : AObj} (k : ObjRel P R w i o) : ∃ r L, R i r = some L := by
  cases o with
  | cells c n el lo hi nv fz sg ex =>
    obtain ⟨a1, a2, a3, a4, a5⟩ := k
    obtain ⟨L, h1, _⟩ := a4 hi n a1 (Nat.le_refl _) (by simp [extOf])
    exact ⟨hi, L, h1⟩
  | map es clock => obtain ⟨L, es', h1, _⟩ := k; exact ⟨0, L, h1⟩
  | iter s p => obtain ⟨L, h1, _⟩ := k; exact ⟨0, L, h1⟩
  | loop lp => obtain ⟨L, lp', h1, _⟩ := k; exact ⟨0, L, h1⟩
  | dfrd ds => obtain ⟨L, ds', h1, _⟩ := k; exact ⟨0, L, h1⟩
  | ro c lo n => obtain ⟨L, cs, el, fz, h1, _⟩ := k; exact ⟨0, L, h1⟩

theorem backFns_mem {objs' : T AObj} : ∀ {n i a : Nat} {o : AObj} {f : Nat → Option AV}, i ≤ a → a < i + n → objs'.get a = some o → f ∈ fnsO o → f ∈ backFns objs' n i
  | 0, i, a, o, f, h1, h2, _, _ => by omega
  | n + 1, i, a, o, f, h1, h2, ho, hf => by
    unfold backFns
    by_cases ha : a = i
    · subst ha
      rw [ho]
      exact List.mem_append_left _ hf
    · have := backFns_mem (n := n) (i := i + 1) (by omega) (by omega) ho hf
      split
      · exact this
      · exact List.mem_append_right _ this

/-- What a callee may change: what it was handed. -/
def locEnv (B : Base) (R : Bij) (w : World) (σ : List Nat) (tb : Tab) : Env := { w with
  own := fun b => ∃ j ∈ σ, ¬ B.ro j ∧ ∃ r L, R j r = some L ∧ L.block = b
  rob := fun b => ∃ j ∈ σ, B.ro j ∧ ∃ r L, R j r = some L ∧ L.block = b
  pin := tb.re R }

def locBase (B : Base) (R : Bij) (w : World) (σ : List Nat) (tb : Tab) : Base := ⟨locEnv B R w σ tb, fun i => ∃ j, σ[i]? = some j ∧ B.ro j, fun _ => none, fun _ => (0, 0)⟩

theorem locHRel (kh : HRel P B R h w) (hroom : B.n ≤ w.heap.size) {l : List (Nat × Nat × List Nat)} {h0 : AHeap} (hn : nodup (l.map (·.1)) = true) (hlive : ∀ q ∈ l, ∃ r L, R q.1 r = some L) (e : canHeap (locTab l) h = some h0)
    (hp : ∀ f ∈ fnsH h.objs (locTab l), PlainFn f) : HRel P (locBase B R w (l.map (·.1)) (locTab l)) ((locTab l).re R) h0 w := by
  obtain ⟨objs, next, glob⟩ := h
  simp only [canHeap] at e
  cases hlt : ((locTab l).all fun p => Nat.blt p.1 next) with
  | false => rw [hlt] at e; cases e
  | true =>
    rw [hlt] at e
    simp only [cond_true] at e
    split at e
    · cases e
    rename_i objs' hobjs
    cases e
    have hget := canObjs_get (n := 0) hobjs (fun q o' g => by cases g) (fun q => by rw [Nat.zero_add])
    have hsome := canObjs_some hobjs
    have hre : ∀ {i r L}, (locTab l).re R i r = some L → ∃ j, (l.map (·.1))[i]? = some j ∧ R j r = some L := by
      intro i r L e
      unfold Tab.re at e
      split at e
      · cases e
      · rename_i j hi; exact ⟨j, (locTab_get hi).1, e⟩
      · rename_i j t hi; cases (locTab_get hi).2
    have hmem : ∀ {i j : Nat}, (l.map (·.1))[i]? = some j → j ∈ l.map (·.1) := fun hi => List.mem_of_getElem? hi
    have hpend : ∀ {j : Nat}, j ∈ l.map (·.1) → B.pend j = none := fun hj => by
      obtain ⟨q, hq, rfl⟩ := List.mem_map.1 hj
      obtain ⟨r, L, hL⟩ := hlive q hq
      exact kh.live hL
    have hmay : ∀ b, (locBase B R w (l.map (·.1)) (locTab l)).may b → B.may b := by
      rintro b (h1 | ⟨j, _, hj, r, L, hL, rfl⟩)
      · exact .inl (Nat.le_trans hroom h1)
      · exact (kh.place j r L hL).1.elim id fun h => absurd h hj
    refine ⟨fun i hi r => ?_, fun i o' eo _ => ?_, (fun i o e => by cases e), fun i r L e => ?_, fun i hi => ?_, fun i hi => rfl, fun i r L hi e => ?_, fun b _ => rfl, fun i r L e => e, fun i r i' r' L L' e e' hbl hor => ?_, fun i r r' L L' e e' hbl => ?_, fun g c e => ?_⟩
    · have : (locTab l)[i]? = none := List.getElem?_eq_none hi
      simp only [Tab.re, this]
    · obtain ⟨j, t, o, q1, q2, q3⟩ := hget i o' eo
      obtain ⟨q4, rfl⟩ := locTab_get q1
      exact canO_rel ((locTab l).ok R) (fun _ r => by simp only [Tab.re, q1]) (fun t0 ht r => by cases ht) q3 (fun f hf => hp f (fnsH_mem hsome q1 q2 hf)) (kh.obj j o q2 (hpend (hmem q4)))
    · obtain ⟨j, q1, q2⟩ := hre e
      refine ⟨?_, (kh.place j r L q2).2⟩
      by_cases hr : B.ro j
      · exact .inr ⟨j, q1, hr⟩
      · exact .inl (.inr ⟨j, hmem q1, hr, r, L, q2, rfl⟩)
    · obtain ⟨j, q1, q2⟩ := hi
      refine ⟨by have := (List.getElem?_eq_some_iff.1 (locTab_of q1)).1; exact this, fun o' eo => ?_⟩
      obtain ⟨j', t', o, p1, p2, p3⟩ := hget i o' eo
      obtain ⟨p4, rfl⟩ := locTab_get p1
      rw [q1] at p4; cases p4
      have := (kh.rd j q2).2 o p2
      cases o with
      | ro c lo n => simp only [canO] at p3; cases p3; rfl
      | _ => cases this
    · obtain ⟨j, q1, q2⟩ := hi
      obtain ⟨j', p1, p2⟩ := hre e
      rw [q1] at p1; cases p1
      exact ⟨j, hmem q1, q2, r, L, p2, rfl⟩
    · obtain ⟨j, q1, q2⟩ := hre e
      obtain ⟨j', q1', q2'⟩ := hre e'
      have := kh.apart j r j' r' L L' q2 q2' hbl (hor.imp (fun hn hr => hn ⟨j, q1, hr⟩) (fun hn hr => hn ⟨j', q1', hr⟩))
      subst this
      exact nodup_inj hn q1 q1'
    · obtain ⟨j, q1, q2⟩ := hre e
      obtain ⟨j', q1', q2'⟩ := hre e'
      rw [q1] at q1'; cases q1'
      exact kh.same j r r' L L' q2 q2' hbl
    · obtain ⟨g1, g2⟩ := kh.glob g c e
      exact ⟨fun hm => g1 (hmay g hm), g2⟩

/-- What the caller's names stand for, behind a call. -/
def backR (σ : List Nat) (next : Nat) (R R' : Bij) : Bij := fun c r => match (σ.map fun j => ((j, none) : Nat × Option Nat)) |> fun tb => Tab.find tb c with
  | some (i, _) => R' i r
  | none => if next ≤ c then R' (σ.length + (c - next)) r else R c r

theorem find_get {σ : List Nat} {c i : Nat} {t : Option Nat} (e : Tab.find (σ.map fun j => (j, none)) c = some (i, t)) : σ[i]? = some c := by
  have := (tabGo_some e).2
  simp only [Nat.sub_zero, List.getElem?_map] at this
  cases hs : σ[i]? with
  | none => rw [hs] at this; cases this
  | some x => rw [hs] at this; cases this; rfl

theorem find_of {c : Nat} : ∀ {σ : List Nat} {i k : Nat}, nodup σ = true → σ[i]? = some c → tabGo c (σ.map fun j => ((j, none) : Nat × Option Nat)) k = some (k + i, none)
  | [], i, k, _, e => by simp at e
  | j :: r, i, k, hn, e => by
    cases i with
    | zero =>
      simp at e; subst e
      simp [tabGo, Nat.beq_refl]
    | succ i =>
      have hne : j ≠ c := fun h => by
        subst h
        have := nodup_inj hn (p := 0) (q := i + 1) (j := j) (by simp) e
        omega
      have hb : Nat.beq j c = false := by
        cases hb : Nat.beq j c with
        | false => rfl
        | true => exact absurd (Nat.eq_of_beq_eq_true hb) hne
      have hn' : nodup r = true := by simp only [nodup, Bool.and_eq_true] at hn; exact hn.2
      have := find_of (σ := r) (i := i) (k := k + 1) hn' (by simpa using e)
      simp only [List.map_cons, tabGo, hb, cond_false]
      rw [this]
      congr 2
      omega

theorem find_none {σ : List Nat} {c : Nat} (e : Tab.find (σ.map fun j => ((j, none) : Nat × Option Nat)) c = none) (hn : nodup σ = true) : c ∉ σ := by
  intro hc
  obtain ⟨i, hi, he⟩ := List.getElem_of_mem hc
  have := find_of (σ := σ) (i := i) (k := 0) hn (by rw [List.getElem?_eq_getElem hi, he])
  unfold Tab.find at e
  rw [this] at e
  cases e

noncomputable def backBase (B B' : Base) (σ : List Nat) (next : Nat) (h2 : AHeap) : Base := { B with
  pend := fun c => match Tab.find (σ.map fun j => ((j, none) : Nat × Option Nat)) c with
    | some _ => none
    | none => if next ≤ c then (match B'.pend (σ.length + (c - next)) with
      | none => none
      | some _ => h2.get c) else B.pend c
  ro := fun c => match Tab.find (σ.map fun j => ((j, none) : Nat × Option Nat)) c with
    | some (i, _) => B'.ro i
    | none => if next ≤ c then B'.ro (σ.length + (c - next)) else B.ro c }

theorem CallH_goal {keep : Nat} {f0 : FuncId} {Q : AV → AHeap → Prop} {l : List (Nat × Nat × List Nat)} {us : List Nat} {v : AV} {H : AHeap} {m : AM} {K : AM → Prop} (e : CallH P l us v H m K) (hK : ∀ m, K m → Goal P keep f0 Q m) : Goal P keep f0 Q m := by
  intro w0 base fr cs w hk s
  obtain ⟨a, rest, h⟩ := m
  unfold CallH at e
  simp only at e
  split at e
  · exact e.elim
  rename_i c r
  split at e
  rotate_left
  · exact e.elim
  rename_i hkind
  split at e
  rotate_left
  · exact e.elim
  rename_i hcm
  split at e
  · exact e.elim
  rename_i m' hm'
  split at e
  · exact e.elim
  rename_i v2 hv2
  split at e
  · exact e.elim
  rename_i h2 hh2
  obtain ⟨hp1, e⟩ := PlainFns_mem e
  obtain ⟨hp2, hspec, hgo⟩ := PlainFns_mem e
  obtain ⟨B, R, fs, rfl, hb, kh, ho, kt, kb⟩ := s
  obtain ⟨f, fs', rfl, kf, kr⟩ := kb
  have hroom : B.n ≤ w.heap.size := by show B.env.heap.size ≤ _; rw [hb]; exact ho.size
  -- the call by itself
  unfold locM at hm'
  cases hn : (nodup (l.map (·.1)) && ledTo h a.tmps l) with
  | false => rw [hn] at hm'; cases hm'
  | true =>
  rw [hn] at hm'
  rw [Bool.and_eq_true] at hn
  obtain ⟨hnd, hled⟩ := hn
  simp only [cond_true] at hm'
  split at hm'
  · cases hm'
  rename_i h0 hh0
  split at hm'
  · cases hm'
  rename_i a0 ha0
  cases hm'
  generalize hσ : l.map (·.1) = σ at *
  have hlen : l.length = σ.length := by rw [← hσ]; simp
  have hlive := ledTo_live kh (canF_slots ha0 kt) hled
  have hloc := locHRel kh hroom (by rw [hσ]; exact hnd) hlive hh0 hp1
  rw [hσ] at hloc
  obtain ⟨fr', w', B', R', v0, v', h', s1, s2, s3, s4, s5, s6, s7, rfl, rfl⟩ := hspec (locEnv B R w σ (locTab l)) (f :: fs' ++ base) fr (f :: fs' ++ base) w
    (fun i r L e => by
      have : i < (locTab l).length := by
        unfold locEnv at e
        simp only [Tab.re] at e
        split at e
        · cases e
        · rename_i j hi; exact (List.getElem?_eq_some_iff.1 hi).1
        · rename_i j t hi; exact (List.getElem?_eq_some_iff.1 hi).1
      simpa [locTab] using this)
    ⟨locBase B R w σ (locTab l), (locTab l).re R, [], rfl, rfl, hloc, ⟨rfl, rfl, rfl, Nat.le_refl _, Nat.le_refl _⟩, canF_rel ((locTab l).ok R) ha0 kt, rfl⟩
  have hold : OldX (locEnv B R w σ (locTab l)) w' := s7.all s5 s6
  have hpin : ∀ i r L, (locTab l).re R i r = some L → R' i r = some L := fun i r L e => s6.pin i r L (by rw [s5]; exact e)
  have hσget : ∀ {i j : Nat}, σ[i]? = some j → (locTab l)[i]? = some (j, none) := fun hi => locTab_of (by rw [hσ]; exact hi)
  have hpinσ : ∀ {i j : Nat}, σ[i]? = some j → ∀ r L, R j r = some L → R' i r = some L := fun hi r L e => hpin _ r L (by simp only [Tab.re, hσget hi]; exact e)
  have hσlt : ∀ {j : Nat}, j ∈ σ → j < h.next := fun hj => by
    rw [← hσ] at hj
    obtain ⟨q, hq, rfl⟩ := List.mem_map.1 hj
    obtain ⟨r, L, hL⟩ := hlive q hq
    rcases Nat.lt_or_ge q.1 h.next with h1 | h1
    · exact h1
    · rw [kh.fresh _ h1] at hL; cases hL
  have hσpend : ∀ {j : Nat}, j ∈ σ → B.pend j = none := fun hj => by
    rw [← hσ] at hj
    obtain ⟨q, hq, rfl⟩ := List.mem_map.1 hj
    obtain ⟨r, L, hL⟩ := hlive q hq
    exact kh.live hL
  have hσpend' : ∀ {i j : Nat}, σ[i]? = some j → B'.pend i = none := fun hi => by
    have hj := List.mem_of_getElem? hi
    rw [← hσ] at hj
    obtain ⟨q, hq, hqj⟩ := List.mem_map.1 hj
    obtain ⟨r, L, hL⟩ := hlive q hq
    rw [hqj] at hL
    exact s6.live (hpinσ hi r L hL)
  -- the names behind the call
  have hfind : ∀ c, (∃ i, σ[i]? = some c ∧ Tab.find (σ.map fun j => ((j, none) : Nat × Option Nat)) c = some (i, none)) ∨ (c ∉ σ ∧ Tab.find (σ.map fun j => ((j, none) : Nat × Option Nat)) c = none) := by
    intro c
    cases hc : Tab.find (σ.map fun j => ((j, none) : Nat × Option Nat)) c with
    | none => exact .inr ⟨find_none hc hnd, rfl⟩
    | some p =>
      obtain ⟨i, t⟩ := p
      have hi := find_get hc
      have := find_of (k := 0) hnd hi
      unfold Tab.find at hc
      rw [this, Nat.zero_add] at hc
      cases hc
      exact .inl ⟨i, hi, rfl⟩
  have hble : σ.length ≤ h'.next ∧ ∃ objs, backObjs (backG σ h.next) (backF σ h.next) h'.objs h'.next 0 h.objs = some objs ∧ h2 = ⟨objs, h.next + (h'.next - σ.length), h.glob⟩ := by
    unfold backH at hh2
    cases hbl : Nat.ble σ.length h'.next with
    | false => rw [hbl] at hh2; cases hh2
    | true =>
      rw [hbl] at hh2
      simp only [cond_true] at hh2
      split at hh2
      · cases hh2
      · rename_i objs hobjs; cases hh2; exact ⟨Nat.le_of_ble_eq_true hbl, objs, hobjs, rfl⟩
  obtain ⟨hkn, objs2, hobjs2, rfl⟩ := hble
  -- image of a local name
  have hFσ : ∀ {i j : Nat}, σ[i]? = some j → backF σ h.next i = j := fun hi => by simp only [backF, hi]
  have hFn : ∀ {i : Nat}, σ.length ≤ i → backF σ h.next i = h.next + (i - σ.length) := fun hi => by simp only [backF, List.getElem?_eq_none hi]
  have hFinj : ∀ a b, 0 ≤ a → 0 ≤ b → a < 0 + h'.next → b < 0 + h'.next → backF σ h.next a = backF σ h.next b → a = b := by
    intro a b _ _ _ _ hab
    rcases Nat.lt_or_ge a σ.length with h1 | h1 <;> rcases Nat.lt_or_ge b σ.length with h3 | h3
    · have e1 := List.getElem?_eq_getElem h1
      have e2 := List.getElem?_eq_getElem h3
      rw [hFσ e1, hFσ e2] at hab
      rw [← hab] at e2
      exact nodup_inj hnd e1 e2
    · have e1 := List.getElem?_eq_getElem h1
      rw [hFσ e1, hFn h3] at hab
      have := hσlt (List.mem_of_getElem? e1)
      omega
    · have e2 := List.getElem?_eq_getElem h3
      rw [hFn h1, hFσ e2] at hab
      have := hσlt (List.mem_of_getElem? e2)
      omega
    · rw [hFn h1, hFn h3] at hab; omega
  have hget := backObjs_get hobjs2 hFinj
  -- what R2 says
  have hR2σ : ∀ {i c r}, σ[i]? = some c → backR σ h.next R R' c r = R' i r := fun hi => by
    rcases hfind _ with ⟨i', h1, h3⟩ | ⟨h1, _⟩
    · have := nodup_inj hnd hi h1
      subst this
      simp only [backR, h3]
    · exact absurd (List.mem_of_getElem? hi) h1
  have hR2n : ∀ {i r}, σ.length ≤ i → backR σ h.next R R' (h.next + (i - σ.length)) r = R' i r := fun {i r} hi => by
    rcases hfind (h.next + (i - σ.length)) with ⟨i', h1, h3⟩ | ⟨h1, h3⟩
    · have := hσlt (List.mem_of_getElem? h1); omega
    · simp only [backR, h3]
      rw [if_pos (by omega)]
      congr 1
      omega
  have hR2o : ∀ {c r}, c ∉ σ → c < h.next → backR σ h.next R R' c r = R c r := fun {c r} h1 h3 => by
    rcases hfind c with ⟨i', h4, _⟩ | ⟨_, h4⟩
    · exact absurd (List.mem_of_getElem? h4) h1
    · simp only [backR, h4]
      rw [if_neg (by omega)]
  have hR2F : ∀ i r, backR σ h.next R R' (backF σ h.next i) r = R' i r := fun i r => by
    rcases Nat.lt_or_ge i σ.length with h1 | h1
    · have e1 := List.getElem?_eq_getElem h1
      rw [hFσ e1, hR2σ e1]
    · rw [hFn h1, hR2n h1]
  have hren : RenOk (backG σ h.next) R' (backR σ h.next R R') := fun i r j r' e L hL => by
    simp only [backG, Option.some.injEq, Prod.mk.injEq] at e
    obtain ⟨rfl, rfl⟩ := e
    rw [hR2F]; exact hL
  -- each caller's name is an old one, or the image of a local one
  have hparts : ∀ c, (c ∉ σ ∧ c < h.next) ∨ ∃ i, backF σ h.next i = c ∧ (c ∈ σ ∨ h.next ≤ c) := by
    intro c
    by_cases hc : c ∈ σ
    · obtain ⟨i, hi, he⟩ := List.getElem_of_mem hc
      exact .inr ⟨i, hFσ (by rw [List.getElem?_eq_getElem hi, he]), .inl hc⟩
    · rcases Nat.lt_or_ge c h.next with h1 | h1
      · exact .inl ⟨hc, h1⟩
      · exact .inr ⟨σ.length + (c - h.next), by rw [hFn (by omega)]; omega, .inr h1⟩
  have hnot : ∀ {c i}, c ∉ σ → c < h.next → backF σ h.next i ≠ c := fun {c i} h1 h3 he => by
    rcases Nat.lt_or_ge i σ.length with h4 | h4
    · have e1 := List.getElem?_eq_getElem h4
      rw [hFσ e1] at he
      exact h1 (he ▸ List.mem_of_getElem? e1)
    · rw [hFn h4] at he; omega
  have hleR : R.le (backR σ h.next R R') := fun c r L e => by
    have hc : c < h.next := by
      rcases Nat.lt_or_ge c h.next with h1 | h1
      · exact h1
      · rw [kh.fresh c h1] at e; cases e
    by_cases hcσ : c ∈ σ
    · obtain ⟨i, hi, he⟩ := List.getElem_of_mem hcσ
      have e1 : σ[i]? = some c := by rw [List.getElem?_eq_getElem hi, he]
      rw [hR2σ e1]; exact hpinσ e1 r L e
    · rw [hR2o hcσ hc]; exact e
  -- memory that is not the callee's
  have howned : ∀ b, (locEnv B R w σ (locTab l)).own b → B.may b := by
    rintro b ⟨j, _, hj, r0, L, hL, rfl⟩
    exact (kh.place j r0 L hL).1.elim id fun h => absurd h hj
  have hsame : ∀ {c r0 L}, c ∉ σ → R c r0 = some L → w'.heap[L.block]? = w.heap[L.block]? := fun {c r0 L} hc hL => by
    refine hold.other _ (kh.place c r0 L hL).2 ?_
    rintro ⟨j, hj, hjr, r1, M, hM, hbl⟩
    have := kh.apart j r1 c r0 M L hM hL hbl (.inl hjr)
    exact hc (this ▸ hj)
  have hmay : ∀ {i r0 L}, R' i r0 = some L → ¬ B'.ro i → B.may L.block := fun {i r0 L} hL hr => by
    have := (s6.place i r0 L hL).1.elim id fun h => absurd h hr
    rcases this with h1 | h1
    · refine .inl (Nat.le_trans hroom ?_)
      have : B'.env.heap.size ≤ L.block := h1
      rw [s5] at this
      exact this
    · rw [s5] at h1
      exact howned _ h1
  have hrob : ∀ {i r0 L}, R' i r0 = some L → B'.ro i → ∃ j ∈ σ, B.ro j ∧ ∃ r1 M, R j r1 = some M ∧ M.block = L.block := fun {i r0 L} hL hr => by
    have := s6.rol i r0 L hr hL
    rw [s5] at this
    obtain ⟨j, h1, h3, r1, M, h4, h5⟩ := this
    exact ⟨j, h1, h3, r1, M, h4, h5⟩
  have hroF : ∀ i, (backBase B B' σ h.next ⟨objs2, h.next + (h'.next - σ.length), h.glob⟩).ro (backF σ h.next i) = B'.ro i := fun i => by
    rcases Nat.lt_or_ge i σ.length with h1 | h1
    · have e1 := List.getElem?_eq_getElem h1
      rw [hFσ e1]
      rcases hfind σ[i] with ⟨i', h3, h4⟩ | ⟨h3, _⟩
      · have := nodup_inj hnd e1 h3
        subst this
        simp only [backBase, h4]
      · exact absurd (List.mem_of_getElem? e1) h3
    · rw [hFn h1]
      rcases hfind (h.next + (i - σ.length)) with ⟨i', h3, _⟩ | ⟨_, h4⟩
      · have := hσlt (List.mem_of_getElem? h3); omega
      · simp only [backBase, h4]
        rw [if_pos (by omega)]
        congr 1
        omega
  have hroO : ∀ c, c ∉ σ → c < h.next → (backBase B B' σ h.next ⟨objs2, h.next + (h'.next - σ.length), h.glob⟩).ro c = B.ro c := fun c h1 h3 => by
    rcases hfind c with ⟨i', h4, _⟩ | ⟨_, h4⟩
    · exact absurd (List.mem_of_getElem? h4) h1
    · simp only [backBase, h4]
      rw [if_neg (by omega)]
  have hpendσ : ∀ c, c ∈ σ → (backBase B B' σ h.next ⟨objs2, h.next + (h'.next - σ.length), h.glob⟩).pend c = none := fun c h1 => by
    rcases hfind c with ⟨i', _, h4⟩ | ⟨h4, _⟩
    · simp only [backBase, h4]
    · exact absurd h1 h4
  have hpendO : ∀ c, c ∉ σ → c < h.next → (backBase B B' σ h.next ⟨objs2, h.next + (h'.next - σ.length), h.glob⟩).pend c = B.pend c := fun c h1 h3 => by
    rcases hfind c with ⟨i', h4, _⟩ | ⟨_, h4⟩
    · exact absurd (List.mem_of_getElem? h4) h1
    · simp only [backBase, h4]
      rw [if_neg (by omega)]
  have hpendN : ∀ c, h.next ≤ c → (backBase B B' σ h.next ⟨objs2, h.next + (h'.next - σ.length), h.glob⟩).pend c = (match B'.pend (σ.length + (c - h.next)) with
      | none => none
      | some _ => (⟨objs2, h.next + (h'.next - σ.length), h.glob⟩ : AHeap).get c) := fun c h1 => by
    rcases hfind c with ⟨i', h3, _⟩ | ⟨_, h4⟩
    · have := hσlt (List.mem_of_getElem? h3); omega
    · simp only [backBase, h4]
      rw [if_pos h1]
  have hH : HRel P (backBase B B' σ h.next ⟨objs2, h.next + (h'.next - σ.length), h.glob⟩) (backR σ h.next R R') ⟨objs2, h.next + (h'.next - σ.length), h.glob⟩ w' := by
    refine ⟨fun c hc r0 => ?_, fun c o2 eo hpe => ?_, fun c o2 e => ?_, fun c r0 L e => ?_, fun c hc => ?_, fun c hc => ?_, fun c r0 L hc e => ?_, fun b hbm => ?_, fun c r0 L e => ?_, fun c r0 c' r0' L L' e e' hbl hor => ?_, fun c r0 r0' L L' e e' hbl => ?_, fun g cc e => ?_⟩
    · -- fresh
      have hc : h.next + (h'.next - σ.length) ≤ c := hc
      have : backR σ h.next R R' c r0 = R' (σ.length + (c - h.next)) r0 := by
        have := hR2n (i := σ.length + (c - h.next)) (r := r0) (by omega)
        rwa [show h.next + (σ.length + (c - h.next) - σ.length) = c by omega] at this
      rw [this]
      exact s6.fresh _ (by omega) r0
    · -- obj
      rcases hget c o2 eo with ⟨i, _, hi, hic, o, ho1, ho2⟩ | ⟨hno, hold2⟩
      · subst hic
        have hpi : B'.pend i = none := by
          rcases Nat.lt_or_ge i σ.length with h1 | h1
          · exact hσpend' (List.getElem?_eq_getElem h1)
          · rw [hFn h1, hpendN _ (by omega)] at hpe
            rw [show σ.length + (h.next + (i - σ.length) - h.next) = i by omega] at hpe
            cases hb : B'.pend i with
            | none => rfl
            | some o0 =>
              rw [hb] at hpe
              simp only at hpe
              rw [hFn h1] at eo
              rw [eo] at hpe
              cases hpe
        exact canO_rel hren (fun _ r => hR2F i r) (fun t0 ht => by cases ht) ho2 (fun f hf => hp2 f (backFns_mem (Nat.zero_le _) hi ho1 hf)) (s6.obj i o ho1 hpi)
      · rcases hparts c with ⟨h1, h3⟩ | ⟨i, hic, h3⟩
        · rw [hpendO c h1 h3] at hpe
          exact (kh.obj c o2 hold2 hpe).mono hleR (fun r => hR2o h1 h3) (fun r L hL => hsame h1 hL)
        · exfalso
          rcases h3 with h3 | h3
          · obtain ⟨i', hi', he⟩ := List.getElem_of_mem h3
            exact hno i' (Nat.zero_le _) (by omega) (hFσ (by rw [List.getElem?_eq_getElem hi', he]))
          · have hold2 : h.get c = some o2 := hold2
            have hpc : B.pend c = none := by
              cases hb : B.pend c with
              | none => rfl
              | some o0 => exact absurd (kh.pend c o0 hb).1 (Nat.not_lt.2 h3)
            obtain ⟨r1, L, hL⟩ := (kh.obj c o2 hold2 hpc).live
            rw [kh.fresh c h3] at hL
            cases hL
    · -- pend
      by_cases hc : c ∈ σ
      · rw [hpendσ c hc] at e; cases e
      · rcases Nat.lt_or_ge c h.next with h1 | h1
        · rw [hpendO c hc h1] at e
          obtain ⟨g1, g2, g3⟩ := kh.pend c o2 e
          refine ⟨by show c < h.next + _; omega, ?_, fun r0 => by rw [hR2o hc h1]; exact g3 r0⟩
          exact (backObjs_other hobjs2 c fun a _ _ => hnot hc h1).trans g2
        · rw [hpendN c h1] at e
          cases hb : B'.pend (σ.length + (c - h.next)) with
          | none => rw [hb] at e; cases e
          | some o0 =>
            rw [hb] at e
            simp only at e
            obtain ⟨g1, g2, g3⟩ := s6.pend _ o0 hb
            refine ⟨by show c < h.next + _; omega, e, fun r0 => ?_⟩
            have := hR2n (i := σ.length + (c - h.next)) (r := r0) (by omega)
            rw [show h.next + (σ.length + (c - h.next) - σ.length) = c by omega] at this
            rw [this]; exact g3 r0
    · -- place
      rcases hparts c with ⟨h1, h3⟩ | ⟨i, rfl, _⟩
      · rw [hR2o h1 h3] at e
        refine ⟨?_, Nat.lt_of_lt_of_le (kh.place c r0 L e).2 s7.size⟩
        rw [hroO c h1 h3]
        exact (kh.place c r0 L e).1
      · rw [hR2F] at e
        refine ⟨?_, (s6.place i r0 L e).2⟩
        rw [hroF]
        by_cases hr : B'.ro i
        · exact .inr hr
        · exact .inl (hmay e hr)
    · -- rd
      rcases hparts c with ⟨h1, h3⟩ | ⟨i, rfl, h3⟩
      · rw [hroO c h1 h3] at hc
        refine ⟨by show c < h.next + _; omega, fun o2 eo => ?_⟩
        rcases hget c o2 eo with ⟨i, _, hi, hic, _⟩ | ⟨_, hold2⟩
        · exact absurd hic (hnot h1 h3)
        · exact (kh.rd c hc).2 o2 hold2
      · rw [hroF] at hc
        obtain ⟨g1, g2⟩ := s6.rd i hc
        refine ⟨?_, fun o2 eo => ?_⟩
        · show backF σ h.next i < h.next + (h'.next - σ.length)
          rcases Nat.lt_or_ge i σ.length with h4 | h4
          · have e1 := List.getElem?_eq_getElem h4
            rw [hFσ e1]
            have := hσlt (List.mem_of_getElem? e1)
            omega
          · rw [hFn h4]; omega
        · rcases hget _ o2 eo with ⟨i', _, hi', hic, o, ho1, ho2⟩ | ⟨hno, _⟩
          · have := hFinj i' i (Nat.zero_le _) (Nat.zero_le _) hi' (by omega) hic
            subst this
            have := g2 o ho1
            cases o with
            | ro c lo n => simp only [canO] at ho2; cases ho2; rfl
            | _ => cases this
          · exact absurd rfl (hno i (Nat.zero_le _) (by omega))
    · -- rp
      by_cases hcσ : c ∈ σ
      · exact hpendσ c hcσ
      · rcases Nat.lt_or_ge c h.next with h1 | h1
        · rw [hroO c hcσ h1] at hc
          rw [hpendO c hcσ h1]
          exact kh.rp c hc
        · have hF : backF σ h.next (σ.length + (c - h.next)) = c := by rw [hFn (by omega)]; omega
          have := hroF (σ.length + (c - h.next))
          rw [hF] at this
          rw [this] at hc
          rw [hpendN c h1, s6.rp _ hc]
    · -- rol
      rcases hparts c with ⟨h1, h3⟩ | ⟨i, rfl, _⟩
      · rw [hroO c h1 h3] at hc
        rw [hR2o h1 h3] at e
        exact kh.rol c r0 L hc e
      · rw [hroF] at hc
        rw [hR2F] at e
        obtain ⟨j, _, hj, r1, M, hM, hbl⟩ := hrob e hc
        rw [← hbl]
        exact kh.rol j r1 M hj hM
    · -- low
      have hbm' : ¬ B.may b := hbm
      have hlt := Nat.lt_of_lt_of_le (Base.low_lt hbm') hroom
      exact (hold.other b hlt (fun h => hbm' (howned b h))).trans (kh.low b hbm')
    · exact hleR _ _ _ (kh.pin c r0 L e)
    · -- apart
      have cross : ∀ {c r0 L i r1 M}, c ∉ σ → c < h.next → R c r0 = some L → R' i r1 = some M → L.block = M.block → (¬ B.ro c ∨ ¬ B'.ro i) → False := by
        intro c r0 L i r1 M h1 h3 hL hM hbl hor
        by_cases hr : B'.ro i
        · obtain ⟨j, hj, hjr, r2, N, hN, hbN⟩ := hrob hM hr
          have := kh.apart c r0 j r2 L N hL hN (hbl.trans hbN.symm) (.inl (hor.resolve_right (fun h => h hr)))
          exact h1 (this ▸ hj)
        · have := (s6.place i r1 M hM).1.elim id fun h => absurd h hr
          rcases this with h4 | h4
          · have h4 : B'.env.heap.size ≤ M.block := h4
            rw [s5] at h4
            have h4 : w.heap.size ≤ M.block := h4
            have := (kh.place c r0 L hL).2
            omega
          · rw [s5] at h4
            obtain ⟨j, hj, hjr, r2, N, hN, hbN⟩ := h4
            have := kh.apart c r0 j r2 L N hL hN (hbl.trans hbN.symm) (.inr hjr)
            exact h1 (this ▸ hj)
      rcases hparts c with ⟨h1, h3⟩ | ⟨i, rfl, _⟩ <;> rcases hparts c' with ⟨h1', h3'⟩ | ⟨i', rfl, _⟩
      · rw [hR2o h1 h3] at e
        rw [hR2o h1' h3'] at e'
        rw [hroO c h1 h3, hroO c' h1' h3'] at hor
        exact kh.apart c r0 c' r0' L L' e e' hbl hor
      · rw [hR2o h1 h3] at e
        rw [hR2F] at e'
        rw [hroO c h1 h3, hroF] at hor
        exact (cross h1 h3 e e' hbl hor).elim
      · rw [hR2F] at e
        rw [hR2o h1' h3'] at e'
        rw [hroO c' h1' h3', hroF] at hor
        exact (cross h1' h3' e' e hbl.symm hor.symm).elim
      · rw [hR2F] at e e'
        rw [hroF, hroF] at hor
        rw [s6.apart i r0 i' r0' L L' e e' hbl hor]
    · -- same
      rcases hparts c with ⟨h1, h3⟩ | ⟨i, rfl, _⟩
      · rw [hR2o h1 h3] at e e'
        exact kh.same c r0 r0' L L' e e' hbl
      · rw [hR2F] at e e'
        exact s6.same i r0 r0' L L' e e' hbl
    · -- glob
      obtain ⟨g1, cs, el, fz, g2, g3⟩ := kh.glob g cc e
      refine ⟨g1, cs, el, fz, (hold.other g (heap_lt g2) (fun h => g1 (howned g h))).trans g2, g3⟩
  have hkeep : B.keeps (backBase B B' σ h.next ⟨objs2, h.next + (h'.next - σ.length), h.glob⟩) (r.length + 1) := ⟨rfl, fun id ob e _ => by
    have h1 : id ∉ σ := fun hm => by rw [hσpend hm] at e; cases e
    have h3 := (kh.pend id ob e).1
    exact ⟨by rw [hpendO id h1 h3]; exact e, rfl⟩⟩
  obtain ⟨c', q1, q2⟩ := Fin_some hgo
  have hsim : Sim P w0 base ⟨c', r, ⟨objs2, h.next + (h'.next - σ.length), h.glob⟩⟩ (f.finish v') (fs' ++ base) w' :=
    ⟨backBase B B' σ h.next ⟨objs2, h.next + (h'.next - σ.length), h.glob⟩, backR σ h.next R R', fs', rfl, hb, hH, ⟨s7.os.trans ho.os, s7.tape.trans ho.tape, s7.output.trans ho.output, Nat.le_trans ho.size s7.size, Nat.le_trans ho.drawn s7.drawn⟩,
      finish_sound (kf.mono (h' := h) hleR hkeep (Nat.lt_succ_self _)) hcm q1 (canV_rel hren 99 _ _ _ hv2 s4), kr.mono hleR hkeep (Nat.le_succ _)⟩
  obtain ⟨fr2, w2, B2, R2, v3, v3', h3, t1, t2⟩ := hK _ q2 w0 base _ _ w' hk hsim
  exact ⟨fr2, w2, B2, R2, v3, v3', h3, s1.trans (.head (leaves s2) t1), t2⟩

end

end Go.Proofs.Ytcdpmiebmhjmpaa.Ev
