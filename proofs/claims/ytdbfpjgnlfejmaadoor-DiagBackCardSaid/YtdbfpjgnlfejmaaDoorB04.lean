import Derived.Carry
import Derived.ChangeSlices
import Derived.SliceStrings
import Derived.Deep.Slices
import Derived.OpenShut
import Derived.FnData
import Derived.Test.YtdbfpjgnlfejmaaDoorRows
import Derived.MakeChecks
import Derived.ProofKit
import Derived.LaidMore
import Derived.Stop.Joined
import Derived.IntWalk
import Derived.Sort.Statements
import Derived.Shelf.SlSortCmp.Insertion
import Derived.Test.YtdbfpjgnlfejmaaDoorB00
import Derived.Test.YtdbfpjgnlfejmaaDoorB01
import Derived.Test.YtdbfpjgnlfejmaaDoorB02
import Derived.Test.YtdbfpjgnlfejmaaDoorB03
section
namespace Go.Proofs.YtdbfpjgnlfejmaaDoor.Ev
open Go
noncomputable section
variable (P : Program)
def wit (h : AHeap) : List Nat → AV → Option AV
  | [], v => some v
  | k :: r, v => match v with
    | .ptr i ver o => match h.get i with
      | some (.cells c n _ lo hi _ _ _ ex) => match extOf ex n hi ver with
        | some e => bif Nat.ble lo ver && Nat.ble ver hi && Nat.ble o k && Nat.blt k e then (match c.get k with
          | some v => wit h r v
          | none => none) else none
        | none => none
      | _ => none
    | .slc i ver o _ _ => match h.get i with
      | some (.cells c n _ lo hi _ _ _ ex) => match extOf ex n hi ver with
        | some e => bif Nat.ble lo ver && Nat.ble ver hi && Nat.ble o k && Nat.blt k e then (match c.get k with
          | some v => wit h r v
          | none => none) else none
        | none => none
      | _ => none
    | .mp i => match h.get i with
      | some (.map es _) => match es[k]? with
        | some e => wit h r e.val
        | none => none
      | _ => none
    | .fn _ a b => match (a ++ b)[k]? with
      | some v => wit h r v
      | none => none
    | .ifc _ v => wit h r v
    | .agg l => match l[k]? with
      | some v => wit h r v
      | none => none
    | .tup l => match l[k]? with
      | some v => wit h r v
      | none => none
    | _ => none
def headId : AV → Option Nat
  | .ptr i _ _ => some i
  | .slc i _ _ _ _ => some i
  | .slg i _ _ _ _ => some i
  | .mp i => some i
  | .yld i => some i
  | _ => none
def ledTo (h : AHeap) (t : T AV) : List (Nat × Nat × List Nat) → Bool
  | [] => true
  | (j, u, p) :: r => (match t.get u with
    | none => false
    | some v => match wit h p v with
      | none => false
      | some v => match headId v with
        | none => false
        | some i => Nat.beq i j) && ledTo h t r
def locTab (l : List (Nat × Nat × List Nat)) : Tab := l.map fun p => (p.1, none)
def locM (l : List (Nat × Nat × List Nat)) (us : List Nat) (fr : AFrame) (h : AHeap) : Option AM :=
  bif nodup (l.map (·.1)) && ledTo h fr.tmps l then match canHeap (locTab l) h with
    | none => none
    | some h0 => match canF (locTab l).ver us fr with
      | none => none
      | some a => some ⟨a, [], h0⟩ else none
def backF (σ : List Nat) (next : Nat) (i : Nat) : Nat := match σ[i]? with
  | some j => j
  | none => next + (i - σ.length)
def backG (σ : List Nat) (next : Nat) (i r : Nat) : Option (Nat × Nat) := some (backF σ next i, r)
def backObjs (g : Nat → Nat → Option (Nat × Nat)) (f : Nat → Nat) (objs' : T AObj) : Nat → Nat → T AObj → Option (T AObj)
  | 0, _, acc => some acc
  | n + 1, i, acc => match objs'.get i with
    | none => (acc.set none (f i)).seq fun acc => backObjs g f objs' n (i + 1) acc
    | some o => match canO g none o with
      | none => none
      | some o => (acc.set (some o) (f i)).seq fun acc => backObjs g f objs' n (i + 1) acc
def backFns (objs' : T AObj) : Nat → Nat → List (Nat → Option AV)
  | 0, _ => []
  | n + 1, i => match objs'.get i with
    | none => backFns objs' n (i + 1)
    | some o => fnsO o ++ backFns objs' n (i + 1)
def backH (σ : List Nat) (h h' : AHeap) : Option AHeap := bif Nat.ble σ.length h'.next then match backObjs (backG σ h.next) (backF σ h.next) h'.objs h'.next 0 h.objs with
  | none => none
  | some objs => some ⟨objs, h.next + (h'.next - σ.length), h.glob⟩ else none
def CallH (l : List (Nat × Nat × List Nat)) (us : List Nat) (v : AV) (H : AHeap) (m : AM) (K : AM → Prop) : Prop := match m with
  | ⟨fr, rest, h⟩ => match rest with
    | [] => False
    | c :: r => match fr.kind with
      | .normal => match c.mode with
        | .run => match locM l us fr h with
          | none => False
          | some m' => match canV (backG (l.map (·.1)) h.next) 99 v with
            | none => False
            | some v2 => match backH (l.map (·.1)) h H with
              | none => False
              | some h2 => PlainFns (fnsH h.objs (locTab l)) (PlainFns (backFns H.objs H.next 0) (Goal P l.length fr.fn (fun x k => x = v ∧ k = H) m' ∧ Fin P c h2 v2 fun c => K ⟨c, r, h2⟩))
        | _ => False
      | _ => False
end
section
variable {P : Program} {B : Base} {R : Bij} {h : AHeap} {w : World}
theorem cells_step (kh : HRel P B R h w) {i ver o k : Nat} {L : Loc} (hL : R i ver = some L) (hm : L.minus ≤ o) {c : T AV} {n : Nat} {el : TypeId} {lo hi nv fz : Nat} {sg : Bool} {ex : T Nat} (ho : h.get i = some (.cells c n el lo hi nv fz sg ex)) {e : Nat}
    (he : extOf ex n hi ver = some e) (hb : (Nat.ble lo ver && Nat.ble ver hi && Nat.ble o k && Nat.blt k e) = true) {v : AV} (hv : c.get k = some v) : ∃ x, VRel R v x := by
  simp only [Bool.and_eq_true] at hb
  obtain ⟨⟨⟨h1, h2⟩, h3⟩, h4⟩ := hb
  obtain ⟨L', hL', cs, a, b, g1, g2, g3, g4, g5⟩ := kh.ver hL ho (Nat.le_of_ble_eq_true h1) (Nat.le_of_ble_eq_true h2) he
  rw [hL] at hL'; cases hL'
  have := Nat.le_of_ble_eq_true h3
  have h4 : k < e := by simpa [Nat.blt_eq] using h4
  obtain ⟨x, _, hx⟩ := g5 k v h4 (by omega) hv
  exact ⟨x, hx⟩
theorem wit_rel (kh : HRel P B R h w) : ∀ {p : List Nat} {v v' : AV} {x : Value}, wit h p v = some v' → VRel R v x → ∃ x', VRel R v' x'
  | [], v, v', x, e, hv => by cases e; exact ⟨x, hv⟩
  | k :: r, v, v', x, e, hv => by
    cases v <;> simp only [wit] at e
    case ptr i ver o =>
      obtain ⟨L, hL, hm, _⟩ := hv
      split at e
      · rename_i c n el lo hi nv fz sg ex ho
        split at e
        · rename_i e0 he
          cases hb : (Nat.ble lo ver && Nat.ble ver hi && Nat.ble o k && Nat.blt k e0) with
          | false => rw [hb] at e; cases e
          | true =>
            rw [hb] at e
            simp only [cond_true] at e
            split at e
            · rename_i y hy
              obtain ⟨z, hz⟩ := cells_step kh hL hm ho he hb hy
              exact wit_rel kh e hz
            · cases e
        · cases e
      · cases e
    case slc i ver o len cap =>
      obtain ⟨L, hL, hm, _⟩ := hv
      split at e
      · rename_i c n el lo hi nv fz sg ex ho
        split at e
        · rename_i e0 he
          cases hb : (Nat.ble lo ver && Nat.ble ver hi && Nat.ble o k && Nat.blt k e0) with
          | false => rw [hb] at e; cases e
          | true =>
            rw [hb] at e
            simp only [cond_true] at e
            split at e
            · rename_i y hy
              obtain ⟨z, hz⟩ := cells_step kh hL hm ho he hb hy
              exact wit_rel kh e hz
            · cases e
        · cases e
      · cases e
    case mp i =>
      obtain ⟨L, hL, _⟩ := hv
      split at e
      · rename_i es clock ho
        obtain ⟨L', es', hL', hh, hrel⟩ := kh.obj' hL ho
        split at e
        · rename_i en hen
          obtain ⟨b, _, hb⟩ := hrel.get k en hen
          exact wit_rel kh e hb.2.1
        · cases e
      · cases e
    case fn f a b =>
      obtain ⟨_, a', b', rfl, h1, h2⟩ := hv
      split at e
      · rename_i y hy
        obtain ⟨z, _, hz⟩ := (h1.append h2).get k y hy
        exact wit_rel kh e hz
      · cases e
    case ifc t y =>
      obtain ⟨z, _, hz⟩ := hv
      exact wit_rel kh e hz
    case agg l =>
      obtain ⟨a, rfl, h1⟩ := hv
      split at e
      · rename_i y hy
        obtain ⟨z, _, hz⟩ := h1.get k y hy
        exact wit_rel kh e hz
      · cases e
    case tup l =>
      obtain ⟨a, rfl, h1⟩ := hv
      split at e
      · rename_i y hy
        obtain ⟨z, _, hz⟩ := h1.get k y hy
        exact wit_rel kh e hz
      · cases e
    all_goals cases e
theorem headId_live {v : AV} {x : Value} {i : Nat} (hv : VRel R v x) (e : headId v = some i) : ∃ r L, R i r = some L := by
  cases v <;> simp only [headId, Option.some.injEq] at e
  case ptr => subst e; obtain ⟨L, hL, _⟩ := hv; exact ⟨_, L, hL⟩
  case slc => subst e; obtain ⟨L, hL, _⟩ := hv; exact ⟨_, L, hL⟩
  case slg => subst e; obtain ⟨L, a, hL, _⟩ := hv; exact ⟨_, L, hL⟩
  case mp => subst e; obtain ⟨L, hL, _⟩ := hv; exact ⟨_, L, hL⟩
  case yld => subst e; obtain ⟨L, hL, _⟩ := hv; exact ⟨_, L, hL⟩
  all_goals cases e
theorem ledTo_live (kh : HRel P B R h w) {t : T AV} {a : Array Value} (hs : Slots R t a) : ∀ {l : List (Nat × Nat × List Nat)}, ledTo h t l = true → ∀ q ∈ l, ∃ r L, R q.1 r = some L
  | [], _, q, hq => absurd hq List.not_mem_nil
  | (j, u, p) :: l, e, q, hq => by
    simp only [ledTo, Bool.and_eq_true] at e
    rcases List.mem_cons.1 hq with rfl | hq
    · have e := e.1
      split at e
      · cases e
      · rename_i v hv
        split at e
        · cases e
        · rename_i v' hv'
          split at e
          · cases e
          · rename_i i hi
            have := Nat.eq_of_beq_eq_true e
            subst this
            obtain ⟨x, _, hx⟩ := hs u v hv
            obtain ⟨x', hx'⟩ := wit_rel kh hv' hx
            exact headId_live hx' hi
    · exact ledTo_live kh hs e.2 q hq
theorem canF_slots {g : Nat → Nat → Option (Nat × Nat)} {d : Nat} {sus : Bool} {af af' : AFrame} {fr : Frame} {us : List Nat} (e : canF g us af = some af') (k : FrameRel P B R d sus h af fr) : Slots R af.tmps fr.tmps := by
  obtain ⟨fn, n, t, todo, ds, mode, kind, round⟩ := af
  simp only [canF] at e
  split at e
  · cases e
  split at e
  · cases e
  rename_i todo' htodo
  have k9 := k.top
  cases mode with
  | run =>
    change TodoRel P B R d sus h todo t fr.todo fr.tmps at k9
    cases todo with
    | nil => exact k9.2
    | cons it kk =>
      cases it with
      | drw a b c => exact absurd rfl (allO_items htodo _ List.mem_cons_self a b c)
      | _ => exact k9.2
  | returning => exact k9
  | panicking c => exact k9
theorem locTab_get {l : List (Nat × Nat × List Nat)} {i : Nat} {j : Nat} {t : Option Nat} (e : (locTab l)[i]? = some (j, t)) : (l.map (·.1))[i]? = some j ∧ t = none := by
  unfold locTab at e
  rw [List.getElem?_map] at e ⊢
  cases hl : l[i]? with
  | none => rw [hl] at e; cases e
  | some p => rw [hl] at e; cases e; exact ⟨rfl, rfl⟩
theorem locTab_of {l : List (Nat × Nat × List Nat)} {i : Nat} {j : Nat} (e : (l.map (·.1))[i]? = some j) : (locTab l)[i]? = some (j, none) := by
  unfold locTab
  rw [List.getElem?_map] at e ⊢
  cases hl : l[i]? with
  | none => rw [hl] at e; cases e
  | some p => rw [hl] at e; cases e; rfl
theorem backObjs_get {g : Nat → Nat → Option (Nat × Nat)} {f : Nat → Nat} {objs' : T AObj} : ∀ {n i : Nat} {acc r : T AObj}, backObjs g f objs' n i acc = some r → (∀ a b, i ≤ a → i ≤ b → a < i + n → b < i + n → f a = f b → a = b) → ∀ c o2, r.get c = some o2 →
    (∃ a, i ≤ a ∧ a < i + n ∧ f a = c ∧ ∃ o, objs'.get a = some o ∧ canO g none o = some o2) ∨ ((∀ a, i ≤ a → a < i + n → f a ≠ c) ∧ acc.get c = some o2)
  | 0, i, acc, r, e, _, c, o2, hc => by cases e; exact .inr ⟨fun a h1 h2 => by omega, hc⟩
  | n + 1, i, acc, r, e, hinj, c, o2, hc => by
    unfold backObjs at e
    have hinj' : ∀ a b, i + 1 ≤ a → i + 1 ≤ b → a < i + 1 + n → b < i + 1 + n → f a = f b → a = b := fun a b h1 h2 h3 h4 h5 => hinj a b (by omega) (by omega) (by omega) (by omega) h5
    split at e
    · rename_i ho
      rw [T.seq_eq] at e
      rcases backObjs_get e hinj' c o2 hc with ⟨a, h1, h2, h3, h4⟩ | ⟨h1, h2⟩
      · exact .inl ⟨a, by omega, by omega, h3, h4⟩
      · rw [T.get_set] at h2
        split at h2
        · cases h2
        · rename_i hne
          refine .inr ⟨fun a g1 g2 => ?_, h2⟩
          by_cases ha : a = i
          · subst ha; exact fun hh => hne hh.symm
          · exact h1 a (by omega) (by omega)
    · rename_i o ho
      split at e
      · cases e
      · rename_i o' ho'
        rw [T.seq_eq] at e
        rcases backObjs_get e hinj' c o2 hc with ⟨a, h1, h2, h3, h4⟩ | ⟨h1, h2⟩
        · exact .inl ⟨a, by omega, by omega, h3, h4⟩
        · rw [T.get_set] at h2
          split at h2
          · rename_i hce
            cases h2
            exact .inl ⟨i, Nat.le_refl _, by omega, hce.symm, o, ho, ho'⟩
          · rename_i hne
            refine .inr ⟨fun a g1 g2 => ?_, h2⟩
            by_cases ha : a = i
            · subst ha; exact fun hh => hne hh.symm
            · exact h1 a (by omega) (by omega)
theorem backObjs_other {g : Nat → Nat → Option (Nat × Nat)} {f : Nat → Nat} {objs' : T AObj} : ∀ {n i : Nat} {acc r : T AObj}, backObjs g f objs' n i acc = some r → ∀ c, (∀ a, i ≤ a → a < i + n → f a ≠ c) → r.get c = acc.get c
  | 0, i, acc, r, e, c, _ => by cases e; rfl
  | n + 1, i, acc, r, e, c, hc => by
    unfold backObjs at e
    have hne := hc i (Nat.le_refl _) (by omega)
    split at e
    · rw [T.seq_eq] at e
      rw [backObjs_other e c (fun a h1 h2 => hc a (by omega) (by omega)), T.get_set, if_neg (fun h => hne h.symm)]
    · split at e
      · cases e
      · rw [T.seq_eq] at e
        rw [backObjs_other e c (fun a h1 h2 => hc a (by omega) (by omega)), T.get_set, if_neg (fun h => hne h.symm)]
theorem ObjRel.live {i : Nat} {o : AObj} (k : ObjRel P R w i o) : ∃ r L, R i r = some L := by
  cases o with
  | cells c n el lo hi nv fz sg ex =>
    obtain ⟨a1, a2, a3, a4, a5⟩ := k
    obtain ⟨L, h1, _⟩ := a4 hi n a1 (Nat.le_refl _) (by simp [extOf])
    exact ⟨hi, L, h1⟩
  | map es clock => obtain ⟨L, es', h1, _⟩ := k; exact ⟨0, L, h1⟩
  | iter s p => obtain ⟨L, h1, _⟩ := k; exact ⟨0, L, h1⟩
  | loop lp => obtain ⟨L, lp', h1, _⟩ := k; exact ⟨0, L, h1⟩
  | dfrd ds => obtain ⟨L, ds', h1, _⟩ := k; exact ⟨0, L, h1⟩
  | ro c lo n => obtain ⟨L, cs, el, fz, h1, _⟩ := k; exact ⟨0, L, h1⟩
theorem backFns_mem {objs' : T AObj} : ∀ {n i a : Nat} {o : AObj} {f : Nat → Option AV}, i ≤ a → a < i + n → objs'.get a = some o → f ∈ fnsO o → f ∈ backFns objs' n i
  | 0, i, a, o, f, h1, h2, _, _ => by omega
  | n + 1, i, a, o, f, h1, h2, ho, hf => by
    unfold backFns
    by_cases ha : a = i
    · subst ha
      rw [ho]
      exact List.mem_append_left _ hf
    · have := backFns_mem (n := n) (i := i + 1) (by omega) (by omega) ho hf
      split
      · exact this
      · exact List.mem_append_right _ this
def locEnv (B : Base) (R : Bij) (w : World) (σ : List Nat) (tb : Tab) : Env := { w with
  own := fun b => ∃ j ∈ σ, ¬ B.ro j ∧ ∃ r L, R j r = some L ∧ L.block = b
  rob := fun b => ∃ j ∈ σ, B.ro j ∧ ∃ r L, R j r = some L ∧ L.block = b
  pin := tb.re R }
def locBase (B : Base) (R : Bij) (w : World) (σ : List Nat) (tb : Tab) : Base := ⟨locEnv B R w σ tb, fun i => ∃ j, σ[i]? = some j ∧ B.ro j, fun _ => none, fun _ => (0, 0)⟩
theorem locHRel (kh : HRel P B R h w) (hroom : B.n ≤ w.heap.size) {l : List (Nat × Nat × List Nat)} {h0 : AHeap} (hn : nodup (l.map (·.1)) = true) (hlive : ∀ q ∈ l, ∃ r L, R q.1 r = some L) (e : canHeap (locTab l) h = some h0)
    (hp : ∀ f ∈ fnsH h.objs (locTab l), PlainFn f) : HRel P (locBase B R w (l.map (·.1)) (locTab l)) ((locTab l).re R) h0 w := by
  obtain ⟨objs, next, glob⟩ := h
  simp only [canHeap] at e
  cases hlt : ((locTab l).all fun p => Nat.blt p.1 next) with
  | false => rw [hlt] at e; cases e
  | true =>
    rw [hlt] at e
    simp only [cond_true] at e
    split at e
    · cases e
    rename_i objs' hobjs
    cases e
    have hget := canObjs_get (n := 0) hobjs (fun q o' g => by cases g) (fun q => by rw [Nat.zero_add])
    have hsome := canObjs_some hobjs
    have hre : ∀ {i r L}, (locTab l).re R i r = some L → ∃ j, (l.map (·.1))[i]? = some j ∧ R j r = some L := by
      intro i r L e
      unfold Tab.re at e
      split at e
      · cases e
      · rename_i j hi; exact ⟨j, (locTab_get hi).1, e⟩
      · rename_i j t hi; cases (locTab_get hi).2
    have hmem : ∀ {i j : Nat}, (l.map (·.1))[i]? = some j → j ∈ l.map (·.1) := fun hi => List.mem_of_getElem? hi
    have hpend : ∀ {j : Nat}, j ∈ l.map (·.1) → B.pend j = none := fun hj => by
      obtain ⟨q, hq, rfl⟩ := List.mem_map.1 hj
      obtain ⟨r, L, hL⟩ := hlive q hq
      exact kh.live hL
    have hmay : ∀ b, (locBase B R w (l.map (·.1)) (locTab l)).may b → B.may b := by
      rintro b (h1 | ⟨j, _, hj, r, L, hL, rfl⟩)
      · exact .inl (Nat.le_trans hroom h1)
      · exact (kh.place j r L hL).1.elim id fun h => absurd h hj
    refine ⟨fun i hi r => ?_, fun i o' eo _ => ?_, (fun i o e => by cases e), fun i r L e => ?_, fun i hi => ?_, fun i hi => rfl, fun i r L hi e => ?_, fun b _ => rfl, fun i r L e => e, fun i r i' r' L L' e e' hbl hor => ?_, fun i r r' L L' e e' hbl => ?_, fun g c e => ?_⟩
    · have : (locTab l)[i]? = none := List.getElem?_eq_none hi
      simp only [Tab.re, this]
    · obtain ⟨j, t, o, q1, q2, q3⟩ := hget i o' eo
      obtain ⟨q4, rfl⟩ := locTab_get q1
      exact canO_rel ((locTab l).ok R) (fun _ r => by simp only [Tab.re, q1]) (fun t0 ht r => by cases ht) q3 (fun f hf => hp f (fnsH_mem hsome q1 q2 hf)) (kh.obj j o q2 (hpend (hmem q4)))
    · obtain ⟨j, q1, q2⟩ := hre e
      refine ⟨?_, (kh.place j r L q2).2⟩
      by_cases hr : B.ro j
      · exact .inr ⟨j, q1, hr⟩
      · exact .inl (.inr ⟨j, hmem q1, hr, r, L, q2, rfl⟩)
    · obtain ⟨j, q1, q2⟩ := hi
      refine ⟨by have := (List.getElem?_eq_some_iff.1 (locTab_of q1)).1; exact this, fun o' eo => ?_⟩
      obtain ⟨j', t', o, p1, p2, p3⟩ := hget i o' eo
      obtain ⟨p4, rfl⟩ := locTab_get p1
      rw [q1] at p4; cases p4
      have := (kh.rd j q2).2 o p2
      cases o with
      | ro c lo n => simp only [canO] at p3; cases p3; rfl
      | _ => cases this
    · obtain ⟨j, q1, q2⟩ := hi
      obtain ⟨j', p1, p2⟩ := hre e
      rw [q1] at p1; cases p1
      exact ⟨j, hmem q1, q2, r, L, p2, rfl⟩
    · obtain ⟨j, q1, q2⟩ := hre e
      obtain ⟨j', q1', q2'⟩ := hre e'
      have := kh.apart j r j' r' L L' q2 q2' hbl (hor.imp (fun hn hr => hn ⟨j, q1, hr⟩) (fun hn hr => hn ⟨j', q1', hr⟩))
      subst this
      exact nodup_inj hn q1 q1'
    · obtain ⟨j, q1, q2⟩ := hre e
      obtain ⟨j', q1', q2'⟩ := hre e'
      rw [q1] at q1'; cases q1'
      exact kh.same j r r' L L' q2 q2' hbl
    · obtain ⟨g1, g2⟩ := kh.glob g c e
      exact ⟨fun hm => g1 (hmay g hm), g2⟩
def backR (σ : List Nat) (next : Nat) (R R' : Bij) : Bij := fun c r => match (σ.map fun j => ((j, none) : Nat × Option Nat)) |> fun tb => Tab.find tb c with
  | some (i, _) => R' i r
  | none => if next ≤ c then R' (σ.length + (c - next)) r else R c r
theorem find_get {σ : List Nat} {c i : Nat} {t : Option Nat} (e : Tab.find (σ.map fun j => (j, none)) c = some (i, t)) : σ[i]? = some c := by
  have := (tabGo_some e).2
  simp only [Nat.sub_zero, List.getElem?_map] at this
  cases hs : σ[i]? with
  | none => rw [hs] at this; cases this
  | some x => rw [hs] at this; cases this; rfl
theorem find_of {c : Nat} : ∀ {σ : List Nat} {i k : Nat}, nodup σ = true → σ[i]? = some c → tabGo c (σ.map fun j => ((j, none) : Nat × Option Nat)) k = some (k + i, none)
  | [], i, k, _, e => by simp at e
  | j :: r, i, k, hn, e => by
    cases i with
    | zero =>
      simp at e; subst e
      simp [tabGo, Nat.beq_refl]
    | succ i =>
      have hne : j ≠ c := fun h => by
        subst h
        have := nodup_inj hn (p := 0) (q := i + 1) (j := j) (by simp) e
        omega
      have hb : Nat.beq j c = false := by
        cases hb : Nat.beq j c with
        | false => rfl
        | true => exact absurd (Nat.eq_of_beq_eq_true hb) hne
      have hn' : nodup r = true := by simp only [nodup, Bool.and_eq_true] at hn; exact hn.2
      have := find_of (σ := r) (i := i) (k := k + 1) hn' (by simpa using e)
      simp only [List.map_cons, tabGo, hb, cond_false]
      rw [this]
      congr 2
      omega
theorem find_none {σ : List Nat} {c : Nat} (e : Tab.find (σ.map fun j => ((j, none) : Nat × Option Nat)) c = none) (hn : nodup σ = true) : c ∉ σ := by
  intro hc
  obtain ⟨i, hi, he⟩ := List.getElem_of_mem hc
  have := find_of (σ := σ) (i := i) (k := 0) hn (by rw [List.getElem?_eq_getElem hi, he])
  unfold Tab.find at e
  rw [this] at e
  cases e
noncomputable def backBase (B B' : Base) (σ : List Nat) (next : Nat) (h2 : AHeap) : Base := { B with
  pend := fun c => match Tab.find (σ.map fun j => ((j, none) : Nat × Option Nat)) c with
    | some _ => none
    | none => if next ≤ c then (match B'.pend (σ.length + (c - next)) with
      | none => none
      | some _ => h2.get c) else B.pend c
  ro := fun c => match Tab.find (σ.map fun j => ((j, none) : Nat × Option Nat)) c with
    | some (i, _) => B'.ro i
    | none => if next ≤ c then B'.ro (σ.length + (c - next)) else B.ro c }
theorem CallH_goal {keep : Nat} {f0 : FuncId} {Q : AV → AHeap → Prop} {l : List (Nat × Nat × List Nat)} {us : List Nat} {v : AV} {H : AHeap} {m : AM} {K : AM → Prop} (e : CallH P l us v H m K) (hK : ∀ m, K m → Goal P keep f0 Q m) : Goal P keep f0 Q m := by
  intro w0 base fr cs w hk s
  obtain ⟨a, rest, h⟩ := m
  unfold CallH at e
  simp only at e
  split at e
  · exact e.elim
  rename_i c r
  split at e
  rotate_left
  · exact e.elim
  rename_i hkind
  split at e
  rotate_left
  · exact e.elim
  rename_i hcm
  split at e
  · exact e.elim
  rename_i m' hm'
  split at e
  · exact e.elim
  rename_i v2 hv2
  split at e
  · exact e.elim
  rename_i h2 hh2
  obtain ⟨hp1, e⟩ := PlainFns_mem e
  obtain ⟨hp2, hspec, hgo⟩ := PlainFns_mem e
  obtain ⟨B, R, fs, rfl, hb, kh, ho, kt, kb⟩ := s
  obtain ⟨f, fs', rfl, kf, kr⟩ := kb
  have hroom : B.n ≤ w.heap.size := by show B.env.heap.size ≤ _; rw [hb]; exact ho.size
  unfold locM at hm'
  cases hn : (nodup (l.map (·.1)) && ledTo h a.tmps l) with
  | false => rw [hn] at hm'; cases hm'
  | true =>
  rw [hn] at hm'
  rw [Bool.and_eq_true] at hn
  obtain ⟨hnd, hled⟩ := hn
  simp only [cond_true] at hm'
  split at hm'
  · cases hm'
  rename_i h0 hh0
  split at hm'
  · cases hm'
  rename_i a0 ha0
  cases hm'
  generalize hσ : l.map (·.1) = σ at *
  have hlen : l.length = σ.length := by rw [← hσ]; simp
  have hlive := ledTo_live kh (canF_slots ha0 kt) hled
  have hloc := locHRel kh hroom (by rw [hσ]; exact hnd) hlive hh0 hp1
  rw [hσ] at hloc
  obtain ⟨fr', w', B', R', v0, v', h', s1, s2, s3, s4, s5, s6, s7, rfl, rfl⟩ := hspec (locEnv B R w σ (locTab l)) (f :: fs' ++ base) fr (f :: fs' ++ base) w
    (fun i r L e => by
      have : i < (locTab l).length := by
        unfold locEnv at e
        simp only [Tab.re] at e
        split at e
        · cases e
        · rename_i j hi; exact (List.getElem?_eq_some_iff.1 hi).1
        · rename_i j t hi; exact (List.getElem?_eq_some_iff.1 hi).1
      simpa [locTab] using this)
    ⟨locBase B R w σ (locTab l), (locTab l).re R, [], rfl, rfl, hloc, ⟨rfl, rfl, rfl, Nat.le_refl _, Nat.le_refl _⟩, canF_rel ((locTab l).ok R) ha0 kt, rfl⟩
  have hold : OldX (locEnv B R w σ (locTab l)) w' := s7.all s5 s6
  have hpin : ∀ i r L, (locTab l).re R i r = some L → R' i r = some L := fun i r L e => s6.pin i r L (by rw [s5]; exact e)
  have hσget : ∀ {i j : Nat}, σ[i]? = some j → (locTab l)[i]? = some (j, none) := fun hi => locTab_of (by rw [hσ]; exact hi)
  have hpinσ : ∀ {i j : Nat}, σ[i]? = some j → ∀ r L, R j r = some L → R' i r = some L := fun hi r L e => hpin _ r L (by simp only [Tab.re, hσget hi]; exact e)
  have hσlt : ∀ {j : Nat}, j ∈ σ → j < h.next := fun hj => by
    rw [← hσ] at hj
    obtain ⟨q, hq, rfl⟩ := List.mem_map.1 hj
    obtain ⟨r, L, hL⟩ := hlive q hq
    rcases Nat.lt_or_ge q.1 h.next with h1 | h1
    · exact h1
    · rw [kh.fresh _ h1] at hL; cases hL
  have hσpend : ∀ {j : Nat}, j ∈ σ → B.pend j = none := fun hj => by
    rw [← hσ] at hj
    obtain ⟨q, hq, rfl⟩ := List.mem_map.1 hj
    obtain ⟨r, L, hL⟩ := hlive q hq
    exact kh.live hL
  have hσpend' : ∀ {i j : Nat}, σ[i]? = some j → B'.pend i = none := fun hi => by
    have hj := List.mem_of_getElem? hi
    rw [← hσ] at hj
    obtain ⟨q, hq, hqj⟩ := List.mem_map.1 hj
    obtain ⟨r, L, hL⟩ := hlive q hq
    rw [hqj] at hL
    exact s6.live (hpinσ hi r L hL)
  have hfind : ∀ c, (∃ i, σ[i]? = some c ∧ Tab.find (σ.map fun j => ((j, none) : Nat × Option Nat)) c = some (i, none)) ∨ (c ∉ σ ∧ Tab.find (σ.map fun j => ((j, none) : Nat × Option Nat)) c = none) := by
    intro c
    cases hc : Tab.find (σ.map fun j => ((j, none) : Nat × Option Nat)) c with
    | none => exact .inr ⟨find_none hc hnd, rfl⟩
    | some p =>
      obtain ⟨i, t⟩ := p
      have hi := find_get hc
      have := find_of (k := 0) hnd hi
      unfold Tab.find at hc
      rw [this, Nat.zero_add] at hc
      cases hc
      exact .inl ⟨i, hi, rfl⟩
  have hble : σ.length ≤ h'.next ∧ ∃ objs, backObjs (backG σ h.next) (backF σ h.next) h'.objs h'.next 0 h.objs = some objs ∧ h2 = ⟨objs, h.next + (h'.next - σ.length), h.glob⟩ := by
    unfold backH at hh2
    cases hbl : Nat.ble σ.length h'.next with
    | false => rw [hbl] at hh2; cases hh2
    | true =>
      rw [hbl] at hh2
      simp only [cond_true] at hh2
      split at hh2
      · cases hh2
      · rename_i objs hobjs; cases hh2; exact ⟨Nat.le_of_ble_eq_true hbl, objs, hobjs, rfl⟩
  obtain ⟨hkn, objs2, hobjs2, rfl⟩ := hble
  have hFσ : ∀ {i j : Nat}, σ[i]? = some j → backF σ h.next i = j := fun hi => by simp only [backF, hi]
  have hFn : ∀ {i : Nat}, σ.length ≤ i → backF σ h.next i = h.next + (i - σ.length) := fun hi => by simp only [backF, List.getElem?_eq_none hi]
  have hFinj : ∀ a b, 0 ≤ a → 0 ≤ b → a < 0 + h'.next → b < 0 + h'.next → backF σ h.next a = backF σ h.next b → a = b := by
    intro a b _ _ _ _ hab
    rcases Nat.lt_or_ge a σ.length with h1 | h1 <;> rcases Nat.lt_or_ge b σ.length with h3 | h3
    · have e1 := List.getElem?_eq_getElem h1
      have e2 := List.getElem?_eq_getElem h3
      rw [hFσ e1, hFσ e2] at hab
      rw [← hab] at e2
      exact nodup_inj hnd e1 e2
    · have e1 := List.getElem?_eq_getElem h1
      rw [hFσ e1, hFn h3] at hab
      have := hσlt (List.mem_of_getElem? e1)
      omega
    · have e2 := List.getElem?_eq_getElem h3
      rw [hFn h1, hFσ e2] at hab
      have := hσlt (List.mem_of_getElem? e2)
      omega
    · rw [hFn h1, hFn h3] at hab; omega
  have hget := backObjs_get hobjs2 hFinj
  have hR2σ : ∀ {i c r}, σ[i]? = some c → backR σ h.next R R' c r = R' i r := fun hi => by
    rcases hfind _ with ⟨i', h1, h3⟩ | ⟨h1, _⟩
    · have := nodup_inj hnd hi h1
      subst this
      simp only [backR, h3]
    · exact absurd (List.mem_of_getElem? hi) h1
  have hR2n : ∀ {i r}, σ.length ≤ i → backR σ h.next R R' (h.next + (i - σ.length)) r = R' i r := fun {i r} hi => by
    rcases hfind (h.next + (i - σ.length)) with ⟨i', h1, h3⟩ | ⟨h1, h3⟩
    · have := hσlt (List.mem_of_getElem? h1); omega
    · simp only [backR, h3]
      rw [if_pos (by omega)]
      congr 1
      omega
  have hR2o : ∀ {c r}, c ∉ σ → c < h.next → backR σ h.next R R' c r = R c r := fun {c r} h1 h3 => by
    rcases hfind c with ⟨i', h4, _⟩ | ⟨_, h4⟩
    · exact absurd (List.mem_of_getElem? h4) h1
    · simp only [backR, h4]
      rw [if_neg (by omega)]
  have hR2F : ∀ i r, backR σ h.next R R' (backF σ h.next i) r = R' i r := fun i r => by
    rcases Nat.lt_or_ge i σ.length with h1 | h1
    · have e1 := List.getElem?_eq_getElem h1
      rw [hFσ e1, hR2σ e1]
    · rw [hFn h1, hR2n h1]
  have hren : RenOk (backG σ h.next) R' (backR σ h.next R R') := fun i r j r' e L hL => by
    simp only [backG, Option.some.injEq, Prod.mk.injEq] at e
    obtain ⟨rfl, rfl⟩ := e
    rw [hR2F]; exact hL
  have hparts : ∀ c, (c ∉ σ ∧ c < h.next) ∨ ∃ i, backF σ h.next i = c ∧ (c ∈ σ ∨ h.next ≤ c) := by
    intro c
    by_cases hc : c ∈ σ
    · obtain ⟨i, hi, he⟩ := List.getElem_of_mem hc
      exact .inr ⟨i, hFσ (by rw [List.getElem?_eq_getElem hi, he]), .inl hc⟩
    · rcases Nat.lt_or_ge c h.next with h1 | h1
      · exact .inl ⟨hc, h1⟩
      · exact .inr ⟨σ.length + (c - h.next), by rw [hFn (by omega)]; omega, .inr h1⟩
  have hnot : ∀ {c i}, c ∉ σ → c < h.next → backF σ h.next i ≠ c := fun {c i} h1 h3 he => by
    rcases Nat.lt_or_ge i σ.length with h4 | h4
    · have e1 := List.getElem?_eq_getElem h4
      rw [hFσ e1] at he
      exact h1 (he ▸ List.mem_of_getElem? e1)
    · rw [hFn h4] at he; omega
  have hleR : R.le (backR σ h.next R R') := fun c r L e => by
    have hc : c < h.next := by
      rcases Nat.lt_or_ge c h.next with h1 | h1
      · exact h1
      · rw [kh.fresh c h1] at e; cases e
    by_cases hcσ : c ∈ σ
    · obtain ⟨i, hi, he⟩ := List.getElem_of_mem hcσ
      have e1 : σ[i]? = some c := by rw [List.getElem?_eq_getElem hi, he]
      rw [hR2σ e1]; exact hpinσ e1 r L e
    · rw [hR2o hcσ hc]; exact e
  have howned : ∀ b, (locEnv B R w σ (locTab l)).own b → B.may b := by
    rintro b ⟨j, _, hj, r0, L, hL, rfl⟩
    exact (kh.place j r0 L hL).1.elim id fun h => absurd h hj
  have hsame : ∀ {c r0 L}, c ∉ σ → R c r0 = some L → w'.heap[L.block]? = w.heap[L.block]? := fun {c r0 L} hc hL => by
    refine hold.other _ (kh.place c r0 L hL).2 ?_
    rintro ⟨j, hj, hjr, r1, M, hM, hbl⟩
    have := kh.apart j r1 c r0 M L hM hL hbl (.inl hjr)
    exact hc (this ▸ hj)
  have hmay : ∀ {i r0 L}, R' i r0 = some L → ¬ B'.ro i → B.may L.block := fun {i r0 L} hL hr => by
    have := (s6.place i r0 L hL).1.elim id fun h => absurd h hr
    rcases this with h1 | h1
    · refine .inl (Nat.le_trans hroom ?_)
      have : B'.env.heap.size ≤ L.block := h1
      rw [s5] at this
      exact this
    · rw [s5] at h1
      exact howned _ h1
  have hrob : ∀ {i r0 L}, R' i r0 = some L → B'.ro i → ∃ j ∈ σ, B.ro j ∧ ∃ r1 M, R j r1 = some M ∧ M.block = L.block := fun {i r0 L} hL hr => by
    have := s6.rol i r0 L hr hL
    rw [s5] at this
    obtain ⟨j, h1, h3, r1, M, h4, h5⟩ := this
    exact ⟨j, h1, h3, r1, M, h4, h5⟩
  have hroF : ∀ i, (backBase B B' σ h.next ⟨objs2, h.next + (h'.next - σ.length), h.glob⟩).ro (backF σ h.next i) = B'.ro i := fun i => by
    rcases Nat.lt_or_ge i σ.length with h1 | h1
    · have e1 := List.getElem?_eq_getElem h1
      rw [hFσ e1]
      rcases hfind σ[i] with ⟨i', h3, h4⟩ | ⟨h3, _⟩
      · have := nodup_inj hnd e1 h3
        subst this
        simp only [backBase, h4]
      · exact absurd (List.mem_of_getElem? e1) h3
    · rw [hFn h1]
      rcases hfind (h.next + (i - σ.length)) with ⟨i', h3, _⟩ | ⟨_, h4⟩
      · have := hσlt (List.mem_of_getElem? h3); omega
      · simp only [backBase, h4]
        rw [if_pos (by omega)]
        congr 1
        omega
  have hroO : ∀ c, c ∉ σ → c < h.next → (backBase B B' σ h.next ⟨objs2, h.next + (h'.next - σ.length), h.glob⟩).ro c = B.ro c := fun c h1 h3 => by
    rcases hfind c with ⟨i', h4, _⟩ | ⟨_, h4⟩
    · exact absurd (List.mem_of_getElem? h4) h1
    · simp only [backBase, h4]
      rw [if_neg (by omega)]
  have hpendσ : ∀ c, c ∈ σ → (backBase B B' σ h.next ⟨objs2, h.next + (h'.next - σ.length), h.glob⟩).pend c = none := fun c h1 => by
    rcases hfind c with ⟨i', _, h4⟩ | ⟨h4, _⟩
    · simp only [backBase, h4]
    · exact absurd h1 h4
  have hpendO : ∀ c, c ∉ σ → c < h.next → (backBase B B' σ h.next ⟨objs2, h.next + (h'.next - σ.length), h.glob⟩).pend c = B.pend c := fun c h1 h3 => by
    rcases hfind c with ⟨i', h4, _⟩ | ⟨_, h4⟩
    · exact absurd (List.mem_of_getElem? h4) h1
    · simp only [backBase, h4]
      rw [if_neg (by omega)]
  have hpendN : ∀ c, h.next ≤ c → (backBase B B' σ h.next ⟨objs2, h.next + (h'.next - σ.length), h.glob⟩).pend c = (match B'.pend (σ.length + (c - h.next)) with
      | none => none
      | some _ => (⟨objs2, h.next + (h'.next - σ.length), h.glob⟩ : AHeap).get c) := fun c h1 => by
    rcases hfind c with ⟨i', h3, _⟩ | ⟨_, h4⟩
    · have := hσlt (List.mem_of_getElem? h3); omega
    · simp only [backBase, h4]
      rw [if_pos h1]
  have hH : HRel P (backBase B B' σ h.next ⟨objs2, h.next + (h'.next - σ.length), h.glob⟩) (backR σ h.next R R') ⟨objs2, h.next + (h'.next - σ.length), h.glob⟩ w' := by
    refine ⟨fun c hc r0 => ?_, fun c o2 eo hpe => ?_, fun c o2 e => ?_, fun c r0 L e => ?_, fun c hc => ?_, fun c hc => ?_, fun c r0 L hc e => ?_, fun b hbm => ?_, fun c r0 L e => ?_, fun c r0 c' r0' L L' e e' hbl hor => ?_, fun c r0 r0' L L' e e' hbl => ?_, fun g cc e => ?_⟩
    ·
      have hc : h.next + (h'.next - σ.length) ≤ c := hc
      have : backR σ h.next R R' c r0 = R' (σ.length + (c - h.next)) r0 := by
        have := hR2n (i := σ.length + (c - h.next)) (r := r0) (by omega)
        rwa [show h.next + (σ.length + (c - h.next) - σ.length) = c by omega] at this
      rw [this]
      exact s6.fresh _ (by omega) r0
    ·
      rcases hget c o2 eo with ⟨i, _, hi, hic, o, ho1, ho2⟩ | ⟨hno, hold2⟩
      · subst hic
        have hpi : B'.pend i = none := by
          rcases Nat.lt_or_ge i σ.length with h1 | h1
          · exact hσpend' (List.getElem?_eq_getElem h1)
          · rw [hFn h1, hpendN _ (by omega)] at hpe
            rw [show σ.length + (h.next + (i - σ.length) - h.next) = i by omega] at hpe
            cases hb : B'.pend i with
            | none => rfl
            | some o0 =>
              rw [hb] at hpe
              simp only at hpe
              rw [hFn h1] at eo
              rw [eo] at hpe
              cases hpe
        exact canO_rel hren (fun _ r => hR2F i r) (fun t0 ht => by cases ht) ho2 (fun f hf => hp2 f (backFns_mem (Nat.zero_le _) hi ho1 hf)) (s6.obj i o ho1 hpi)
      · rcases hparts c with ⟨h1, h3⟩ | ⟨i, hic, h3⟩
        · rw [hpendO c h1 h3] at hpe
          exact (kh.obj c o2 hold2 hpe).mono hleR (fun r => hR2o h1 h3) (fun r L hL => hsame h1 hL)
        · exfalso
          rcases h3 with h3 | h3
          · obtain ⟨i', hi', he⟩ := List.getElem_of_mem h3
            exact hno i' (Nat.zero_le _) (by omega) (hFσ (by rw [List.getElem?_eq_getElem hi', he]))
          · have hold2 : h.get c = some o2 := hold2
            have hpc : B.pend c = none := by
              cases hb : B.pend c with
              | none => rfl
              | some o0 => exact absurd (kh.pend c o0 hb).1 (Nat.not_lt.2 h3)
            obtain ⟨r1, L, hL⟩ := (kh.obj c o2 hold2 hpc).live
            rw [kh.fresh c h3] at hL
            cases hL
    ·
      by_cases hc : c ∈ σ
      · rw [hpendσ c hc] at e; cases e
      · rcases Nat.lt_or_ge c h.next with h1 | h1
        · rw [hpendO c hc h1] at e
          obtain ⟨g1, g2, g3⟩ := kh.pend c o2 e
          refine ⟨by show c < h.next + _; omega, ?_, fun r0 => by rw [hR2o hc h1]; exact g3 r0⟩
          exact (backObjs_other hobjs2 c fun a _ _ => hnot hc h1).trans g2
        · rw [hpendN c h1] at e
          cases hb : B'.pend (σ.length + (c - h.next)) with
          | none => rw [hb] at e; cases e
          | some o0 =>
            rw [hb] at e
            simp only at e
            obtain ⟨g1, g2, g3⟩ := s6.pend _ o0 hb
            refine ⟨by show c < h.next + _; omega, e, fun r0 => ?_⟩
            have := hR2n (i := σ.length + (c - h.next)) (r := r0) (by omega)
            rw [show h.next + (σ.length + (c - h.next) - σ.length) = c by omega] at this
            rw [this]; exact g3 r0
    ·
      rcases hparts c with ⟨h1, h3⟩ | ⟨i, rfl, _⟩
      · rw [hR2o h1 h3] at e
        refine ⟨?_, Nat.lt_of_lt_of_le (kh.place c r0 L e).2 s7.size⟩
        rw [hroO c h1 h3]
        exact (kh.place c r0 L e).1
      · rw [hR2F] at e
        refine ⟨?_, (s6.place i r0 L e).2⟩
        rw [hroF]
        by_cases hr : B'.ro i
        · exact .inr hr
        · exact .inl (hmay e hr)
    ·
      rcases hparts c with ⟨h1, h3⟩ | ⟨i, rfl, h3⟩
      · rw [hroO c h1 h3] at hc
        refine ⟨by show c < h.next + _; omega, fun o2 eo => ?_⟩
        rcases hget c o2 eo with ⟨i, _, hi, hic, _⟩ | ⟨_, hold2⟩
        · exact absurd hic (hnot h1 h3)
        · exact (kh.rd c hc).2 o2 hold2
      · rw [hroF] at hc
        obtain ⟨g1, g2⟩ := s6.rd i hc
        refine ⟨?_, fun o2 eo => ?_⟩
        · show backF σ h.next i < h.next + (h'.next - σ.length)
          rcases Nat.lt_or_ge i σ.length with h4 | h4
          · have e1 := List.getElem?_eq_getElem h4
            rw [hFσ e1]
            have := hσlt (List.mem_of_getElem? e1)
            omega
          · rw [hFn h4]; omega
        · rcases hget _ o2 eo with ⟨i', _, hi', hic, o, ho1, ho2⟩ | ⟨hno, _⟩
          · have := hFinj i' i (Nat.zero_le _) (Nat.zero_le _) hi' (by omega) hic
            subst this
            have := g2 o ho1
            cases o with
            | ro c lo n => simp only [canO] at ho2; cases ho2; rfl
            | _ => cases this
          · exact absurd rfl (hno i (Nat.zero_le _) (by omega))
    ·
      by_cases hcσ : c ∈ σ
      · exact hpendσ c hcσ
      · rcases Nat.lt_or_ge c h.next with h1 | h1
        · rw [hroO c hcσ h1] at hc
          rw [hpendO c hcσ h1]
          exact kh.rp c hc
        · have hF : backF σ h.next (σ.length + (c - h.next)) = c := by rw [hFn (by omega)]; omega
          have := hroF (σ.length + (c - h.next))
          rw [hF] at this
          rw [this] at hc
          rw [hpendN c h1, s6.rp _ hc]
    ·
      rcases hparts c with ⟨h1, h3⟩ | ⟨i, rfl, _⟩
      · rw [hroO c h1 h3] at hc
        rw [hR2o h1 h3] at e
        exact kh.rol c r0 L hc e
      · rw [hroF] at hc
        rw [hR2F] at e
        obtain ⟨j, _, hj, r1, M, hM, hbl⟩ := hrob e hc
        rw [← hbl]
        exact kh.rol j r1 M hj hM
    ·
      have hbm' : ¬ B.may b := hbm
      have hlt := Nat.lt_of_lt_of_le (Base.low_lt hbm') hroom
      exact (hold.other b hlt (fun h => hbm' (howned b h))).trans (kh.low b hbm')
    · exact hleR _ _ _ (kh.pin c r0 L e)
    ·
      have cross : ∀ {c r0 L i r1 M}, c ∉ σ → c < h.next → R c r0 = some L → R' i r1 = some M → L.block = M.block → (¬ B.ro c ∨ ¬ B'.ro i) → False := by
        intro c r0 L i r1 M h1 h3 hL hM hbl hor
        by_cases hr : B'.ro i
        · obtain ⟨j, hj, hjr, r2, N, hN, hbN⟩ := hrob hM hr
          have := kh.apart c r0 j r2 L N hL hN (hbl.trans hbN.symm) (.inl (hor.resolve_right (fun h => h hr)))
          exact h1 (this ▸ hj)
        · have := (s6.place i r1 M hM).1.elim id fun h => absurd h hr
          rcases this with h4 | h4
          · have h4 : B'.env.heap.size ≤ M.block := h4
            rw [s5] at h4
            have h4 : w.heap.size ≤ M.block := h4
            have := (kh.place c r0 L hL).2
            omega
          · rw [s5] at h4
            obtain ⟨j, hj, hjr, r2, N, hN, hbN⟩ := h4
            have := kh.apart c r0 j r2 L N hL hN (hbl.trans hbN.symm) (.inr hjr)
            exact h1 (this ▸ hj)
      rcases hparts c with ⟨h1, h3⟩ | ⟨i, rfl, _⟩ <;> rcases hparts c' with ⟨h1', h3'⟩ | ⟨i', rfl, _⟩
      · rw [hR2o h1 h3] at e
        rw [hR2o h1' h3'] at e'
        rw [hroO c h1 h3, hroO c' h1' h3'] at hor
        exact kh.apart c r0 c' r0' L L' e e' hbl hor
      · rw [hR2o h1 h3] at e
        rw [hR2F] at e'
        rw [hroO c h1 h3, hroF] at hor
        exact (cross h1 h3 e e' hbl hor).elim
      · rw [hR2F] at e
        rw [hR2o h1' h3'] at e'
        rw [hroO c' h1' h3', hroF] at hor
        exact (cross h1' h3' e' e hbl.symm hor.symm).elim
      · rw [hR2F] at e e'
        rw [hroF, hroF] at hor
        rw [s6.apart i r0 i' r0' L L' e e' hbl hor]
    ·
      rcases hparts c with ⟨h1, h3⟩ | ⟨i, rfl, _⟩
      · rw [hR2o h1 h3] at e e'
        exact kh.same c r0 r0' L L' e e' hbl
      · rw [hR2F] at e e'
        exact s6.same i r0 r0' L L' e e' hbl
    ·
      obtain ⟨g1, cs, el, fz, g2, g3⟩ := kh.glob g cc e
      refine ⟨g1, cs, el, fz, (hold.other g (heap_lt g2) (fun h => g1 (howned g h))).trans g2, g3⟩
  have hkeep : B.keeps (backBase B B' σ h.next ⟨objs2, h.next + (h'.next - σ.length), h.glob⟩) (r.length + 1) := ⟨rfl, fun id ob e _ => by
    have h1 : id ∉ σ := fun hm => by rw [hσpend hm] at e; cases e
    have h3 := (kh.pend id ob e).1
    exact ⟨by rw [hpendO id h1 h3]; exact e, rfl⟩⟩
  obtain ⟨c', q1, q2⟩ := Fin_some hgo
  have hsim : Sim P w0 base ⟨c', r, ⟨objs2, h.next + (h'.next - σ.length), h.glob⟩⟩ (f.finish v') (fs' ++ base) w' :=
    ⟨backBase B B' σ h.next ⟨objs2, h.next + (h'.next - σ.length), h.glob⟩, backR σ h.next R R', fs', rfl, hb, hH, ⟨s7.os.trans ho.os, s7.tape.trans ho.tape, s7.output.trans ho.output, Nat.le_trans ho.size s7.size, Nat.le_trans ho.drawn s7.drawn⟩,
      finish_sound (kf.mono (h' := h) hleR hkeep (Nat.lt_succ_self _)) hcm q1 (canV_rel hren 99 _ _ _ hv2 s4), kr.mono hleR hkeep (Nat.le_succ _)⟩
  obtain ⟨fr2, w2, B2, R2, v3, v3', h3, t1, t2⟩ := hK _ q2 w0 base _ _ w' hk hsim
  exact ⟨fr2, w2, B2, R2, v3, v3', h3, s1.trans (.head (leaves s2) t1), t2⟩
end
end Go.Proofs.YtdbfpjgnlfejmaaDoor.Ev
end
section
namespace Go.Proofs.YtdbfpjgnlfejmaaDoor.Ev
open Go
noncomputable section
variable (P : Program)
def overT (c : T AV) (off n : Nat) (f : Nat → Option AV) : T AV := .fn fun k => bif Nat.ble off k && Nat.blt k (off + n) then f (k - off) else c.get k
def srcRow (h : AHeap) (id ver off n size : Nat) : Option ((Nat → Option AV) × Prop) := match h.get id with
  | some (.ro c lo m) => bif Nat.beq ver 0 then some (fun k => c.get (off + k), (lo ≤ off ∧ off + n * size ≤ m) ∧ ∀ k, k < n * size → ∃ v, c.get (off + k) = some v ∧ AV.one v = true) else none
  | some (.cells c m _ lo hi _ _ _ ex) => match extOf ex m hi ver with
    | none => none
    | some e => bif Nat.ble lo ver && Nat.ble ver hi then some (fun k => c.get (off + k), off + n * size ≤ e ∧ ∀ k, k < n * size → ∃ v, c.get (off + k) = some v ∧ AV.one v = true) else none
  | _ => none
def srcFirst (h : AHeap) (size n : Nat) (x : AV) : Option ((Nat → Option AV) × Prop) := match x with
  | .str s => bif Nat.beq size 1 then some (fun k => some (.int .u8 (s.getD k 0).toNat), n ≤ s.length) else none
  | .slc id ver off _ _ => srcRow h id ver off n size
  | .slg id ver off _ _ => srcRow h id ver off n size
  | _ => none
def srcW (h : AHeap) (size bytes : Nat) (z : AV) (zeros : Bool) (x : AV) : Option (Nat × (Nat → Option AV) × Prop) := match zeros with
  | true => match x with
    | .int _ l => bif Nat.beq size 1 then some (l.toNat, fun _ => z.cells.head?, (0 ≤ l ∧ l < 2 ^ 40) ∧ l.toNat * bytes ≤ 2 ^ 48) else none
    | _ => none
  | false => match countA x with
    | none => none
    | some n => match srcFirst h size n x with
      | none => none
      | some (f, p) => some (n, f, p)
def inPlaceW (h : AHeap) (size id ver off sLen cap n : Nat) (f : Nat → Option AV) (p : Prop) : Option (AR × Prop) := match h.get id with
  | some (.cells c m el lo hi nv fz sg ex) => match extOf ex m hi ver with
    | none => none
    | some e => bif Nat.ble lo ver && Nat.ble ver hi then
        some (.val (.slc id ver off (sLen + n) cap) (h.put id (.cells (overT c (off + sLen * size) (n * size) f) e el ver ver nv fz sg ex)),
          p ∧ sLen + n ≤ cap ∧ off + sLen * size + n * size ≤ e ∧ fz ≤ off + sLen * size ∧ match Nat.beq lo ver && Nat.beq hi ver with
            | true => True
            | false => 0 < n)
      else none
  | _ => none
def freshW (h : AHeap) (el : TypeId) (bytes size n : Nat) (f : Nat → Option AV) (p : Prop) : Option (AR × Prop) :=
  some (.val (.slg h.next 0 0 n 0) (h.new (.cells (.fn f) (n * size) el 0 0 1 0 false .leaf)), p ∧ 0 < n ∧ roomA n bytes = true)
def movedW (h : AHeap) (el : TypeId) (bytes size id ver off sLen cap n : Nat) (f : Nat → Option AV) (p : Prop) : Option (AR × Prop) := match srcRow h id ver off sLen size with
  | none => none
  | some (g, q) => some (.val (.slg h.next 0 0 (sLen + n) 0) (h.new (.cells (.fn fun k => bif Nat.blt k (sLen * size) then g k else f (k - sLen * size)) (sLen * size + n * size) el 0 0 1 0 false .leaf)),
      p ∧ q ∧ 0 < n ∧ cap < sLen + n ∧ roomA (sLen + n) bytes = true)
def growW (h : AHeap) (el : TypeId) (bytes size id ver off sLen st n : Nat) (f : Nat → Option AV) (p : Prop) : Option (AR × Prop) := match h.get id with
  | some (.cells c m el' lo hi nv fz sg ex) => match extOf ex m hi ver with
    | none => none
    | some e => bif Nat.ble lo ver && Nat.ble ver hi && Nat.beq el' el && Nat.blt hi nv then
        some (.val (.slg id nv off (sLen + n) st) (h.put id (.cells (overT c (off + sLen * size) (n * size) f) (off + sLen * size + n * size) el nv nv (nv + 1) fz sg ex)),
          p ∧ 0 < n ∧ off + sLen * size ≤ e ∧ fz ≤ off + sLen * size ∧ off = st * size ∧ roomA (sLen + n) bytes = true ∧ e < off + (sLen + n) * size)
      else none
  | _ => none
def knownW (h : AHeap) (el : TypeId) (size id ver off sLen st n : Nat) (f : Nat → Option AV) (p : Prop) : Option (AR × Prop) := match h.get id with
  | some (.cells c m el' lo hi nv fz sg ex) => match extOf ex m hi ver with
    | none => none
    | some e => bif Nat.ble lo ver && Nat.ble ver hi && Nat.beq el' el then
        some (.val (.slg id ver off (sLen + n) st) (h.put id (.cells (overT c (off + sLen * size) (n * size) f) e el' ver ver nv fz sg ex)),
          p ∧ 0 < n ∧ off + (sLen + n) * size ≤ e ∧ off + sLen * size + n * size ≤ e ∧ fz ≤ off + sLen * size ∧ off = st * size)
      else none
  | _ => none
def appendW (moved : Bool) (h : AHeap) (t : TypeId) (zeros : Bool) (s x : AV) : Option (AR × Prop) := match P.underlying t with
  | some (.slice el) => match P.info? el with
    | none => none
    | some i => match zeroA P el with
      | none => none
      | some z => match Nat.blt 0 i.size && Nat.beq z.cells.length i.size && z.cells.all AV.one with
        | false => none
        | true => match srcW h i.size i.bytes z zeros x with
          | none => none
          | some (n, f, p) => match s with
            | .nils 0 0 => freshW h el i.bytes i.size n f p
            | .slc id ver off sLen cap => match moved with
              | false => inPlaceW h i.size id ver off sLen cap n f p
              | true => movedW h el i.bytes i.size id ver off sLen cap n f p
            | .slg id ver off sLen st => match moved with
              | false => growW h el i.bytes i.size id ver off sLen st n f p
              | true => knownW h el i.size id ver off sLen st n f p
            | _ => none
  | _ => none
def storeW (h : AHeap) (id ver off : Nat) (n : Nat) (f : Nat → Option AV) (r : AHeap → AR) (p : Prop) : Option (AR × Prop) := match h.get id with
  | some (.cells c m el lo hi nv fz sg ex) => match extOf ex m hi ver with
    | none => none
    | some e => bif Nat.ble lo ver && Nat.ble ver hi then
        some (r (h.put id (.cells (overT c off n f) e el ver ver nv fz sg ex)), p ∧ off + n ≤ e ∧ fz ≤ off)
      else none
  | _ => none
def putW (h : AHeap) (id ver off : Nat) (v : AV) : Option (AR × Prop) := match h.get id with
  | some (.cells c m el lo hi nv fz sg ex) => match extOf ex m hi ver with
    | none => none
    | some e => bif Nat.ble lo ver && Nat.ble ver hi then
        some (.skip (h.put id (.cells (.fn fun k => bif Nat.beq k off then some v else c.get k) e el ver ver nv fz sg ex)), off + 1 ≤ e ∧ fz ≤ off)
      else none
  | _ => none
def storeOpW (h : AHeap) (t : TypeId) (p v : AV) : Option (AR × Prop) := match p with
  | .ptr id ver off => match P.info? t with
    | none => none
    | some i => match Nat.beq v.cells.length i.size && v.cells.all AV.one with
      | false => none
      | true => match v.cells with
        | [x] => putW h id ver off x
        | l => storeW h id ver off l.length (fun k => l[k]?) .skip True
  | _ => none
def copyW (h : AHeap) (t : TypeId) (dst src : AV) : Option (AR × Prop) := match P.underlying t with
  | some (.slice el) => match sizeT P el with
    | none => none
    | some s => match lenSlice dst with
      | none => none
      | some dn => match countA src with
        | none => none
        | some sn => match srcFirst h s (Nat.min sn dn) src with
          | none => none
          | some (f, p) => match dst with
            | .slc id ver off _ _ => storeW h id ver off (Nat.min sn dn * s) f (fun h => .val (.int .i64 (Nat.min sn dn : Nat)) h) p
            | .slg id ver off _ _ => storeW h id ver off (Nat.min sn dn * s) f (fun h => .val (.int .i64 (Nat.min sn dn : Nat)) h) p
            | _ => none
  | _ => none
def makeW (h : AHeap) (t : TypeId) (len cap : AV) : Option (AR × Prop) := match P.underlying t with
  | some (.slice el) => match len with
    | .int _ l => match cap with
      | .int _ c => match P.info? el with
        | none => none
        | some i => match zeroA P el with
          | none => none
          | some z => match Nat.beq i.size 1 && Nat.beq z.cells.length 1 && z.cells.all AV.one with
            | false => none
            | true => some (.val (.slc h.next 0 0 l.toNat c.toNat) (h.new (.cells (.fn fun _ => z.cells.head?) c.toNat el 0 0 1 0 false .leaf)), 0 ≤ l ∧ l ≤ c ∧ c < 2 ^ 40 ∧ i.bytes * c ≤ 2 ^ 48)
      | _ => none
    | _ => none
  | _ => none
def clearW (h : AHeap) (t : TypeId) (x : AV) : Option (AR × Prop) := match P.underlying t with
  | some (.slice el) => match zeroA P el with
    | none => none
    | some z => match z.cells.all AV.one with
      | false => none
      | true => match x with
        | .slc id ver off n _ => storeW h id ver off (n * z.cells.length) (fun k => z.cells[k % z.cells.length]?) (fun h => .val (.tup []) h) (0 < n)
        | .slg id ver off n _ => storeW h id ver off (n * z.cells.length) (fun k => z.cells[k % z.cells.length]?) (fun h => .val (.tup []) h) (0 < n)
        | _ => none
  | _ => none
def opW (moved : Bool) (ρ : Operand → Option AV) (h : AHeap) (o : Op) : Option (AR × Prop) := match o with
  | .store t a x => two' ρ a x fun p v => storeOpW P h t p v
  | .makeSlice t l c => two' ρ l c fun a b => makeW P h t a b
  | .call c => match mapO ρ c.args.toList with
    | none => none
    | some args => match c.callee with
      | .builtin b => match b with
        | .append => match c.argTypes[0]? with
          | none => none
          | some t => match c.argTypes[1]? with
            | none => none
            | some u => match isIntT P u with
              | none => none
              | some z => match two1 args with
                | none => none
                | some (s, x) => appendW P moved h t z s x
        | .copy => match c.argTypes[0]? with
          | none => none
          | some t => match two1 args with
            | none => none
            | some (d, s) => copyW P h t d s
        | .clear => match c.argTypes[0]? with
          | none => none
          | some t => match args with
            | [x] => clearW P h t x
            | _ => none
        | _ => none
      | _ => none
  | _ => none
def actsIn (fr : AFrame) (o : Oper) : Bool := match fr.todo with
  | .drw _ _ _ :: _ => isEff P o
  | _ => true
def OpWK [XT P] (moved : Bool) (m : AM) (K : AM → Prop) : Prop := match m with
  | ⟨fr, rest, h⟩ => match fr.mode with
    | .run => match topOp fr with
      | none => False
      | some (all, o) => match wantedA all fr.tmps o.guard with
        | some true => match actsIn P fr o with
          | false => False
          | true => match opW P moved (ev fr.tmps) h o.op with
            | none => False
            | some (r, p) => p ∧ Upon P fr rest h r K
        | _ => False
    | _ => False
end
section
variable {P : Program}
def LessH (P : Program) (id : Nat) (hE hW : AHeap) : Prop := ∃ (oE oW : AObj), hE.get id = some oE ∧ hW.next = hE.next ∧ hW.glob = hE.glob ∧ (∀ i, hW.get i = if i = id then some oW else hE.get i) ∧
  oE.isRo = false ∧ oW.isRo = false ∧ ∀ (R : Bij) (w : World), ObjRel P R w id oE → ObjRel P R w id oW
theorem HRel.less {B : Base} {R : Bij} {w : World} {id : Nat} {hE hW : AHeap} (e : LessH P id hE hW) (hp : B.pend id = none) (kh : HRel P B R hE w) : HRel P B R hW w := by
  obtain ⟨o, o', hobj, hnext, hglob, hget, hro, hro', hsw⟩ := e
  refine ⟨fun i hi => kh.fresh i (by rw [← hnext]; exact hi), fun i x eo hpe => ?_, fun i x eo => ?_, kh.place, fun i hi => ⟨by rw [hnext]; exact (kh.rd i hi).1, fun x eo => ?_⟩, kh.rp, kh.rol, kh.low, kh.pin, kh.apart, kh.same, fun g c e => kh.glob g c (by rw [← hglob]; exact e)⟩
  · rw [hget] at eo
    split at eo
    · rename_i hi
      subst hi
      cases eo
      exact hsw R w (kh.obj i _ hobj hpe)
    · exact kh.obj i x eo hpe
  · obtain ⟨h1, h2, h3⟩ := kh.pend i x eo
    refine ⟨by rw [hnext]; exact h1, ?_, h3⟩
    rw [hget, if_neg (fun h => by rw [h, hp] at eo; cases eo)]
    exact h2
  · rw [hget] at eo
    split at eo
    · rename_i hi'
      subst hi'
      cases eo
      have := (kh.rd i hi).2 _ hobj
      rw [hro] at this; cases this
    · exact (kh.rd i hi).2 x eo
theorem LessH.put {h : AHeap} {id : Nat} {oE oW : AObj} (h1 : oE.isRo = false) (h2 : oW.isRo = false) (hsw : ∀ (R : Bij) (w : World), ObjRel P R w id oE → ObjRel P R w id oW) : LessH P id (h.put id oE) (h.put id oW) := by
  obtain ⟨objs, next, glob⟩ := h
  refine ⟨oE, oW, ?_, rfl, rfl, fun i => ?_, h1, h2, hsw⟩
  · show (objs.set (some oE) id).get id = _
    rw [T.get_set, if_pos rfl]
  · show (objs.set (some oW) id).get i = if i = id then some oW else (objs.set (some oE) id).get i
    rw [T.get_set, T.get_set]
    split <;> rfl
theorem LessH.new {h : AHeap} {oE oW : AObj} (h1 : oE.isRo = false) (h2 : oW.isRo = false) (hsw : ∀ (R : Bij) (w : World), ObjRel P R w h.next oE → ObjRel P R w h.next oW) : LessH P h.next (h.new oE) (h.new oW) := by
  obtain ⟨objs, next, glob⟩ := h
  refine ⟨oE, oW, ?_, rfl, rfl, fun i => ?_, h1, h2, hsw⟩
  · show (objs.set (some oE) next).get next = _
    rw [T.get_set, if_pos rfl]
  · show (objs.set (some oW) next).get i = if i = next then some oW else (objs.set (some oE) next).get i
    rw [T.get_set, T.get_set]
    split <;> rfl
theorem cells_less {i : Nat} {cE cW : T AV} {n : Nat} {el : TypeId} {lo lo' hi nv fz : Nat} {sg : Bool} {ex ex' : T Nat} (hle : ∀ k v, k < n → cW.get k = some v → cE.get k = some v) (h1 : lo ≤ lo') (h2 : lo' ≤ hi)
    (hx : ∀ r e, lo' ≤ r → r ≤ hi → extOf ex' n hi r = some e → extOf ex n hi r = some e) (R : Bij) (w : World) (k : ObjRel P R w i (.cells cE n el lo hi nv fz sg ex)) : ObjRel P R w i (.cells cW n el lo' hi nv fz sg ex') := by
  obtain ⟨a1, a2, a3, a4, a5⟩ := k
  refine ⟨h2, a2, a3, fun r e b1 b2 b3 => ?_, fun r e b1 b2 b3 => a5 r e (Nat.le_trans h1 b1) b2 (hx r e b1 b2 b3)⟩
  have b3' := hx r e b1 b2 b3
  obtain ⟨L, g1, cs, a, b, c1, c2, c3, c4, c5⟩ := a4 r e (Nat.le_trans h1 b1) b2 b3'
  exact ⟨L, g1, cs, a, b, c1, c2, c3, c4, fun q v q1 q2 q3 => c5 q v q1 q2 (hle q v (Nat.lt_of_lt_of_le q1 (a5 r e (Nat.le_trans h1 b1) b2 b3')) q3)⟩
theorem cells_less' {i : Nat} {cE cW : T AV} {n : Nat} {el : TypeId} {lo hi nv fz : Nat} {sg : Bool} {ex : T Nat} (hle : ∀ k v, k < n → cW.get k = some v → cE.get k = some v) (R : Bij) (w : World) (k : ObjRel P R w i (.cells cE n el lo hi nv fz sg ex)) : ObjRel P R w i (.cells cW n el lo hi nv fz sg ex) :=
  cells_less hle (Nat.le_refl _) k.1 (fun _ _ _ _ e => e) R w k
def Lives (h : AHeap) (vs : List AV) (id : Nat) : Prop := id = h.next ∨ ∃ v ∈ vs, headId v = some id
def LessR (P : Program) (h : AHeap) (vs : List AV) (rE r : AR) : Prop := ∃ id, Lives h vs id ∧ ((∃ v hE hW, rE = .val v hE ∧ r = .val v hW ∧ LessH P id hE hW) ∨ ∃ hE hW, rE = .skip hE ∧ r = .skip hW ∧ LessH P id hE hW)
theorem loadG_some {c : T AV} {off : Nat} : ∀ {n : Nat} {acc : List AV}, (∀ k, k < n → ∃ v, c.get (off + k) = some v ∧ AV.one v = true) → acc.all AV.one = true → ∃ l, loadG c off n acc = some l ∧ l.all AV.one = true
  | 0, acc, _, ha => ⟨acc, rfl, ha⟩
  | n + 1, acc, h, ha => by
    obtain ⟨v, hv, ho⟩ := h n (Nat.lt_succ_self n)
    unfold loadG
    rw [hv]
    exact loadG_some (fun k hk => h k (Nat.lt_succ_of_lt hk)) (by simp [ho, ha])
theorem loadList_some {c : T AV} {off n : Nat} (h : ∀ k, k < n → ∃ v, c.get (off + k) = some v ∧ AV.one v = true) : ∃ l, loadList c off n = some l ∧ l.all AV.one = true ∧ l.length = n ∧ ∀ k v, k < n → c.get (off + k) = some v → l[k]? = some v := by
  obtain ⟨l, h1, h2⟩ := loadG_some (acc := []) h rfl
  obtain ⟨g1, g2⟩ := loadList_get h1
  refine ⟨l, h1, h2, g1, fun k v hk hv => ?_⟩
  have hlt : k < l.length := by omega
  have := g2 k l[k] (List.getElem?_eq_getElem hlt)
  rw [hv] at this
  rw [List.getElem?_eq_getElem hlt]
  exact this.symm
theorem srcRow_ok {h : AHeap} {id ver off n size : Nat} {f : Nat → Option AV} {p : Prop} (e : srcRow h id ver off n size = some (f, p)) (hp : p) :
    ∃ l, loadCellsA h id ver off (n * size) = some l ∧ l.all AV.one = true ∧ l.length = n * size ∧ ∀ k v, k < n * size → f k = some v → l[k]? = some v := by
  unfold srcRow at e
  unfold loadCellsA
  split at e
  · rename_i c lo m ho
    cases hb : Nat.beq ver 0 with
    | false => rw [hb] at e; cases e
    | true =>
      rw [hb] at e
      simp only [cond_true, Option.some.injEq, Prod.mk.injEq] at e
      obtain ⟨rfl, rfl⟩ := e
      obtain ⟨l, h1, h2, h3, h4⟩ := loadList_some hp.2
      refine ⟨l, ?_, h2, h3, h4⟩
      simp only [ho]
      rw [if_pos ⟨Nat.eq_of_beq_eq_true hb, hp.1⟩, h1]
  · rename_i c m el lo hi nv fz sg ex ho
    split at e
    · cases e
    · rename_i e0 he
      cases hb : (Nat.ble lo ver && Nat.ble ver hi) with
      | false => rw [hb] at e; cases e
      | true =>
        rw [hb] at e
        simp only [cond_true, Option.some.injEq, Prod.mk.injEq] at e
        obtain ⟨rfl, rfl⟩ := e
        rw [Bool.and_eq_true] at hb
        obtain ⟨l, h1, h2, h3, h4⟩ := loadList_some hp.2
        refine ⟨l, ?_, h2, h3, h4⟩
        simp only [ho, he]
        rw [if_pos ⟨Nat.le_of_ble_eq_true hb.1, Nat.le_of_ble_eq_true hb.2, hp.1⟩, h1]
  · cases e
theorem srcFirst_ok {h : AHeap} {size n : Nat} {x : AV} {f : Nat → Option AV} {p : Prop} (e : srcFirst h size n x = some (f, p)) (hp : p) :
    ∃ l, firstA h size n x = some l ∧ l.all AV.one = true ∧ l.length = n * size ∧ ∀ k v, k < n * size → f k = some v → l[k]? = some v := by
  unfold srcFirst at e
  split at e
  · rename_i s
    cases hb : Nat.beq size 1 with
    | false => rw [hb] at e; cases e
    | true =>
      rw [hb] at e
      simp only [cond_true, Option.some.injEq, Prod.mk.injEq] at e
      obtain ⟨rfl, rfl⟩ := e
      obtain rfl := Nat.eq_of_beq_eq_true hb
      refine ⟨_, rfl, (List.all_eq_true.2 fun x hx => by obtain ⟨b, _, rfl⟩ := List.mem_map.1 hx; rfl), by simp [byteCells]; omega, fun k v hk hv => ?_⟩
      rw [Nat.mul_one] at hk
      cases hv
      have hs : k < s.length := by omega
      simp [byteCells, hk, hs]
  · exact srcRow_ok e hp
  · exact srcRow_ok e hp
  · cases e
theorem repeatL_get1 (v : AV) : ∀ n k, k < n → (repeatL [v] n)[k]? = some v
  | 0, k, h => by omega
  | n + 1, 0, _ => rfl
  | n + 1, k + 1, h => by
    show (repeatL [v] n)[k]? = _
    exact repeatL_get1 v n k (by omega)
theorem srcW_ok {h : AHeap} {size bytes : Nat} {z : AV} {zeros : Bool} {x : AV} {n : Nat} {f : Nat → Option AV} {p : Prop} (hz : z.cells.length = size) (hz1 : z.cells.all AV.one = true) (e : srcW h size bytes z zeros x = some (n, f, p)) (hp : p) :
    ∃ new, appended h size z zeros x = some (n, new) ∧ new.all AV.one = true ∧ new.length = n * size ∧ (zeros = true → Nat.ble (n * bytes) (2 ^ 48) = true) ∧ ∀ k v, k < n * size → f k = some v → new[k]? = some v := by
  unfold srcW at e
  unfold appended
  split at e
  · split at e
    · rename_i k l
      cases hb : Nat.beq size 1 with
      | false => rw [hb] at e; cases e
      | true =>
        rw [hb] at e
        simp only [cond_true, Option.some.injEq, Prod.mk.injEq] at e
        obtain ⟨rfl, rfl, rfl⟩ := e
        obtain rfl := Nat.eq_of_beq_eq_true hb
        simp only
        refine ⟨_, by rw [if_pos hp.1], repeatL_one hz1 _, by rw [repeatL_length, hz], fun _ => Nat.ble_eq_true_of_le hp.2, fun k v hk hv => ?_⟩
        rw [Nat.mul_one] at hk
        match hc : z.cells, hz with
        | [y], _ =>
          rw [hc] at hv
          cases hv
          exact repeatL_get1 _ _ _ hk
    · cases e
  · split at e
    · cases e
    · rename_i n' hn
      split at e
      · cases e
      · rename_i f' p' hf
        cases e
        obtain ⟨l, h1, h2, h3, h4⟩ := srcFirst_ok hf hp
        exact ⟨l, by simp only [hn, h1], h2, h3, fun h => (by cases h), h4⟩
theorem over_le {c : T AV} {off n : Nat} {f : Nat → Option AV} {vs : List AV} (hl : vs.length = n) (hf : ∀ k v, k < n → f k = some v → vs[k]? = some v) (k : Nat) (v : AV) (e : (overT c off n f).get k = some v) : (storeList c off vs).get k = some v := by
  rw [storeList_get, hl]
  change (bif Nat.ble off k && Nat.blt k (off + n) then f (k - off) else c.get k) = some v at e
  cases hb : (Nat.ble off k && Nat.blt k (off + n)) with
  | true =>
    rw [hb] at e
    rw [Bool.and_eq_true] at hb
    have h1 := Nat.le_of_ble_eq_true hb.1
    have h2 : k < off + n := Nat.le_of_ble_eq_true hb.2
    rw [if_pos ⟨h1, h2⟩]
    exact hf _ _ (by omega) e
  | false =>
    rw [hb] at e
    rw [if_neg]
    · exact e
    · rintro ⟨h1, h2⟩
      rw [Nat.ble_eq_true_of_le h1, show Nat.blt k (off + n) = true from Nat.ble_eq_true_of_le h2] at hb
      cases hb
theorem storeCells_W {h : AHeap} {id ver off n : Nat} {f : Nat → Option AV} {c : T AV} {m : Nat} {el : TypeId} {lo hi nv fz : Nat} {sg : Bool} {ex : T Nat} {e : Nat} (ho : h.get id = some (.cells c m el lo hi nv fz sg ex)) (he : extOf ex m hi ver = some e) (h1 : lo ≤ ver) (h2 : ver ≤ hi)
    (h3 : off + n ≤ e) (h4 : fz ≤ off) {vs : List AV} (hl : vs.length = n) (ha : vs.all AV.one = true) (hf : ∀ k v, k < n → f k = some v → vs[k]? = some v) :
    storeCellsA h id ver off vs = some (h.put id (.cells (storeList c off vs) e el ver ver nv fz sg ex)) ∧ LessH P id (h.put id (.cells (storeList c off vs) e el ver ver nv fz sg ex)) (h.put id (.cells (overT c off n f) e el ver ver nv fz sg ex)) := by
  refine ⟨?_, .put rfl rfl (cells_less' fun k v _ e => over_le hl hf k v e)⟩
  unfold storeCellsA
  rw [ho]
  simp only [he]
  rw [if_pos ⟨h1, h2, by omega, h4, ha⟩, T.seq_eq]
theorem ble2 {a b c : Nat} (h : (Nat.ble a b && Nat.ble b c) = true) : a ≤ b ∧ b ≤ c := by
  rw [Bool.and_eq_true] at h
  exact ⟨Nat.le_of_ble_eq_true h.1, Nat.le_of_ble_eq_true h.2⟩
theorem storeW_ok {h : AHeap} {id ver off n : Nat} {f : Nat → Option AV} {mk : AHeap → AR} {p0 p : Prop} {r : AR} (e : storeW h id ver off n f mk p0 = some (r, p)) (hp : p) {vs : List AV} (hl : vs.length = n) (ha : vs.all AV.one = true) (hf : ∀ k v, k < n → f k = some v → vs[k]? = some v) :
    ∃ hE hW, storeCellsA h id ver off vs = some hE ∧ r = mk hW ∧ LessH P id hE hW := by
  unfold storeW at e
  split at e
  rotate_left
  · cases e
  rename_i c m el lo hi nv fz sg ex ho
  split at e
  · cases e
  rename_i e0 he
  cases hb : (Nat.ble lo ver && Nat.ble ver hi) with
  | false => rw [hb] at e; cases e
  | true =>
    rw [hb] at e
    simp only [cond_true, Option.some.injEq, Prod.mk.injEq] at e
    obtain ⟨rfl, rfl⟩ := e
    obtain ⟨b1, b2⟩ := ble2 hb
    obtain ⟨g1, g2⟩ := storeCells_W (P := P) ho he b1 b2 hp.2.1 hp.2.2 hl ha hf
    exact ⟨_, _, g1, rfl, g2⟩
theorem storeW_p {h : AHeap} {id ver off n : Nat} {f : Nat → Option AV} {mk : AHeap → AR} {p0 p : Prop} {r : AR} (e : storeW h id ver off n f mk p0 = some (r, p)) (hp : p) : p0 := by
  unfold storeW at e
  split at e
  rotate_left
  · cases e
  rename_i c m el lo hi nv fz sg ex ho
  split at e
  · cases e
  rename_i e0 he
  cases hb : (Nat.ble lo ver && Nat.ble ver hi) with
  | false => rw [hb] at e; cases e
  | true =>
    rw [hb] at e
    simp only [cond_true, Option.some.injEq, Prod.mk.injEq] at e
    obtain ⟨rfl, rfl⟩ := e
    exact hp.1
theorem putW_ok {h : AHeap} {id ver off : Nat} {v : AV} {p : Prop} {r : AR} (e : putW h id ver off v = some (r, p)) (hp : p) (ha : AV.one v = true) :
    ∃ hE hW, storeCellsA h id ver off [v] = some hE ∧ r = .skip hW ∧ LessH P id hE hW := by
  unfold putW at e
  split at e
  rotate_left
  · cases e
  rename_i c m el lo hi nv fz sg ex ho
  split at e
  · cases e
  rename_i e0 he
  cases hb : (Nat.ble lo ver && Nat.ble ver hi) with
  | false => rw [hb] at e; cases e
  | true =>
    rw [hb] at e
    simp only [cond_true, Option.some.injEq, Prod.mk.injEq] at e
    obtain ⟨rfl, rfl⟩ := e
    obtain ⟨b1, b2⟩ := ble2 hb
    refine ⟨h.put id (.cells (storeList c off [v]) e0 el ver ver nv fz sg ex), _, ?_, rfl, .put rfl rfl (cells_less' fun k x _ e => ?_)⟩
    · unfold storeCellsA
      rw [ho]
      simp only [he]
      rw [if_pos ⟨b1, b2, hp.1, hp.2, by simp [ha]⟩, T.seq_eq]
    · rw [storeList_get]
      change (bif Nat.beq k off then some v else c.get k) = some x at e
      cases hq : Nat.beq k off with
      | true =>
        rw [hq] at e
        obtain rfl := Nat.eq_of_beq_eq_true hq
        rw [if_pos ⟨Nat.le_refl _, Nat.lt_succ_self _⟩]
        simpa using e
      | false =>
        rw [hq] at e
        rw [if_neg]
        · exact e
        · rintro ⟨h1, h2⟩
          have : k = off := by simp at h2; omega
          rw [this, Nat.beq_refl] at hq
          cases hq
theorem storeOpW_ok {h : AHeap} {t : TypeId} {a v : AV} {r : AR} {p : Prop} (e : storeOpW P h t a v = some (r, p)) (hp : p) : ∃ id hE hW, storeA P h t a v = some hE ∧ r = .skip hW ∧ LessH P id hE hW ∧ headId a = some id := by
  unfold storeOpW at e
  unfold storeA
  split at e
  rotate_left
  · cases e
  split at e
  · cases e
  rename_i i hi
  split at e
  · cases e
  rename_i hb
  rw [Bool.and_eq_true] at hb
  have hs := Nat.eq_of_beq_eq_true hb.1
  simp only [hi, if_pos hs]
  split at e
  · rename_i x hx
    rw [hx] at hb ⊢
    obtain ⟨hE, hW, g1, g2, g3⟩ := putW_ok (P := P) e hp (by simpa using hb.2)
    exact ⟨_, hE, hW, g1, g2, g3, rfl⟩
  · obtain ⟨hE, hW, g1, g2, g3⟩ := storeW_ok (P := P) e hp rfl hb.2 fun k v _ e => e
    exact ⟨_, hE, hW, g1, g2, g3, rfl⟩
theorem copyW_ok {h : AHeap} {t : TypeId} {d s : AV} {r : AR} {p : Prop} (e : copyW P h t d s = some (r, p)) (hp : p) : ∃ id v hE hW, copyA P h t d s = some (v, hE) ∧ r = .val v hW ∧ LessH P id hE hW ∧ headId d = some id := by
  unfold copyW at e
  unfold copyA
  split at e
  rotate_left
  · cases e
  rename_i el hu
  simp only [hu]
  unfold copyEl
  split at e
  · cases e
  rename_i sz hsz
  split at e
  · cases e
  rename_i dn hdn
  split at e
  · cases e
  rename_i sn hsn
  split at e
  · cases e
  rename_i f p' hf
  simp only [hsz, hdn, hsn]
  split at e
  · obtain ⟨l, h1, h2, h3, h4⟩ := srcFirst_ok hf (storeW_p e hp)
    obtain ⟨hE, hW, g1, g2, g3⟩ := storeW_ok (P := P) e hp h3 h2 h4
    simp only [h1, copyTo, g1]
    exact ⟨_, _, _, hW, rfl, g2, g3, rfl⟩
  · obtain ⟨l, h1, h2, h3, h4⟩ := srcFirst_ok hf (storeW_p e hp)
    obtain ⟨hE, hW, g1, g2, g3⟩ := storeW_ok (P := P) e hp h3 h2 h4
    simp only [h1, copyTo, g1]
    exact ⟨_, _, _, hW, rfl, g2, g3, rfl⟩
  · cases e
theorem row_less {vs : List AV} {n : Nat} {f : Nat → Option AV} (hl : vs.length = n) (hf : ∀ k v, k < n → f k = some v → vs[k]? = some v) (k : Nat) (v : AV) (hk : k < n) (e : (T.fn f).get k = some v) : (storeList .leaf 0 vs).get k = some v := by
  rw [storeList_get, if_pos ⟨Nat.zero_le _, by omega⟩, Nat.sub_zero]
  exact hf k v hk e
theorem makeW_ok {h : AHeap} {t : TypeId} {a b : AV} {r : AR} {p : Prop} (e : makeW P h t a b = some (r, p)) (hp : p) : ∃ v hE hW, makeSliceA P h t a b = some (v, hE) ∧ r = .val v hW ∧ LessH P h.next hE hW := by
  unfold makeW at e
  unfold makeSliceA
  split at e
  rotate_left
  · cases e
  rename_i el hu
  split at e
  rotate_left
  · cases e
  split at e
  rotate_left
  · cases e
  rename_i k1 l k2 c
  split at e
  · cases e
  rename_i i hi
  split at e
  · cases e
  rename_i z hz
  split at e
  · cases e
  rename_i hb
  rw [Bool.and_eq_true, Bool.and_eq_true] at hb
  cases e
  have h1 := Nat.eq_of_beq_eq_true hb.1.1
  have h2 := Nat.eq_of_beq_eq_true hb.1.2
  have hlen : (repeatL z.cells c.toNat).length = c.toNat := by rw [repeatL_length, h2, Nat.mul_one]
  refine ⟨_, newCells h el (repeatL z.cells c.toNat) false, _, ?_, rfl, ?_⟩
  · simp only [hu, makeSliceN, hi, hz]
    rw [if_pos ⟨hp.1, hp.2.1, hp.2.2.1, hp.2.2.2, by omega, by omega, hb.2⟩]
  · unfold newCells
    rw [hlen]
    refine .new rfl rfl (cells_less' fun k v hk e => row_less hlen (fun k v hk e => ?_) k v hk e)
    match hc : z.cells, h2 with
    | [y], _ =>
      rw [hc] at e
      cases e
      exact repeatL_get1 _ _ _ hk
theorem put_same {h : AHeap} {id : Nat} {o : AObj} (e : h.get id = some o) : h.put id o = h := by
  obtain ⟨objs, next, glob⟩ := h
  show AHeap.mk (objs.set (some o) id) next glob = _
  rw [T.set_same' e]
theorem appendW_ok {moved : Bool} {h : AHeap} {t : TypeId} {zeros : Bool} {s x : AV} {r : AR} {p : Prop} (e : appendW P moved h t zeros s x = some (r, p)) (hp : p) : ∃ id v hE hW, appendA P h t zeros s x = some (v, hE) ∧ r = .val v hW ∧ LessH P id hE hW ∧ (id = h.next ∨ headId s = some id) := by
  unfold appendW at e
  unfold appendA
  split at e
  rotate_left
  · cases e
  rename_i el hu
  simp only [hu]
  unfold appendEl
  split at e
  · cases e
  rename_i i hi
  split at e
  · cases e
  rename_i z hz
  split at e
  · cases e
  rename_i hb
  rw [Bool.and_eq_true, Bool.and_eq_true] at hb
  have hs0 : 0 < i.size := Nat.le_of_ble_eq_true hb.1.1
  have hz1 := Nat.eq_of_beq_eq_true hb.1.2
  split at e
  · cases e
  rename_i n f q hsrc
  simp only [hi, hz]
  split at e
  ·
    unfold freshW at e
    cases e
    obtain ⟨new, h1, h2, h3, h4, h5⟩ := srcW_ok hz1 hb.2 hsrc hp.1
    simp only [lenSlice, h1]
    rw [if_pos ⟨hs0, hz1, hb.2, h2, h3, h4⟩]
    obtain ⟨n, rfl⟩ : ∃ k, n = k + 1 := ⟨n - 1, by have := hp.2.1; omega⟩
    simp only [appendTo, appendFresh, Nat.zero_add, firstA]
    rw [if_pos hp.2.2, if_pos ⟨rfl, by simp⟩]
    refine ⟨_, _, _, _, rfl, rfl, ?_, .inl rfl⟩
    unfold newCells
    rw [List.nil_append, h3]
    exact .new rfl rfl (cells_less' fun k v hk e => row_less h3 h5 k v hk e)
  · rename_i id ver off sLen cap
    split at e
    ·
      unfold inPlaceW at e
      split at e
      rotate_left
      · cases e
      rename_i c m el' lo hi' nv fz sg ex ho
      split at e
      · cases e
      rename_i e0 he
      cases hb' : (Nat.ble lo ver && Nat.ble ver hi') with
      | false => rw [hb'] at e; cases e
      | true =>
        rw [hb'] at e
        simp only [cond_true, Option.some.injEq, Prod.mk.injEq] at e
        obtain ⟨rfl, rfl⟩ := e
        obtain ⟨b1, b2⟩ := ble2 hb'
        obtain ⟨p1, p2, p3, p4, p5⟩ := hp
        obtain ⟨new, h1, h2, h3, h4, h5⟩ := srcW_ok hz1 hb.2 hsrc p1
        simp only [lenSlice, h1]
        rw [if_pos ⟨hs0, hz1, hb.2, h2, h3, h4⟩]
        cases n with
        | zero =>
          have hv : lo = ver ∧ hi' = ver := by
            revert p5
            cases hq : (Nat.beq lo ver && Nat.beq hi' ver) with
            | true =>
              intro _
              rw [Bool.and_eq_true] at hq
              exact ⟨Nat.eq_of_beq_eq_true hq.1, Nat.eq_of_beq_eq_true hq.2⟩
            | false => exact fun h => absurd h (Nat.lt_irrefl 0)
          obtain ⟨rfl, rfl⟩ := hv
          have hm : m = e0 := by
            unfold extOf at he
            rw [if_pos rfl] at he
            exact Option.some.inj he
          subst hm
          simp only [appendNone]
          rw [if_pos (by omega)]
          refine ⟨id, _, _, _, rfl, rfl, ?_, .inr rfl⟩
          have hl : LessH P id (h.put id (.cells c m el' hi' hi' nv fz sg ex)) (h.put id (.cells (overT c (off + sLen * i.size) (0 * i.size) f) m el' hi' hi' nv fz sg ex)) := by
            refine .put rfl rfl (cells_less' fun k v _ e => ?_)
            have := over_le (vs := []) (by simp) (fun k v hk => by simp at hk) k v e
            rwa [storeList] at this
          rwa [put_same ho] at hl
        | succ n =>
          obtain ⟨g1, g2⟩ := storeCells_W (P := P) ho he b1 b2 p3 p4 h3 h2 h5
          simp only [appendTo, if_pos p2, appendIn, g1]
          exact ⟨_, _, _, _, rfl, rfl, g2, .inr rfl⟩
    ·
      unfold movedW at e
      split at e
      · cases e
      rename_i g q' hrow
      cases e
      obtain ⟨p1, p2, p3, p4, p5⟩ := hp
      obtain ⟨new, h1, h2, h3, h4, h5⟩ := srcW_ok hz1 hb.2 hsrc p1
      obtain ⟨old, o1, o2, o3, o4⟩ := srcRow_ok hrow p2
      simp only [lenSlice, h1]
      rw [if_pos ⟨hs0, hz1, hb.2, h2, h3, h4⟩]
      obtain ⟨n, rfl⟩ : ∃ k, n = k + 1 := ⟨n - 1, by omega⟩
      simp only [appendTo, if_neg (Nat.not_le.2 p4), appendFresh, firstA, o1]
      rw [if_pos p5, if_pos ⟨o2, o3⟩]
      refine ⟨_, _, _, _, rfl, rfl, ?_, .inl rfl⟩
      unfold newCells
      rw [List.length_append, o3, h3]
      refine .new rfl rfl (cells_less' fun k v hk e => row_less (by rw [List.length_append, o3, h3]) (fun k v hk e => ?_) k v hk e)
      cases hq : Nat.blt k (sLen * i.size) with
      | true =>
        rw [hq] at e
        have hlt : k < sLen * i.size := Nat.le_of_ble_eq_true hq
        rw [List.getElem?_append_left (by omega)]
        exact o4 k v hlt e
      | false =>
        rw [hq] at e
        have hge : ¬ k < sLen * i.size := fun h => by rw [show Nat.blt k (sLen * i.size) = true from Nat.ble_eq_true_of_le h] at hq; cases hq
        rw [List.getElem?_append_right (by omega), o3]
        exact h5 _ v (by omega) e
  · rename_i id ver off sLen st
    split at e
    ·
      unfold growW at e
      split at e
      rotate_left
      · cases e
      rename_i c m el' lo hi' nv fz sg ex ho
      split at e
      · cases e
      rename_i e0 he
      cases hb' : (Nat.ble lo ver && Nat.ble ver hi' && Nat.beq el' el && Nat.blt hi' nv) with
      | false => rw [hb'] at e; cases e
      | true =>
        rw [hb'] at e
        simp only [cond_true, Option.some.injEq, Prod.mk.injEq] at e
        obtain ⟨rfl, rfl⟩ := e
        rw [Bool.and_eq_true, Bool.and_eq_true] at hb'
        obtain ⟨⟨hb1, hb2⟩, hb3⟩ := hb'
        obtain ⟨b1, b2⟩ := ble2 hb1
        have b3 := Nat.eq_of_beq_eq_true hb2
        have b4 : hi' < nv := Nat.le_of_ble_eq_true hb3
        obtain ⟨p1, p2, p3, p4, p5, p6, p7⟩ := hp
        obtain ⟨new, h1, h2, h3, h4, h5⟩ := srcW_ok hz1 hb.2 hsrc p1
        simp only [lenSlice, h1]
        rw [if_pos ⟨hs0, hz1, hb.2, h2, h3, h4⟩]
        obtain ⟨n, rfl⟩ : ∃ k, n = k + 1 := ⟨n - 1, by omega⟩
        have hkn : appendKnown h el i.size id ver off st sLen (sLen + (n + 1)) new = none := by
          simp only [appendKnown, ho, he]
          rw [if_neg (fun hc => by have := hc.1; omega)]
        simp only [appendTo, hkn]
        simp only [appendGrow, ho, he]
        rw [if_pos ⟨b1, b2, p3, p4, b3, p5, b4, p6⟩]
        split
        · rename_i hc
          rw [T.seq_eq, T.seq_eq]
          refine ⟨id, _, _, _, rfl, rfl, ?_, .inr rfl⟩
          rw [h3]
          refine .put rfl rfl (cells_less (fun k v _ e => over_le h3 h5 k v e) (by omega) (Nat.le_refl _) fun r e q1 q2 q3 => ?_)
          obtain rfl : r = nv := by omega
          unfold extOf at q3 ⊢
          rw [if_pos rfl] at q3 ⊢
          exact q3
        · rw [T.seq_eq]
          refine ⟨id, _, _, _, rfl, rfl, ?_, .inr rfl⟩
          rw [h3]
          exact .put rfl rfl (cells_less' fun k v _ e => over_le h3 h5 k v e)
    ·
      unfold knownW at e
      split at e
      rotate_left
      · cases e
      rename_i c m el' lo hi' nv fz sg ex ho
      split at e
      · cases e
      rename_i e0 he
      cases hb' : (Nat.ble lo ver && Nat.ble ver hi' && Nat.beq el' el) with
      | false => rw [hb'] at e; cases e
      | true =>
        rw [hb'] at e
        simp only [cond_true, Option.some.injEq, Prod.mk.injEq] at e
        obtain ⟨rfl, rfl⟩ := e
        rw [Bool.and_eq_true] at hb'
        obtain ⟨hb1, hb2⟩ := hb'
        obtain ⟨b1, b2⟩ := ble2 hb1
        obtain rfl := Nat.eq_of_beq_eq_true hb2
        obtain ⟨p1, p2, p3, p4, p5, p6⟩ := hp
        obtain ⟨new, h1, h2, h3, h4, h5⟩ := srcW_ok hz1 hb.2 hsrc p1
        simp only [lenSlice, h1]
        rw [if_pos ⟨hs0, hz1, hb.2, h2, h3, h4⟩]
        obtain ⟨n, rfl⟩ : ∃ k, n = k + 1 := ⟨n - 1, by omega⟩
        obtain ⟨g1, g2⟩ := storeCells_W (P := P) ho he b1 b2 p4 p5 h3 h2 h5
        simp only [appendTo, appendKnown, ho, he]
        rw [if_pos ⟨p3, b1, b2, trivial, p6⟩]
        simp only [g1]
        exact ⟨id, _, _, _, rfl, rfl, g2, .inr rfl⟩
  · cases e
theorem clearW_ok {h : AHeap} {t : TypeId} {x : AV} {r : AR} {p : Prop} (e : clearW P h t x = some (r, p)) (hp : p) : ∃ id hE hW, clearA P h t x = some hE ∧ r = .val (.tup []) hW ∧ LessH P id hE hW ∧ headId x = some id := by
  unfold clearW at e
  split at e
  rotate_left
  · cases e
  rename_i el hu
  split at e
  · cases e
  rename_i z hz
  split at e
  · cases e
  rename_i ha
  have hez : elemZero P t = some z := by unfold elemZero; rw [hu]; exact hz
  have key : ∀ {id ver off n : Nat}, storeW h id ver off (n * z.cells.length) (fun k => z.cells[k % z.cells.length]?) (fun h => .val (.tup []) h) (0 < n) = some (r, p) →
      ∃ hE hW, clearSl h (elemZero P t) id ver off n = some hE ∧ r = .val (.tup []) hW ∧ LessH P id hE hW := by
    intro id ver off n e
    obtain ⟨hE, hW, g1, g2, g3⟩ := storeW_ok (P := P) e hp (vs := repeatL z.cells n) (repeatL_length _ _) (repeatL_one ha n) (fun k v hk hf => by rw [repeatL_get _ _ _ hk]; exact hf)
    have hn := storeW_p e hp
    obtain ⟨m, rfl⟩ : ∃ m, n = m + 1 := ⟨n - 1, by omega⟩
    refine ⟨hE, hW, ?_, g2, g3⟩
    unfold clearSl
    rw [hez]
    exact g1
  unfold clearA
  simp only [hu]
  split at e
  · rename_i id ver off n c
    obtain ⟨hE, hW, g1, g2, g3⟩ := key e
    exact ⟨id, hE, hW, g1, g2, g3, rfl⟩
  · rename_i id ver off n c
    obtain ⟨hE, hW, g1, g2, g3⟩ := key e
    exact ⟨id, hE, hW, g1, g2, g3, rfl⟩
  · cases e
def valsOf (ρ : Operand → Option AV) (o : Op) : List AV := o.operands.toList.filterMap ρ
theorem valsOf_mem {ρ : Operand → Option AV} {o : Op} {x : Operand} {v : AV} (hx : x ∈ o.operands) (hv : ρ x = some v) : v ∈ valsOf ρ o :=
  List.mem_filterMap.2 ⟨x, by simpa using hx, hv⟩
theorem call_vals {ρ : Operand → Option AV} {c : Call} {args : List AV} (ha : mapO ρ c.args.toList = some args) {v : AV} (hv : v ∈ args) : v ∈ valsOf ρ (.call c) := by
  obtain ⟨h1, h2⟩ := mapO_some ha
  obtain ⟨i, hi, rfl⟩ := List.getElem_of_mem hv
  have hlt : i < c.args.toList.length := by omega
  obtain ⟨b, hb1, hb2⟩ := h2 i _ (List.getElem?_eq_getElem hlt)
  rw [List.getElem?_eq_getElem hi] at hb1
  cases hb1
  refine valsOf_mem (x := c.args.toList[i]) ?_ hb2
  show _ ∈ c.operands
  unfold Call.operands
  exact Array.mem_append.2 (.inr (by simp))
theorem opW_ok {moved : Bool} {ρ : Operand → Option AV} {h : AHeap} {o : Op} {r : AR} {p : Prop} (e : opW P moved ρ h o = some (r, p)) (hp : p) : (∀ c, o ≠ .defer c) ∧ ∃ rE, opA P ρ h o = some rE ∧ LessR P h (valsOf ρ o) rE r := by
  unfold opW at e
  split at e
  · rename_i t a x
    unfold two' at e
    split at e
    · cases e
    rename_i v1 h1
    split at e
    · cases e
    rename_i v2 h2
    obtain ⟨id, hE, hW, g1, g2, g3, g4⟩ := storeOpW_ok e hp
    refine ⟨fun c h => (by cases h), .skip hE, ?_, id, .inr ⟨v1, valsOf_mem (x := a) (by simp [Op.operands]) h1, g4⟩, .inr ⟨_, _, rfl, g2, g3⟩⟩
    show op_store P t a x ρ h = _
    simp only [op_store, two, h1, h2, g1, skipH]
  · rename_i t l c
    unfold two' at e
    split at e
    · cases e
    rename_i v1 h1
    split at e
    · cases e
    rename_i v2 h2
    obtain ⟨v, hE, hW, g1, g2, g3⟩ := makeW_ok e hp
    refine ⟨fun c h => (by cases h), .val v hE, ?_, _, .inl rfl, .inl ⟨_, _, _, rfl, g2, g3⟩⟩
    show op_makeSlice P t l c ρ h = _
    simp only [op_makeSlice, two, h1, h2, g1, valH]
  · rename_i c
    refine ⟨fun c h => (by cases h), ?_⟩
    split at e
    · cases e
    rename_i args ha
    split at e
    rotate_left
    · cases e
    rename_i b hc
    show ∃ rE, op_call P c ρ h = some rE ∧ _
    simp only [op_call, callOpA, ha, hc]
    split at e
    · split at e
      · cases e
      rename_i t ht
      split at e
      · cases e
      rename_i u hu
      split at e
      · cases e
      rename_i z hz
      split at e
      · cases e
      rename_i s x hx
      obtain ⟨id, v, hE, hW, g1, g2, g3, g4⟩ := appendW_ok e hp
      refine ⟨.val v hE, ?_, id, g4.imp (fun h => h) (fun h => ⟨s, call_vals ha (by rw [two1_inv hx]; simp), h⟩), .inl ⟨_, _, _, rfl, g2, g3⟩⟩
      simp only [builtinA, isBuiltinR, builtinE, appendE, ht, hu, hz, hx, g1, valH]
    · split at e
      · cases e
      rename_i t ht
      split at e
      · cases e
      rename_i d s hx
      obtain ⟨id, v, hE, hW, g1, g2, g3, g4⟩ := copyW_ok e hp
      refine ⟨.val v hE, ?_, id, .inr ⟨d, call_vals ha (by rw [two1_inv hx]; simp), g4⟩, .inl ⟨_, _, _, rfl, g2, g3⟩⟩
      simp only [builtinA, isBuiltinR, builtinE, copyE, ht, hx, g1, valH]
    · split at e
      · cases e
      rename_i t ht
      split at e
      rotate_left
      · cases e
      rename_i x
      obtain ⟨id, hE, hW, g1, g2, g3, g4⟩ := clearW_ok e hp
      refine ⟨.val (.tup []) hE, ?_, id, .inr ⟨x, call_vals ha (by simp), g4⟩, .inl ⟨_, _, _, rfl, g2, g3⟩⟩
      simp only [builtinA, isBuiltinR, builtinE, clearE, one1, ht, g1, unitH]
    · cases e
  · cases e
theorem OpRel.less {B : Base} {R : Bij} {h : AHeap} {w : World} {s : Sem Next} {ρ : Operand → Option AV} {ρ' : Operand → Value} {o : Op} {rE r : AR} (k : HRel P B R h w) (hρ : ∀ x ∈ o.operands, ∀ v, ρ x = some v → VRel R v (ρ' x)) (hl : LessR P h (valsOf ρ o) rE r) (e : OpRel P B R w s rE) : OpRel P B R w s r := by
  obtain ⟨id, hid, hl⟩ := hl
  have hp : B.pend id = none := by
    cases hb : B.pend id with
    | none => rfl
    | some x =>
      obtain ⟨h1, _, h3⟩ := k.pend id x hb
      rcases hid with rfl | ⟨v, hv, hd⟩
      · exact absurd h1 (Nat.lt_irrefl _)
      · obtain ⟨y, hy, hyv⟩ := List.mem_filterMap.1 hv
        obtain ⟨r, L, hL⟩ := headId_live (hρ y (by simpa using hy) v hyv) hd
        rw [h3 r] at hL
        cases hL
  rcases hl with ⟨v, hE, hW, rfl, rfl, hless⟩ | ⟨hE, hW, rfl, rfl, hless⟩
  · obtain ⟨R', v', w', r1, r2, r3, r4⟩ := e
    exact ⟨R', v', w', r1, r2, r3.less hless hp, r4⟩
  · obtain ⟨R', w', r1, r3, r4⟩ := e
    exact ⟨R', w', r1, r3.less hless hp, r4⟩
end
section
variable {P : Program} {w0 : Env} {base : List Frame} {B : Base} {R : Bij} {af : AFrame} {rest : List AFrame} {h : AHeap} {fr : Frame} {fs : List Frame} {w : World}
theorem operW_sim [XT P] [XTOk P] (k : Wait P w0 base B R af rest h fr fs w) {ops : Array Oper} {i : Nat} {s' : List Nat} {k' : List Item} (ht : fr.todo = .inRegion ops (i :: s') :: k') {o : Oper} (ho : ops[i]? = some o)
    (hops : ∀ x ∈ o.op.operands, ∀ v, ev af.tmps x = some v → VRel R v (fr.eval x))
    (hgu : ∀ g b q u v, o.guard = some (g, b) → ops[g]? = some q → q.dst = some u → af.tmps.get u = some v → ∃ x, fr.tmps[u]? = some x ∧ VRel R v x)
    (hwt : wantedA ops.toList af.tmps o.guard = some true) (hnd : ∀ c, o.op ≠ .defer c) {rE r : AR} (hE : opA P (ev af.tmps) h o.op = some rE) (hl : LessR P h (valsOf (ev af.tmps) o.op) rE r)
    {m : AM} (e : upon P af rest h r = some m) : Goes P w0 base m fr (fs ++ base) w := by
  have hm := wrun k
  have hw := wanted_rel hwt hgu
  have hop := OpRel.less k.heap hops hl (opA_at k.heap k.room hops hE)
  have hoper : (stepG P true { frame := fr, callers := fs ++ base, status := .running, dying := none } w) = stepG.oper P true fr (fs ++ base) none w := by
    simp only [stepG, stepG.exec, hm, ht, ho, hw, Option.map_some, Option.getD_some, if_true]
  have hst : (stepG P true { frame := fr, callers := fs ++ base, status := .running, dying := none } w) = stepG.apply P true fr (fs ++ base) none (execOp fr.eval o) w := by
    rw [hoper]
    simp only [stepG.oper, Frame.oper?, ht, ho]
    split
    · rename_i _ c _ hc
      exact absurd hc (hnd c)
    · rfl
  obtain ⟨id, hid, hl⟩ := hl
  rcases hl with ⟨v, hE, hW, rfl, rfl, hless⟩ | ⟨hE, hW, rfl, rfl, hless⟩
  · obtain ⟨a, b, c, h1, h2⟩ := upon_sim k hop (by simp) (by simp) (by simp) (by rw [hst]) ⟨_, _, _, _, ht⟩ e
    exact ⟨a, b, c, h1, h2⟩
  · obtain ⟨a, b, c, h1, h2⟩ := upon_sim k hop (by simp) (by simp) (by simp) (by rw [hst]) ⟨_, _, _, _, ht⟩ e
    exact ⟨a, b, c, h1, h2⟩
theorem weak_step [XT P] [XTOk P] {all : List Oper} {o : Oper} (k : Plain P w0 base B R af rest h fr fs w) (hto : topOp af = some (all, o)) (hac : actsIn P af o = true) (hwt : wantedA all af.tmps o.guard = some true) (hnd : ∀ c, o.op ≠ .defer c) {rE r : AR}
    (hE : opA P (ev af.tmps) h o.op = some rE) (hl : LessR P h (valsOf (ev af.tmps) o.op) rE r) {m : AM} (e : upon P af rest h r = some m) : Goes P w0 base m fr (fs ++ base) w := by
  have hm := frun k
  have htop : TodoRel P B R rest.length false h af.todo af.tmps fr.todo fr.tmps := by
    have := k.top.top
    rw [k.run] at this; exact this
  unfold topOp at hto
  split at hto
  · rename_i all' o' l kk htodo
    cases hto
    rw [htodo] at htop
    obtain ⟨⟨_, kk', hfr, ⟨ops, todo, rfl, rfl, hmap⟩, hk⟩, hs⟩ := htop
    cases todo with
    | nil => simp at hmap
    | cons i todo =>
      simp only [List.map_cons, List.cons.injEq] at hmap
      have hw : Wait P w0 base B R af rest h fr fs w := ⟨k.heap, k.base, k.old, by
        obtain ⟨k1, k2, k3, k4, k5, k6, k7, k8, k9⟩ := k.top
        refine ⟨k1, k2, k3, k4, k5, k6, k7, k8, ?_⟩
        have hr := k.run
        obtain ⟨fn, n, t, td, ds, mode, kind, round⟩ := af
        simp only at hr htodo; subst hr; subst htodo
        exact ⟨⟨_, kk', hfr, ⟨ops, _, rfl, rfl, by simp only [List.map_cons, List.cons.injEq]; exact hmap⟩, hk⟩, hs⟩, k.run, k.below⟩
      exact operW_sim hw hfr hmap.1.symm (fun x _ v hv => ev_eval (fun u _ hu => hs u v hu) hv) (fun g b q u v _ _ _ hv => hs u v hv) hwt hnd hE hl e
  · rename_i all' i l dn kk htodo
    split at hto
    · cases hto
    rename_i o' ho
    cases hto
    rw [htodo] at htop
    obtain ⟨s, k', hfr, hk, hd⟩ := htop
    unfold actsIn at hac
    rw [htodo] at hac
    have hroom : B.n ≤ w.heap.size := by show B.env.heap.size ≤ _; rw [k.base]; exact k.old.size
    have hrun := k.run
    have htopf := k.top
    obtain ⟨fn, n, t, td, ds, mode, kind, round⟩ := af
    simp only at htodo hrun hd; subst htodo; subst hrun
    have hidn : i ∉ dn := fun hi => (List.nodup_append.1 hd.facts.2.2.2.2.1).2.2 i (by simpa using hi) i List.mem_cons_self rfl
    obtain ⟨k1, k2, k3, k4, k5, k6, k7, k8, k9⟩ := htopf
    have hem : (planOf P all'.toList).em.testBit i = true := by rw [hd.plan.em i o ho]; exact hac
    obtain ⟨B', R', w', a', s', g1, g2, g3, g4, g5, g6, g7⟩ := hd.catch_up hem s k.heap hroom hm hfr (fs ++ base)
    have hw : Wait P w0 base B' R' ⟨fn, n, t, .drw all' (i :: l) dn :: kk, ds, .run, kind, round⟩ rest h { fr with tmps := a', todo := .inRegion all' (i :: s') :: k' } fs w' :=
      ⟨g5, g3.1.trans k.base, k.old.keeps k.base k.heap g6, ⟨k1, k2, k3, k4, k5.mono g4, k6.mono fun _ _ q => q.mono g4, k7.mono g4, g2.trans k8, i :: s', k', rfl, hk.mono fun _ _ q => q.mono g4, g7.suspend hem⟩, rfl, k.below.mono g4 g3 (Nat.le_refl _)⟩
    have hreads := g7.reads ho hidn
    obtain ⟨fr', cs', w2, s1, s2⟩ := operW_sim hw rfl ho (fun x hx v hv => ev_eval (fun u hu he => hreads u v (by rw [hu] at hx; exact mentions_operand hx) he) hv)
      (fun g b q u v hg hq hu hv => hreads u v (mentions_guard hg (by simpa using hq) hu) hv) hwt hnd hE hl e
    exact ⟨fr', cs', w2, g1.trans s1, s2⟩
  · cases hto
end
section
variable {P : Program}
theorem OpWK_goal [XT P] [XTOk P] {keep : Nat} {f0 : FuncId} {Q : AV → AHeap → Prop} {moved : Bool} {m : AM} {K : AM → Prop} (e : OpWK P moved m K) (hK : ∀ m, K m → Goal P keep f0 Q m) : Goal P keep f0 Q m := by
  intro w0 base cfr cs w hk s
  obtain ⟨fr, rest, h⟩ := m
  unfold OpWK at e
  simp only at e
  split at e
  rotate_left
  · exact e.elim
  rename_i hm
  split at e
  · exact e.elim
  rename_i all o ho
  split at e
  rotate_left
  · exact e.elim
  rename_i hw
  split at e
  · exact e.elim
  rename_i hac
  split at e
  · exact e.elim
  rename_i r p hop
  obtain ⟨hp, e⟩ := e
  obtain ⟨hnd, rE, g1, g2⟩ := opW_ok hop hp
  obtain ⟨m', h1, h2⟩ := Upon_some e
  obtain ⟨B, R, fs, rfl, hb, kh, ho', kt, kb⟩ := s
  obtain ⟨fr1, cs1, w1, s1, k1⟩ := weak_step (af := fr) (rest := rest) (h := h) ⟨kh, hb, ho', kt, hm, kb⟩ ho hac hw hnd g1 g2 h1
  obtain ⟨fr', w', B, R, v, v', h', s2, g⟩ := hK _ h2 w0 base fr1 cs1 w1 hk k1
  exact ⟨fr', w', B, R, v, v', h', s1.trans s2, g⟩
end
end Go.Proofs.YtdbfpjgnlfejmaaDoor.Ev
end
section
namespace Go.Proofs.YtdbfpjgnlfejmaaDoor.Ev
open Go
noncomputable section
variable (P : Program)
def Tells (n : Nat) (c' c : T AV) : Prop := ∀ k v, k < n → c'.get k = some v → c.get k = some v
def ToldK (id : Nat) (c' : T AV) (z' : Nat) (m : AM) (K : AM → Prop) : Prop := match m with
  | ⟨⟨fn, n, t, todo, ds, mode, kind, round⟩, rest, ⟨objs, next, glob⟩⟩ => match rest with
    | _ :: _ => False
    | [] => match todo with
      | .drw _ _ _ :: _ => False
      | todo => match objs.get id with
        | some (.cells c z el lo hi nv fz sg ex) => Tells z' c' c ∧ z' = z ∧ K ⟨⟨fn, n, t, todo, ds, mode, kind, round⟩, [], ⟨objs.set (some (.cells c' z' el lo hi nv fz sg ex)) id, next, glob⟩⟩
        | _ => False
def ToldSK (u : Nat) (p : List Nat) (id : Nat) (c' : T AV) (z' : Nat) (m : AM) (K : AM → Prop) : Prop := match m with
  | ⟨⟨fn, n, t, todo, ds, mode, kind, round⟩, rest, ⟨objs, next, glob⟩⟩ => match mode with
    | .run => match todo with
      | .drw _ _ _ :: _ => False
      | todo => match t.get u with
        | none => False
        | some v0 => match wit ⟨objs, next, glob⟩ p v0 with
          | none => False
          | some v => match headId v with
            | none => False
            | some j => match Nat.beq j id with
              | false => False
              | true => match objs.get id with
                | some (.cells c z el lo hi nv fz sg ex) => Tells z' c' c ∧ z' = z ∧ K ⟨⟨fn, n, t, todo, ds, .run, kind, round⟩, rest, ⟨objs.set (some (.cells c' z' el lo hi nv fz sg ex)) id, next, glob⟩⟩
                | _ => False
    | _ => False
def bytesAt (h : AHeap) (id ver off k : Nat) (l : List UInt8) : Option Prop := match h.get id with
  | some (.cells c n _ lo hi _ _ _ ex) => match extOf ex n hi ver with
    | some e => bif Nat.ble lo ver && Nat.ble ver hi then some (off + k ≤ e ∧ cellsStr (loadList c off k) = some (.str l)) else none
    | none => none
  | _ => none
def bytesV (h : AHeap) (l : List UInt8) (v : AV) : Option Prop := match v with
  | .slc id ver off len _ => bytesAt h id ver off len l
  | .slg id ver off len _ => bytesAt h id ver off len l
  | _ => none
def bytesOp (ρ : Operand → Option AV) (h : AHeap) (l : List UInt8) (o : Op) : Option Prop := match o with
  | .convert s d x => match P.underlying s with
    | none => none
    | some _ => match P.underlying d with
      | some .string => match isSliceT P d with
        | true => none
        | false => match isByteSlice P s with
          | false => none
          | true => match ρ x with
            | none => none
            | some v => bytesV h l v
      | _ => none
  | _ => none
def BytesK [XT P] (l : List UInt8) (m : AM) (K : AM → Prop) : Prop := match m with
  | ⟨fr, rest, h⟩ => match fr.mode with
    | .run => match topOp fr with
      | none => False
      | some (all, o) => match wantedA all fr.tmps o.guard with
        | some true => optK (bytesOp P (ev fr.tmps) h l o.op) fun p => p ∧ Upon P fr rest h (.val (.str l) h) K
        | _ => False
    | _ => False
def binV (ρ : Operand → Option AV) (b : AV) (o : Op) : Option Prop := match o with
  | .binOp op t x y _ => match ρ x with
    | none => none
    | some v => match ρ y with
      | none => none
      | some w => some (∀ h : AHeap, binA P h op t (isConstO x || isConstO y) v w = some b)
  | _ => none
def BinVK [XT P] (v : AV) (m : AM) (K : AM → Prop) : Prop := match m with
  | ⟨fr, rest, h⟩ => match fr.mode with
    | .run => match topOp fr with
      | none => False
      | some (all, o) => match wantedA all fr.tmps o.guard with
        | some true => optK (binV P (ev fr.tmps) v o.op) fun p => p ∧ Upon P fr rest h (.val v h) K
        | _ => False
    | _ => False
def mnzE (h : AHeap) (fn : Func) (args : List AV) : Option (AR × Prop) := match fn.origin == "" with
  | false => none
  | true => match fn.name == "internal/abi.NoEscape" with
    | true => none
    | false => match fn.name == "internal/bytealg.abigen_runtime_cmpstring" with
      | true => none
      | false => match fn.name == "internal/bytealg.IndexByteString" with
        | true => none
        | false => match fn.name == "internal/bytealg.CountString" with
          | true => none
          | false => match fn.name == "internal/bytealg.MakeNoZero" with
            | false => none
            | true => match fn.resultTypes[0]? with
              | none => none
              | some t => match P.underlying t with
                | some (.slice el) => match args with
                  | [.int .i64 n] => some (.val (.slg h.next 0 0 n.toNat 0) (h.new (.cells .leaf n.toNat el 0 0 1 0 false .leaf)), 0 ≤ n ∧ n < 2 ^ 40 ∧ P.cellsOf el = 1)
                  | _ => none
                | _ => none
def ustrE (h : AHeap) (u : TypeId) (l : List UInt8) (p n : AV) : Option (AR × Prop) := match n with
  | .int .i64 k => match p with
    | .ptr id ver off => match h.get id with
      | some (.cells c m el lo hi nv fz sg ex) => match extOf ex m hi ver with
        | none => none
        | some e => match Nat.ble lo ver && Nat.ble ver hi with
          | false => none
          | true => match Nat.beq off 0 && Nat.beq el u && !sg with
            | false => none
            | true => some (.val (.str l) (h.put id (.cells c m el lo hi nv (max fz k.toNat) sg ex)), 0 < k ∧ k < 2 ^ 40 ∧ k.toNat ≤ e ∧ P.cellsOf el = 1 ∧ cellsStr (loadList c 0 k.toNat) = some (.str l))
      | _ => none
    | _ => none
  | _ => none
def extW (ρ : Operand → Option AV) (h : AHeap) (l : List UInt8) (o : Op) : Option (AR × Prop) := match o with
  | .call c => match mapO ρ c.args.toList with
    | none => none
    | some args => match c.callee with
      | .value f => match ρ f with
        | some (.fn (.func g) first cap) => match P.funcs[g]? with
          | none => none
          | some fn => match fn.body with
            | some _ => none
            | none => mnzE P h fn ((first ++ args) ++ cap)
        | _ => none
      | .builtin .unsafeString => match c.argTypes[0]? with
        | none => none
        | some t => match isPtrT P t with
          | none => none
          | some el => match isByteT P el with
            | false => none
            | true => match two1 args with
              | none => none
              | some (p, n) => ustrE P h el l p n
      | _ => none
  | _ => none
def ExtK [XT P] (l : List UInt8) (m : AM) (K : AM → Prop) : Prop := match m with
  | ⟨fr, rest, h⟩ => match fr.mode with
    | .run => match topOp fr with
      | none => False
      | some (all, o) => match wantedA all fr.tmps o.guard with
        | some true => match extW P (ev fr.tmps) h l o.op with
          | none => False
          | some (r, p) => p ∧ Upon P fr rest h r K
        | _ => False
    | _ => False
def AskOk (f : FuncId) (args : List AV) (h : AHeap) (v : AV) (H : AHeap) : Prop :=
  ∀ (B : Base) (R : Bij) (w : World) (args' : List Value), HRel P B R h w → B.n ≤ w.heap.size → VRels R args args' →
    Calls P f args'.toArray w fun e w' => ∃ R' v', e = .returned v' ∧ VRel R' v v' ∧ HRel P B R' ⟨H.objs, H.next, h.glob⟩ w' ∧ Keeps R w R' w'
def AskK [XT P] (v : AV) (H : AHeap) (m : AM) (K : AM → Prop) : Prop := match m with
  | ⟨fr, rest, h⟩ => match fr.mode with
    | .run => match topOp fr with
      | none => False
      | some (all, op) => match wantedA all fr.tmps op.guard with
        | some true => match opA P (ev fr.tmps) h op.op with
          | some (.enter f args h0) => AskOk P f args h0 v H ∧ Upon P fr rest h (.val v ⟨H.objs, H.next, h0.glob⟩) K
          | _ => False
        | _ => False
    | _ => False
def CapK (id k : Nat) (m : AM) (K : AM → Prop) : Prop := match m with
  | ⟨⟨fn, n, t, todo, ds, mode, kind, round⟩, rest, ⟨objs, next, glob⟩⟩ => match rest with
    | _ :: _ => False
    | [] => match todo with
      | .drw _ _ _ :: _ => False
      | todo => match objs.get id with
        | some (.cells c z el lo hi nv fz sg ex) => match c.get k with
          | some (.slg i r o l _st) => 0 < l ∧ ∀ cap, l ≤ cap → K ⟨⟨fn, n, t, todo, ds, mode, kind, round⟩, [], ⟨objs.set (some (.cells (c.set (some (.slc i r o l cap)) k) z el lo hi nv fz sg ex)) id, next, glob⟩⟩
          | _ => False
        | _ => False
def startH (f : FuncId) (args : List AV) (H : AHeap) : AM := match enterA P f args .normal with
  | some a => ⟨a, [], H⟩
  | none => ⟨⟨0, 0, .leaf, [], [], .run, .normal, none⟩, [], H⟩
inductive Cmd where
  | run (n : Nat)
  | br (b : Bool)
  | know (u : Nat) (b : Bool)
  | slot (u : Nat) (v : AV)
  | op
  | res (r : AR)
  | step
  | can (keep : Nat) (ids us : List Nat) (uss : List (List Nat))
  | keep (us : List Nat)
  | call (us : List Nat) (Q : AV → Prop)
  | callv (us : List Nat) (v : AV)
  | callh (l : List (Nat × Nat × List Nat)) (us : List Nat) (v : AV) (H : AHeap)
  | told (id : Nat) (c : T AV) (n : Nat)
  | tolds (u : Nat) (p : List Nat) (id : Nat) (c : T AV) (n : Nat)
  | cap (id k : Nat)
  | bytes (l : List UInt8)
  | ext (l : List UInt8)
  | isv (v : AV)
  | ask (v : AV) (H : AHeap)
  | opw (moved : Bool)
  | done
def cmdK [XT P] (f0 : FuncId) (Q : AV → AHeap → Prop) (keep : Nat) (c : Cmd) (m : AM) (K : AM → Prop) : Prop := match c with
  | .run n => optK (runN P n m) K
  | .br b => Br b m K
  | .know u b => Know u b m K
  | .slot u v => Slot u v m K
  | .op => OpK P m K
  | .res x => ResK P x m K
  | .step => StepK P m K
  | .keep us => KeepK us m K
  | .can k ids us uss => bif Nat.ble keep k then CanP k ids us uss m K else False
  | .call us q => CallK P us q m K
  | .callv us v => CallV P us v m K
  | .callh l us v H => CallH P l us v H m K
  | .told id c n => ToldK id c n m K
  | .tolds u p id c n => ToldSK u p id c n m K
  | .cap id k => CapK id k m K
  | .bytes l => BytesK P l m K
  | .isv v => BinVK P v m K
  | .ext l => ExtK P l m K
  | .opw b => OpWK P b m K
  | .ask v H => AskK P v H m K
  | .done => DoneK P f0 Q m
def Obl [XT P] (f0 : FuncId) (Q : AV → AHeap → Prop) (keep : Nat) (K : AM → Prop) (l : List Cmd) : AM → Prop :=
  List.rec (motive := fun _ => AM → Prop) K (fun c _ ih m => cmdK P f0 Q keep c m ih) l
end
section
variable {P : Program}
theorem ToldK_goal {keep : Nat} {f0 : FuncId} {Q : AV → AHeap → Prop} {id : Nat} {c' : T AV} {z' : Nat} {m : AM} {K : AM → Prop} (e : ToldK id c' z' m K) (hK : ∀ m, K m → Goal P keep f0 Q m) : Goal P keep f0 Q m := by
  intro w0 base fr cs w hk s
  obtain ⟨⟨fn, n, t, todo, ds, mode, kind, round⟩, rest, ⟨objs, next, glob⟩⟩ := m
  unfold ToldK at e
  simp only at e
  split at e
  · exact e.elim
  split at e
  · exact e.elim
  rename_i hn
  split at e
  rotate_left
  · exact e.elim
  rename_i c z el lo hi nv fz sg ex hobj
  obtain ⟨hle, rfl, e⟩ := e
  obtain ⟨B, R, fs, hc, hb, kh, ho, kt, kb⟩ := s
  generalize ho' : AObj.cells c' z' el lo hi nv fz sg ex = o' at e
  let h' : AHeap := ⟨objs.set (some o') id, next, glob⟩
  let B' : Base := { B with pend := fun i => match B.pend i with
    | none => none
    | some _ => h'.get i }
  have hget : ∀ i, h'.get i = if i = id then some o' else objs.get i := fun i => T.get_set ..
  have hpn : ∀ i, B.pend i = none ↔ B'.pend i = none := by
    intro i
    show _ ↔ (match B.pend i with
      | none => none
      | some _ => h'.get i) = none
    cases hp : B.pend i with
    | none => simp
    | some o =>
      have := (kh.pend i o hp).2.1
      refine ⟨fun h => (by cases h), fun h => ?_⟩
      simp only at h
      rw [hget] at h
      split at h
      · cases h
      · change objs.get i = some o at this; rw [this] at h; cases h
  refine hK _ e w0 base fr cs w hk ⟨B', R, fs, hc, hb, ?_, ho, ?_, kb⟩
  · refine ⟨kh.fresh, fun i o eo hpe => ?_, fun i o eo => ?_, kh.place, fun i hi => ⟨(kh.rd i hi).1, fun o eo => ?_⟩, fun i hi => (hpn i).1 (kh.rp i hi), kh.rol, kh.low, kh.pin, kh.apart, kh.same, kh.glob⟩
    · have eo' : h'.get i = some o := eo
      rw [hget] at eo'
      split at eo'
      · rename_i hi
        subst hi
        cases eo'
        obtain ⟨a1, a2, a3, a4, a5⟩ : ObjRel P R w i (.cells c z' el lo hi nv fz sg ex) := kh.obj i _ hobj ((hpn i).2 hpe)
        subst ho'
        refine ⟨a1, a2, a3, fun r e b1 b2 b3 => ?_, a5⟩
        obtain ⟨L, h1, cs, a, b, g1, g2, g3, g4, g5⟩ := a4 r e b1 b2 b3
        exact ⟨L, h1, cs, a, b, g1, g2, g3, g4, fun q v q1 q2 q3 => g5 q v q1 q2 (hle q v (Nat.lt_of_lt_of_le q1 (a5 r e b1 b2 b3)) q3)⟩
      · exact kh.obj i o eo' ((hpn i).2 hpe)
    · change (match B.pend i with
        | none => none
        | some _ => h'.get i) = some o at eo
      cases hp : B.pend i with
      | none => rw [hp] at eo; cases eo
      | some o0 =>
        rw [hp] at eo
        exact ⟨(kh.pend i o0 hp).1, eo, (kh.pend i o0 hp).2.2⟩
    · have eo' : h'.get i = some o := eo
      rw [hget] at eo'
      split at eo'
      · rename_i hi'
        subst hi'
        have := (kh.rd i hi).2 _ hobj
        cases this
      · exact (kh.rd i hi).2 o eo'
  · obtain ⟨k1, k2, k3, k4, k5, k6, k7, k8, k9⟩ := kt
    refine ⟨k1, k2, k3, k4, k5, k6, k7, k8, ?_⟩
    cases mode with
    | run =>
      change TodoRel P B R 0 false _ todo t fr.todo fr.tmps at k9
      show TodoRel P B' R 0 false h' todo t fr.todo fr.tmps
      cases todo with
      | nil => exact k9
      | cons it kk =>
        cases it with
        | drw a b c => exact absurd rfl (hn a b c kk)
        | _ => exact k9
    | returning => exact k9
    | panicking c => exact k9
theorem ToldSK_goal {keep : Nat} {f0 : FuncId} {Q : AV → AHeap → Prop} {u : Nat} {p : List Nat} {id : Nat} {c' : T AV} {z' : Nat} {m : AM} {K : AM → Prop} (e : ToldSK u p id c' z' m K) (hK : ∀ m, K m → Goal P keep f0 Q m) : Goal P keep f0 Q m := by
  intro w0 base fr cs w hk s
  obtain ⟨⟨fn, n, t, todo, ds, mode, kind, round⟩, rest, ⟨objs, next, glob⟩⟩ := m
  unfold ToldSK at e
  simp only at e
  split at e
  rotate_left
  · exact e.elim
  split at e
  · exact e.elim
  rename_i hn
  split at e
  · exact e.elim
  rename_i v0 hv0
  split at e
  · exact e.elim
  rename_i v hv
  split at e
  · exact e.elim
  rename_i j hj
  split at e
  · exact e.elim
  rename_i hji
  split at e
  rotate_left
  · exact e.elim
  rename_i c z el lo hi nv fz sg ex hobj
  obtain ⟨hle, rfl, e⟩ := e
  obtain rfl := Nat.eq_of_beq_eq_true hji
  obtain ⟨B, R, fs, hc, hb, kh, ho, kt, kb⟩ := s
  obtain ⟨k1, k2, k3, k4, k5, k6, k7, k8, k9⟩ := kt
  change TodoRel P B R rest.length false _ todo t fr.todo fr.tmps at k9
  have hs : All2 (ItemRel R) todo fr.todo ∧ Slots R t fr.tmps := by
    cases todo with
    | nil => exact k9
    | cons it kk =>
      cases it with
      | drw a b c => exact absurd rfl (hn a b c kk)
      | _ => exact k9
  obtain ⟨x, _, hx⟩ := hs.2 u v0 hv0
  obtain ⟨x', hx'⟩ := wit_rel kh hv hx
  obtain ⟨r, L, hL⟩ := headId_live hx' hj
  have hp : B.pend j = none := by
    cases hpj : B.pend j with
    | none => rfl
    | some o => have := (kh.pend j o hpj).2.2 r; rw [this] at hL; cases hL
  have hless : LessH P j ⟨objs, next, glob⟩ ⟨objs.set (some (.cells c' z' el lo hi nv fz sg ex)) j, next, glob⟩ :=
    ⟨.cells c z' el lo hi nv fz sg ex, .cells c' z' el lo hi nv fz sg ex, hobj, rfl, rfl, fun i => T.get_set .., rfl, rfl, cells_less' hle⟩
  refine hK _ e w0 base fr cs w hk ⟨B, R, fs, hc, hb, kh.less hless hp, ho, ⟨k1, k2, k3, k4, k5, k6, k7, k8, ?_⟩, kb.mono (fun _ _ _ h => h) ⟨rfl, fun _ _ h _ => ⟨h, rfl⟩⟩ (Nat.le_refl _)⟩
  show TodoRel P B R rest.length false _ todo t fr.todo fr.tmps
  cases todo with
  | nil => exact hs
  | cons it kk =>
    cases it with
    | drw a b c => exact absurd rfl (hn a b c kk)
    | _ => exact hs
theorem bytesOp_ok {ρ : Operand → Option AV} {h : AHeap} {l : List UInt8} {o : Op} {p : Prop} (e : bytesOp P ρ h l o = some p) (hp : p) : opA P ρ h o = some (.val (.str l) h) := by
  unfold bytesOp at e
  split at e
  rotate_left
  · cases e
  rename_i s d x
  split at e
  · cases e
  rename_i us hs
  split at e
  rotate_left
  · cases e
  rename_i hd
  split at e
  · cases e
  rename_i hsl
  split at e
  · cases e
  rename_i hb
  split at e
  · cases e
  rename_i v hv
  have key : ∀ id ver off k, bytesAt h id ver off k l = some p → cellsStr (loadCellsA h id ver off k) = some (.str l) := by
    intro id ver off k e
    unfold bytesAt at e
    split at e
    rotate_left
    · cases e
    rename_i c n el lo hi nv fz sg ex ho
    split at e
    rotate_left
    · cases e
    rename_i ee he
    cases hc : (Nat.ble lo ver && Nat.ble ver hi) with
    | false => rw [hc] at e; cases e
    | true =>
      rw [hc] at e
      simp only [cond_true, Option.some.injEq] at e
      subst e
      simp only [Bool.and_eq_true, Nat.ble_eq] at hc
      unfold loadCellsA
      rw [ho]
      simp only [he]
      rw [if_pos ⟨hc.1, hc.2, hp.1⟩]
      exact hp.2
  have conv : convA P h s d v = some (.str l) := by
    unfold convA
    rw [hs, hd]
    simp only [hb]
    unfold bytesV at e
    split at e
    · rename_i id ver off len c
      show cellsStr (loadCellsA h id ver off len) = _
      exact key _ _ _ _ e
    · rename_i id ver off len st
      show cellsStr (loadCellsA h id ver off len) = _
      exact key _ _ _ _ e
    · cases e
  show one' ρ x (fun v => convE P h s d v) = _
  unfold one'
  rw [hv]
  show convE P h s d v = _
  unfold convE
  rw [hsl]
  show valE h (convA P h s d v) = _
  rw [conv]
  rfl
theorem mnzE_ok {h : AHeap} {fn : Func} {args : List AV} {r : AR} {p : Prop} (e : mnzE P h fn args = some (r, p)) (hp : p) : externA P h fn args = some r := by
  unfold mnzE at e
  unfold externA
  split at e
  · cases e
  rename_i h0
  simp only [h0]
  split at e
  · cases e
  rename_i h1
  simp only [h1]
  split at e
  · cases e
  rename_i h2
  simp only [h2]
  split at e
  · cases e
  rename_i h3
  simp only [h3]
  split at e
  · cases e
  rename_i h4
  simp only [h4]
  split at e
  · cases e
  rename_i h5
  simp only [h5]
  unfold extMakeNoZero
  split at e
  · cases e
  rename_i t ht
  simp only [ht]
  split at e
  rotate_left
  · cases e
  rename_i el hu
  simp only [hu]
  split at e
  rotate_left
  · cases e
  cases e
  simp only
  rw [if_pos hp]
theorem ustrE_ok {h : AHeap} {u : TypeId} {l : List UInt8} {v n : AV} {r : AR} {p : Prop} (e : ustrE P h u l v n = some (r, p)) (hp : p) : valH (unsafeStrA P h u v n) = some r := by
  unfold ustrE at e
  split at e
  rotate_left
  · cases e
  rename_i k
  split at e
  rotate_left
  · cases e
  rename_i id ver off
  split at e
  rotate_left
  · cases e
  rename_i c m el lo hi nv fz sg ex ho
  split at e
  · cases e
  rename_i e0 he
  split at e
  · cases e
  rename_i hb
  split at e
  · cases e
  rename_i hq
  cases e
  simp only [Bool.and_eq_true, Nat.ble_eq] at hb
  rw [Bool.and_eq_true, Bool.and_eq_true] at hq
  obtain ⟨⟨q1, q2⟩, q3⟩ := hq
  have q1 := Nat.eq_of_beq_eq_true q1
  have q2 := Nat.eq_of_beq_eq_true q2
  have q3 : sg = false := by cases sg; rfl; cases q3
  obtain ⟨p1, p2, p3, p4, p5⟩ := hp
  unfold cellsStr at p5
  split at p5
  · cases p5
  rename_i ls hls
  unfold strAV at p5
  split at p5
  · cases p5
  rename_i s hs
  cases p5
  unfold unsafeStrA
  simp only
  rw [if_neg (by omega), if_pos ⟨p1, p2⟩]
  unfold unsafeAt
  rw [ho]
  simp only [he]
  rw [if_pos ⟨hb.1, hb.2, p3, q1, q2, q3, p4⟩]
  simp only [hls, hs]
  rfl
theorem extW_ok {ρ : Operand → Option AV} {h : AHeap} {l : List UInt8} {o : Op} {r : AR} {p : Prop} (e : extW P ρ h l o = some (r, p)) (hp : p) : opA P ρ h o = some r := by
  unfold extW at e
  split at e
  rotate_left
  · cases e
  rename_i c
  split at e
  · cases e
  rename_i args ha
  show callOpA P ρ h c = some r
  unfold callOpA
  simp only [ha]
  split at e
  · rename_i f hc
    rw [hc]
    simp only
    split at e
    rotate_left
    · cases e
    rename_i g first cap hf
    rw [hf]
    show invokeFnA P h (.func g) (first ++ args) cap = some r
    show callA P h g ((first ++ args) ++ cap) = some r
    unfold callA
    split at e
    · cases e
    rename_i fn hfn
    simp only [hfn]
    split at e
    · cases e
    rename_i hbody
    simp only [hbody]
    exact mnzE_ok e hp
  · rename_i hc
    rw [hc]
    simp only
    split at e
    · cases e
    rename_i t ht
    split at e
    · cases e
    rename_i el hel
    split at e
    · cases e
    rename_i hby
    split at e
    · cases e
    rename_i v n htw
    show builtinE P h .unsafeString c.argTypes[0]? c.argTypes[1]? args = some r
    unfold builtinE
    simp only [ht]
    unfold unsafeE
    simp only [hel, hby, htw]
    exact ustrE_ok e hp
  · cases e
theorem swap_goal {keep : Nat} {f0 : FuncId} {Q : AV → AHeap → Prop} {id : Nat} {fn n : Nat} {t : T AV} {todo : List AItem} {ds : List ADef} {mode : AMode} {kind : CallKind} {round : Option Nat} {objs : T AObj} {next : Nat} {glob : T (T AV)} {o : AObj}
    (hn : ∀ a b c k, todo ≠ .drw a b c :: k) (hobj : objs.get id = some o) (hro : o.isRo = false)
    (hany : ∃ o' : AObj, o'.isRo = false ∧ Goal P keep f0 Q ⟨⟨fn, n, t, todo, ds, mode, kind, round⟩, [], ⟨objs.set (some o') id, next, glob⟩⟩)
    (hsw : ∀ (R : Bij) (w : World), ObjRel P R w id o → ∃ o' : AObj, o'.isRo = false ∧ ObjRel P R w id o' ∧ Goal P keep f0 Q ⟨⟨fn, n, t, todo, ds, mode, kind, round⟩, [], ⟨objs.set (some o') id, next, glob⟩⟩) :
    Goal P keep f0 Q ⟨⟨fn, n, t, todo, ds, mode, kind, round⟩, [], ⟨objs, next, glob⟩⟩ := by
  intro w0 base fr cs w hk s
  obtain ⟨B, R, fs, hc, hb, kh, ho, kt, kb⟩ := s
  obtain ⟨o', hro', hobj', hG⟩ : ∃ o' : AObj, o'.isRo = false ∧ (B.pend id = none → ObjRel P R w id o') ∧ Goal P keep f0 Q ⟨⟨fn, n, t, todo, ds, mode, kind, round⟩, [], ⟨objs.set (some o') id, next, glob⟩⟩ := by
    cases hp : B.pend id with
    | none =>
      obtain ⟨o', h1, h2, h3⟩ := hsw R w (kh.obj id _ hobj hp)
      exact ⟨o', h1, fun _ => h2, h3⟩
    | some x =>
      obtain ⟨o', h1, h3⟩ := hany
      exact ⟨o', h1, (fun h => by cases h), h3⟩
  let h' : AHeap := ⟨objs.set (some o') id, next, glob⟩
  let B' : Base := { B with pend := fun i => match B.pend i with
    | none => none
    | some _ => h'.get i }
  have hget : ∀ i, h'.get i = if i = id then some o' else objs.get i := fun i => T.get_set ..
  have hpn : ∀ i, B.pend i = none ↔ B'.pend i = none := by
    intro i
    show _ ↔ (match B.pend i with
      | none => none
      | some _ => h'.get i) = none
    cases hp : B.pend i with
    | none => simp
    | some o =>
      have := (kh.pend i o hp).2.1
      refine ⟨fun h => (by cases h), fun h => ?_⟩
      simp only at h
      rw [hget] at h
      split at h
      · cases h
      · change objs.get i = some o at this; rw [this] at h; cases h
  refine hG w0 base fr cs w hk ⟨B', R, fs, hc, hb, ?_, ho, ?_, kb⟩
  · refine ⟨kh.fresh, fun i o eo hpe => ?_, fun i o eo => ?_, kh.place, fun i hi => ⟨(kh.rd i hi).1, fun o eo => ?_⟩, fun i hi => (hpn i).1 (kh.rp i hi), kh.rol, kh.low, kh.pin, kh.apart, kh.same, kh.glob⟩
    · have eo' : h'.get i = some o := eo
      rw [hget] at eo'
      split at eo'
      · rename_i hi
        subst hi
        cases eo'
        exact hobj' ((hpn i).2 hpe)
      · exact kh.obj i o eo' ((hpn i).2 hpe)
    · change (match B.pend i with
        | none => none
        | some _ => h'.get i) = some o at eo
      cases hp : B.pend i with
      | none => rw [hp] at eo; cases eo
      | some o0 =>
        rw [hp] at eo
        exact ⟨(kh.pend i o0 hp).1, eo, (kh.pend i o0 hp).2.2⟩
    · have eo' : h'.get i = some o := eo
      rw [hget] at eo'
      split at eo'
      · rename_i hi'
        subst hi'
        have := (kh.rd i hi).2 _ hobj
        rw [hro] at this; cases this
      · exact (kh.rd i hi).2 o eo'
  · obtain ⟨k1, k2, k3, k4, k5, k6, k7, k8, k9⟩ := kt
    refine ⟨k1, k2, k3, k4, k5, k6, k7, k8, ?_⟩
    cases mode with
    | run =>
      change TodoRel P B R 0 false _ todo t fr.todo fr.tmps at k9
      show TodoRel P B' R 0 false h' todo t fr.todo fr.tmps
      cases todo with
      | nil => exact k9
      | cons it kk =>
        cases it with
        | drw a b c => exact absurd rfl (hn a b c kk)
        | _ => exact k9
    | returning => exact k9
    | panicking c => exact k9
theorem CapK_goal {keep : Nat} {f0 : FuncId} {Q : AV → AHeap → Prop} {id k : Nat} {m : AM} {K : AM → Prop} (e : CapK id k m K) (hK : ∀ m, K m → Goal P keep f0 Q m) : Goal P keep f0 Q m := by
  obtain ⟨⟨fn, n, t, todo, ds, mode, kind, round⟩, rest, ⟨objs, next, glob⟩⟩ := m
  unfold CapK at e
  simp only at e
  split at e
  · exact e.elim
  split at e
  · exact e.elim
  rename_i hn
  split at e
  rotate_left
  · exact e.elim
  rename_i c z el lo hi nv fz sg ex hobj
  split at e
  rotate_left
  · exact e.elim
  rename_i i r o l st hc
  obtain ⟨hl, e⟩ := e
  refine swap_goal hn hobj rfl ⟨_, rfl, hK _ (e l (Nat.le_refl _))⟩ fun R w hrel => ?_
  obtain ⟨a1, a2, a3, a4, a5⟩ := hrel
  generalize hcap : max l (((R i r).elim 0 Loc.kap) - st) = cap
  refine ⟨.cells (c.set (some (.slc i r o l cap)) k) z el lo hi nv fz sg ex, rfl, ?_, hK _ (e cap (by omega))⟩
  refine ⟨a1, a2, a3, fun r' e' b1 b2 b3 => ?_, a5⟩
  obtain ⟨L, h1, cs, a, b, g1, g2, g3, g4, g5⟩ := a4 r' e' b1 b2 b3
  refine ⟨L, h1, cs, a, b, g1, g2, g3, g4, fun q v q1 q2 q3 => ?_⟩
  rw [T.get_set] at q3
  split at q3
  · rename_i hq
    subst hq
    cases q3
    obtain ⟨x, hx, M, ad, hM, m1, m2, rfl, m3⟩ := g5 q _ q1 q2 hc
    refine ⟨_, hx, M, hM, m1, ?_⟩
    have hc2 : cap = M.kap - st := by
      rw [← hcap, hM]
      simp only [Option.elim]
      omega
    rw [m3 (by omega), hc2]
  · exact g5 q v q1 q2 q3
open Classical in
noncomputable def askT (f : FuncId) (args : List AV) (h : AHeap) (v : AV) (H : AHeap) : FuncId → Option (AHeap → List AV → Option (AV × T AObj × Nat)) :=
  fun g => if g = f then some (fun h' a => if h' = h ∧ a = args then some (v, H.objs, H.next) else none) else none
theorem askT_ok {f : FuncId} {args : List AV} {h : AHeap} {v : AV} {H : AHeap} (k : AskOk P f args h v H) : @XTOk P ⟨askT f args h v H⟩ :=
  @XTOk.mk P ⟨askT f args h v H⟩ fun g F e => by
    change askT f args h v H g = some F at e
    unfold askT at e
    split at e
    · rename_i hg
      cases e
      subst hg
      intro B R h' w a a' v' o' n' e hh hB ha
      dsimp only at e
      split at e
      · rename_i hc
        obtain ⟨rfl, rfl⟩ := hc
        cases e
        exact k B R w a' hh hB ha
      · cases e
    · cases e
open Classical in
theorem AskK_goal [XT P] [XTOk P] (hmix : P.follows .mixedOrders = true) {keep : Nat} {f0 : FuncId} {Q : AV → AHeap → Prop} {v : AV} {H : AHeap} {m : AM} {K : AM → Prop} (e : AskK P v H m K) (hK : ∀ m, K m → Goal P keep f0 Q m) : Goal P keep f0 Q m := by
  obtain ⟨fr, rest, h⟩ := m
  unfold AskK at e
  simp only at e
  split at e
  rotate_left
  · exact e.elim
  rename_i hm
  split at e
  · exact e.elim
  rename_i all op ho
  split at e
  rotate_left
  · exact e.elim
  rename_i hw
  split at e
  rotate_left
  · exact e.elim
  rename_i f args h0 hop
  obtain ⟨k, e⟩ := e
  obtain ⟨m', h1, h2⟩ := Upon_some e
  refine @Goal.step P ⟨askT f args h0 v H⟩ (askT_ok k) hmix keep f0 Q _ m' ?_ (hK _ h2)
  rw [@topOp_step P ⟨askT f args h0 v H⟩ (askT_ok k) fr rest h all op hm ho]
  simp only [operA, hw, hop, uponO]
  change topM rest _ (finishA P fr _ v) = some m' at h1
  have ht : askT f args h0 v H f = some (fun h' a => if h' = h0 ∧ a = args then some (v, H.objs, H.next) else none) := if_pos rfl
  have hx : @calledX P ⟨askT f args h0 v H⟩ h0 f args = some (v, ⟨H.objs, H.next, h0.glob⟩) := by
    show (match askT f args h0 v H f with
      | none => none
      | some F => match F h0 args with
        | none => none
        | some (v, o, n) => some (v, (⟨o, n, h0.glob⟩ : AHeap))) = _
    rw [ht]
    simp only [and_self, if_true]
  show (match @calledX P ⟨askT f args h0 v H⟩ h0 f args with
    | none => topM (fr :: rest) h0 (enterA P f args .normal)
    | some (v, h') => topM rest h' (finishA P fr h' v)) = some m'
  rw [hx]
  exact h1
theorem Obl.goal [XT P] [XTOk P] (hmix : P.follows .mixedOrders = true) {f0 : FuncId} {Q : AV → AHeap → Prop} {keep : Nat} {K : AM → Prop} (hK : ∀ m, K m → Goal P keep f0 Q m) : ∀ {l : List Cmd} {m : AM}, Obl P f0 Q keep K l m → Goal P keep f0 Q m
  | [], m, e => hK m e
  | c :: r, m, e => by
    have ih := fun m (e : Obl P f0 Q keep K r m) => Obl.goal hmix hK (l := r) (m := m) e
    cases c with
    | run n =>
      obtain ⟨m', h1, h2⟩ := optK_some e
      exact .runN hmix h1 (ih _ h2)
    | br b =>
      obtain ⟨fr, rest, h⟩ := m
      change Br b ⟨fr, rest, h⟩ (Obl P f0 Q keep K r) at e
      unfold Br at e
      simp only at e
      split at e
      rotate_left
      · exact e.elim
      rename_i hm
      split at e
      rotate_left
      · exact e.elim
      rename_i c x y k htodo
      split at e
      rotate_left
      · exact e.elim
      rename_i t ht
      obtain ⟨rfl, e⟩ := e
      refine .step hmix ?_ (ih _ e)
      simp only [stepA, hm, execA, htodo]
      show condA fr rest h x y k (ev fr.tmps c) = _
      rw [ht]
      cases t <;> rfl
    | know u b =>
      obtain ⟨⟨fn, n, t, todo, ds, mode, kind, round⟩, rest, h⟩ := m
      change Know u b ⟨⟨fn, n, t, todo, ds, mode, kind, round⟩, rest, h⟩ (Obl P f0 Q keep K r) at e
      unfold Know at e
      simp only at e
      split at e
      · rename_i c hc
        obtain ⟨rfl, e⟩ := e
        rw [T.set_same' hc] at e
        exact ih _ e
      · exact e.elim
    | slot u v =>
      obtain ⟨⟨fn, n, t, todo, ds, mode, kind, round⟩, rest, h⟩ := m
      change Slot u v ⟨⟨fn, n, t, todo, ds, mode, kind, round⟩, rest, h⟩ (Obl P f0 Q keep K r) at e
      unfold Slot at e
      simp only at e
      split at e
      · rename_i c hc
        obtain ⟨rfl, e⟩ := e
        rw [T.set_same' hc] at e
        exact ih _ e
      · exact e.elim
    | op =>
      obtain ⟨fr, rest, h⟩ := m
      change OpK P ⟨fr, rest, h⟩ (Obl P f0 Q keep K r) at e
      unfold OpK at e
      simp only at e
      split at e
      rotate_left
      · exact e.elim
      rename_i hm
      split at e
      · exact e.elim
      rename_i all o ho
      split at e
      rotate_left
      · exact e.elim
      rename_i hw
      split at e
      · exact e.elim
      rename_i ar p hop
      obtain ⟨hp, e⟩ := e
      obtain ⟨m', h1, h2⟩ := Upon_some e
      refine .step hmix ?_ (ih _ h2)
      rw [topOp_step hm ho]
      simp only [operA, hw, opS_ok hop hp, uponO, h1]
    | res x =>
      obtain ⟨fr, rest, h⟩ := m
      change ResK P x ⟨fr, rest, h⟩ (Obl P f0 Q keep K r) at e
      unfold ResK at e
      simp only at e
      split at e
      rotate_left
      · exact e.elim
      rename_i hm
      split at e
      · exact e.elim
      rename_i all o ho
      split at e
      rotate_left
      · exact e.elim
      rename_i hw
      obtain ⟨hp, e⟩ := e
      obtain ⟨m', h1, h2⟩ := Upon_some e
      refine .step hmix ?_ (ih _ h2)
      rw [topOp_step hm ho]
      simp only [operA, hw, hp, uponO, h1]
    | ext x =>
      obtain ⟨fr, rest, h⟩ := m
      change ExtK P x ⟨fr, rest, h⟩ (Obl P f0 Q keep K r) at e
      unfold ExtK at e
      simp only at e
      split at e
      rotate_left
      · exact e.elim
      rename_i hm
      split at e
      · exact e.elim
      rename_i all o ho
      split at e
      rotate_left
      · exact e.elim
      rename_i hw
      split at e
      · exact e.elim
      rename_i ar p hop
      obtain ⟨hp, e⟩ := e
      obtain ⟨m', h1, h2⟩ := Upon_some e
      refine .step hmix ?_ (ih _ h2)
      rw [topOp_step hm ho]
      simp only [operA, hw, extW_ok hop hp, uponO, h1]
    | isv x =>
      obtain ⟨fr, rest, h⟩ := m
      change BinVK P x ⟨fr, rest, h⟩ (Obl P f0 Q keep K r) at e
      unfold BinVK at e
      simp only at e
      split at e
      rotate_left
      · exact e.elim
      rename_i hm
      split at e
      · exact e.elim
      rename_i all o ho
      split at e
      rotate_left
      · exact e.elim
      rename_i hw
      obtain ⟨p, hpe, hp, e⟩ := optK_some e
      obtain ⟨m', h1, h2⟩ := Upon_some e
      refine .step hmix ?_ (ih _ h2)
      rw [topOp_step hm ho]
      have hop : opA P (ev fr.tmps) h o.op = some (.val x h) := by
        unfold binV at hpe
        split at hpe
        rotate_left
        · cases hpe
        rename_i op t a b t' hoo
        split at hpe
        · cases hpe
        rename_i v1 hv1
        split at hpe
        · cases hpe
        rename_i v2 hv2
        cases hpe
        rw [hoo]
        show op_binOp P op t a b t' (ev fr.tmps) h = _
        simp only [op_binOp, two, hv1, hv2, hp h, valE]
      simp only [operA, hw, hop, uponO, h1]
    | step =>
      obtain ⟨fr, rest, h⟩ := m
      change StepK P ⟨fr, rest, h⟩ (Obl P f0 Q keep K r) at e
      unfold StepK at e
      simp only at e
      split at e
      · rename_i hm
        split at e
        · exact e.elim
        rename_i all o ho
        split at e
        rotate_left
        · exact e.elim
        rename_i hw
        obtain ⟨ar, hr, e⟩ := optK_some e
        obtain ⟨m', h1, h2⟩ := Upon_some e
        refine .step hmix ?_ (ih _ h2)
        rw [topOp_step hm ho]
        simp only [operA, hw, hr, uponO, h1]
      · rename_i hm
        split at e
        rotate_left
        · exact e.elim
        rename_i hdef
        split at e
        rotate_left
        · exact e.elim
        rename_i hkind
        split at e
        · exact e.elim
        rename_i c r'
        split at e
        rotate_left
        · exact e.elim
        rename_i hcm
        obtain ⟨v, hv, e⟩ := optK_some e
        obtain ⟨c', h1, h2⟩ := Fin_some e
        refine .step hmix ?_ (ih _ h2)
        simp only [stepA, hm, unwindA, hdef, hv, returnO, hkind, returnA, hcm, h1, topM]
      · exact e.elim
    | keep us => exact KeepK_goal e ih
    | can k ids us uss =>
      change (bif Nat.ble keep k then CanP k ids us uss m (Obl P f0 Q keep K r) else False) at e
      cases hb : Nat.ble keep k with
      | false => rw [hb] at e; exact e.elim
      | true =>
        rw [hb] at e
        exact CanP_goal (Nat.le_of_ble_eq_true hb) e ih
    | call us q => exact CallK_goal e ih
    | callv us v => exact CallK_goal (CallV_call e) ih
    | callh l us v H => exact CallH_goal e ih
    | told id c n => exact ToldK_goal e ih
    | tolds u p id c n => exact ToldSK_goal e ih
    | cap id k => exact CapK_goal e ih
    | bytes l =>
      obtain ⟨fr, rest, h⟩ := m
      change BytesK P l ⟨fr, rest, h⟩ (Obl P f0 Q keep K r) at e
      unfold BytesK at e
      simp only at e
      split at e
      rotate_left
      · exact e.elim
      rename_i hm
      split at e
      · exact e.elim
      rename_i all o ho
      split at e
      rotate_left
      · exact e.elim
      rename_i hw
      obtain ⟨p, hp, hp1, e⟩ := optK_some e
      obtain ⟨m', h1, h2⟩ := Upon_some e
      refine .step hmix ?_ (ih _ h2)
      rw [topOp_step hm ho]
      simp only [operA, hw, bytesOp_ok hp hp1, uponO, h1]
    | opw b => exact OpWK_goal e ih
    | ask v H => exact AskK_goal hmix e ih
    | done => exact DoneK_goal e
end
end Go.Proofs.YtdbfpjgnlfejmaaDoor.Ev
end
section
namespace Go.Proofs.YtdbfpjgnlfejmaaDoor.Ev
open Go Go.ChangeShapes Go.WideShapes
structure Inp where
  there : Bool
  block : Nat
  cells : T AV
  lo : Nat
  n : Nat
def Inp.holds (x : Inp) (w : World) : Prop := x.there = true → ∃ cs el fz, w.heap[x.block]? = some (.cells cs el fz) ∧ x.n ≤ cs.size ∧ ∀ k v, x.lo ≤ k → k < x.n → x.cells.get k = some v → ∃ y, cs[k]? = some y ∧ VRel (fun _ _ => none) v y
def Inp.obj (x : Inp) : Option AObj := match x.there with
  | true => some (.ro x.cells x.lo x.n)
  | false => none
noncomputable def inpObjs : List Inp → Nat → T AObj → T AObj
  | [], _, t => t
  | x :: r, i, t => inpObjs r (i + 1) (t.set x.obj i)
noncomputable def inpHeap (l : List Inp) (G : T (T AV)) : AHeap := ⟨inpObjs l 0 .leaf, l.length, G⟩
def inpBij (l : List Inp) : Bij := fun i r => if r = 0 then match l[i]? with
  | none => none
  | some x => match x.there with
    | true => some ⟨x.block, 0, 0⟩
    | false => none else none
theorem inpObjs_get : ∀ (l : List Inp) (i : Nat) (t : T AObj) (j : Nat), (inpObjs l i t).get j = if i ≤ j ∧ j < i + l.length then (l[j - i]?).bind Inp.obj else t.get j
  | [], i, t, j => by simp [inpObjs]; omega
  | x :: r, i, t, j => by
    rw [inpObjs, inpObjs_get r (i + 1), T.get_set]
    by_cases h0 : j = i
    · subst h0
      rw [if_neg (by omega), if_pos rfl, if_pos (by simp)]
      simp
    · by_cases h1 : i + 1 ≤ j ∧ j < i + 1 + r.length
      · rw [if_pos h1, if_pos (by simp; omega)]
        rw [show j - i = (j - (i + 1)) + 1 by omega, List.getElem?_cons_succ]
      · rw [if_neg h1, if_neg h0, if_neg (by simp; omega)]
def Env.inp (w : World) (l : List Inp) : Env := { Env.of w with rob := fun b => ∃ x ∈ l, x.block = b }
def Base.inp (w : World) (l : List Inp) : Base := ⟨Env.inp w l, fun i => i < l.length, fun _ => none, fun _ => (0, 0)⟩
theorem HRel.inp {P : Program} {G : T (T AV)} {w : World} {l : List Inp} (hG : Globs G w) (hl : ∀ x ∈ l, x.holds w) : HRel P (Base.inp w l) (inpBij l) (inpHeap l G) w := by
  have hR : ∀ {i r L}, inpBij l i r = some L → r = 0 ∧ ∃ x, l[i]? = some x ∧ L = ⟨x.block, 0, 0⟩ ∧ i < l.length ∧ x.there = true := by
    intro i r L e
    unfold inpBij at e
    split at e
    · rename_i hr
      split at e
      · cases e
      · rename_i x hx
        split at e
        · rename_i ht; cases e; exact ⟨hr, x, hx, rfl, (List.getElem?_eq_some_iff.1 hx).1, ht⟩
        · cases e
    · cases e
  have hget : ∀ {i o}, (inpHeap l G).get i = some o → ∃ x, l[i]? = some x ∧ o = .ro x.cells x.lo x.n ∧ x.there = true := by
    intro i o e
    change (inpObjs l 0 .leaf).get i = some o at e
    rw [inpObjs_get] at e
    split at e
    · rw [Nat.sub_zero] at e
      cases hx : l[i]? with
      | none => rw [hx] at e; cases e
      | some x =>
        rw [hx] at e
        change x.obj = some o at e
        unfold Inp.obj at e
        split at e
        · rename_i ht; cases e; exact ⟨x, rfl, rfl, ht⟩
        · cases e
    · cases e
  exact {
    fresh := fun i hi r => by
      cases h : inpBij l i r with
      | none => rfl
      | some L =>
        obtain ⟨_, x, _, _, h1, _⟩ := hR h
        exact absurd h1 (Nat.not_lt.2 hi)
    obj := fun i o e _ => by
      obtain ⟨x, hx, rfl, ht⟩ := hget e
      obtain ⟨cs, el, fz, h1, h2, h3⟩ := hl x (List.mem_of_getElem? hx) ht
      exact ⟨⟨x.block, 0, 0⟩, cs, el, fz, by simp [inpBij, hx, ht], rfl, h1, h2, h3⟩
    pend := fun i o e => by cases e
    place := fun i r L e => by
      obtain ⟨_, x, hx, rfl, h1, ht⟩ := hR e
      obtain ⟨cs, el, fz, h2, _⟩ := hl x (List.mem_of_getElem? hx) ht
      exact ⟨.inr h1, heap_lt h2⟩
    rd := fun i hi => ⟨hi, fun o e => by obtain ⟨x, _, rfl, _⟩ := hget e; rfl⟩
    low := fun b _ => rfl
    rp := fun i _ => rfl
    rol := fun i r L _ e => by
      obtain ⟨_, x, hx, rfl, _⟩ := hR e
      exact ⟨x, List.mem_of_getElem? hx, rfl⟩
    pin := fun i r L e => by cases e
    apart := fun i r i' r' L L' e e' _ hor => by
      obtain ⟨_, _, _, _, h1, _⟩ := hR e
      obtain ⟨_, _, _, _, h2, _⟩ := hR e'
      rcases hor with h | h
      · exact absurd h1 h
      · exact absurd h2 h
    same := fun i r r' L L' e e' _ => by
      obtain ⟨_, x, hx, rfl, _⟩ := hR e
      obtain ⟨_, x', hx', rfl, _⟩ := hR e'
      rfl
    glob := fun g c e => ⟨fun hm => hm.elim (fun hl => absurd (hG g c e).1 (Nat.not_lt.2 hl)) id, (hG g c e).2⟩ }
theorem law_calls {P : Program} {G : T (T AV)} {l : List Inp} {f : FuncId} {args : List AV} {vs : List Value} {a : AFrame} (ha : enterA P f args .normal = some a) {w : World} (hG : Globs G w) (hl : ∀ x ∈ l, x.holds w)
    (hv : VRels (inpBij l) args vs) (k : Goal P 0 f (fun v _ => v = .bool true) ⟨a, [], inpHeap l G⟩) : Calls P f vs.toArray w fun r w' => r = .returned (.bool true) ∧ Old w w' := by
  intro cs
  have hs : Sim P (Env.inp w l) cs ⟨a, [], inpHeap l G⟩ (Frame.enter P f vs.toArray .normal) cs w :=
    ⟨Base.inp w l, inpBij l, [], rfl, rfl, .inp hG hl, .start w, enter_rel ha hv (.inl rfl), rfl⟩
  obtain ⟨fr', w', B, R, v, v', h', s1, s2, s3, s4, s5, s6, s7, rfl⟩ := k (Env.inp w l) cs _ _ _ (fun i r L e => by cases e) hs
  cases s4
  exact ⟨.returned (.bool true), w', fr', ⟨rfl, (s7.all s5 s6).old fun _ e => e⟩, s1, s3, s2⟩
theorem inp_at {w : World} {a : Addr} {n : Nat} {f : Nat → Value} {g : Nat → AV} (h : ∀ i, i < n → w.cell? (a.add i) = some (f i)) (hfg : ∀ i, i < n → VRel (fun _ _ => none) (g i) (f i)) (hp : 0 < n) :
    ∃ b off, a = ⟨b, off, none⟩ ∧ (Inp.mk true b (.fn fun j => some (g (j - off))) off (off + n)).holds w := by
  obtain ⟨b, off, spot⟩ := a
  have hspot : spot = none := by simpa [Addr.add] using World.cell?_spot (h 0 hp)
  subst hspot
  have hc : ∀ i, i < n → w.cell? ⟨b, off + i, none⟩ = some (f i) := fun i hi => by rw [← Go.WideShapes.add_plain]; exact h i hi
  have h0 := hc 0 hp
  cases hb : w.heap[b]? with
  | none => rw [World.cell?] at h0; simp [hb] at h0
  | some o =>
    cases o with
    | cells cs el fz =>
      have hcell : ∀ i, i < n → cs[off + i]? = some (f i) := fun i hi => by
        have := hc i hi
        rwa [cell?_row w b _ hb] at this
      refine ⟨b, off, rfl, fun _ => ⟨cs, el, fz, hb, ?_, fun k v h1 h2 e => ?_⟩⟩
      · have := (Array.getElem?_eq_some_iff.1 (hcell (n - 1) (by omega))).1
        show off + n ≤ cs.size
        omega
      · cases e
        have hk : k - off < n := by
          have : k < off + n := h2
          omega
        have := hcell (k - off) hk
        rw [show off + (k - off) = k by have : off ≤ k := h1; omega] at this
        exact ⟨_, this, hfg _ hk⟩
    | _ => simp [World.cell?, hb] at h0
theorem trodAll_stays {H : Type} {enc : TypeId × Value → H} {P : Program} (hl : laidOutB P = true) {W W' : World} (hb : ∀ b, b < W.heap.size → W'.heap[b]? = W.heap[b]?) {sp : Nat → Bool} :
    ∀ {ts : List TypeId} {vs : List Value} {ds : List (DataW H)} {ps : List MemPlace}, (ts.all fun t => P.readableRec t && decide (t < P.types.size)) = true → DataW.TrodAll enc P W 0 (fun _ => true) true ts vs ds ps →
      (∀ x ∈ ps, x.block < W.heap.size) → (∀ x ∈ ps, sp x.block = true) → DataW.TrodAll enc P W' 0 sp true ts vs ds ps
  | [], vs, ds, ps, _, h, _, _ => by
    obtain ⟨rfl, rfl, rfl⟩ := trodAll_nil h
    exact trodAll_mk0
  | t :: ts, vs, ds, ps, ht, h, hlt, hsp => by
    obtain ⟨v, vs', d, ds', p, q, rfl, rfl, rfl, h1, h2⟩ := trodAll_cons h
    simp only [List.all_cons, Bool.and_eq_true, decide_eq_true_eq] at ht
    have hs : ∀ x ∈ p, W.sameAt W' x := fun x hx => by
      have := hlt x (List.mem_append_left _ hx)
      cases x with
      | cell b o => exact World.cell?_of_block (w := W) (hb b this)
      | map b => exact hb b this
    exact trodAll_cons_mk (WideElems.Trod_stays hl ht.1.1 ht.1.2 h1 hs (fun x hx => hsp x (List.mem_append_left _ hx)))
      (trodAll_stays hl hb (by simpa using ht.2) h2 (fun x hx => hlt x (List.mem_append_right _ hx)) (fun x hx => hsp x (List.mem_append_right _ hx)))
theorem post_law {H : Type} {enc : TypeId × Value → H} {P : Program} {f : Func} {s : ChangeSpec} {apart fresh handsOn again : Bool} {W W' : World} {args : Array Value} {ds gs : List (DataW H)} {before : List MemPlace} {tb : TypeId}
    (hl : laidOutB P = true) (ht : (f.params.toList.all fun t => P.readableRec t && decide (t < P.types.size)) = true) (hr : f.resultTypes = #[tb]) (hbool : P.underlying tb = some .bool) (hvars : s.vars = [])
    (hW : DataW.Whole enc P f.params.toList s.vars apart W args.toList ds gs before) (hfn : s.fn H (ds ++ gs) = { results := [.lit (.bool true)], args := ds }) (k : Old W W') :
    s.post enc P f apart fresh handsOn again W args (.bool true) W' := by
  have hlt := hW.lt
  have hW' := hW
  obtain ⟨p, q, hA, hV, hpq, hz, hn⟩ := hW
  rw [hvars] at hV
  have hgq : gs = [] ∧ q = [] := by
    cases gs with
    | nil => exact ⟨rfl, hV⟩
    | cons g r => exact hV.elim
  obtain ⟨rfl, rfl⟩ := hgq
  rw [List.append_nil] at hpq
  subst hpq
  have hargs : ∀ sp : Nat → Bool, (∀ x ∈ before, sp x.block = true) → DataW.TrodAll enc P W' 0 sp true f.params.toList args.toList ds before := fun sp hsp => trodAll_stays hl k.other ht hA hlt hsp
  have hres : ∀ (b : Nat) (sp : Nat → Bool) (hd : Bool), DataW.TrodAll enc P W' b sp hd f.resultTypes.toList ((Value.bool true).resultList f.resultTypes.size) [.lit (.bool true)] [] := fun b sp hd => by
    rw [hr]
    exact trodAll_cons_mk (RowKit.shut_bool hbool true) trodAll_mk0
  have hold : ∀ x ∈ before, (fun b => decide (b < W.heap.size)) x.block = true := fun x hx => by simpa using hlt x hx
  refine ⟨ds, [], before, [], before, [], hW', ?_, ?_, ?_, k.kept _, fun _ => ?_⟩
  · rw [hfn]; exact hres _ _ _
  · rw [hfn]; exact hargs _ hold
  · rw [hvars, hfn]; rfl
  · refine ⟨RowKit.ok_one hr rfl (RowKit.okWide_bool_mk hbool true), [.lit (.bool true)] ++ ds, [], ([] ++ before) ++ [], ⟨[] ++ before, [], trodAll_append (hargs _ (fun _ _ => rfl)) (hres _ _ _), by rw [hvars]; rfl, rfl, ?_, ?_⟩, ?_⟩
    · intro b off hp
      simp only [List.nil_append, List.append_nil] at hp
      have hb : b < W.heap.size := hlt _ hp
      have := hz b off hp
      simp only [World.frozen?, k.other b hb] at this ⊢
      exact this
    · intro ha
      simpa using hn ha
    · intro x hx _
      simpa using hx
end Go.Proofs.YtdbfpjgnlfejmaaDoor.Ev
end
section
namespace Go.Proofs.YtdbfpjgnlfejmaaDoor.Ev
open Go Go.ChangeShapes
def litV : Lit → Value
  | .string s => .string ⟨s.toArray⟩
  | .int k n => .int k n
  | _ => .tuple #[]
def litA : Lit → AV
  | .string s => .str s
  | .int k n => .int k n
  | _ => .tup []
theorem litA_rel (R : Bij) (l : Lit) : VRel R (litA l) (litV l) := by
  cases l <;> first | rfl | exact ⟨[], rfl, rfl⟩
section
variable {H : Type} {enc : TypeId × Value → H} {P : Program} {w : World} {base : Nat} {sp : Nat → Bool} {held : Bool}
theorem array_cells {t e : TypeId} {n fuel : Nat} {cs : List Value} {lits : List Lit} {p : List MemPlace} (ht : P.underlying t = some (.array n e)) (he : P.underlying e = some .string ∨ ∃ k, P.underlying e = some (.int k))
    (hce : P.cellsOf e = 1) (hct : P.cellsOf t = n) (hd : DataW.trod enc P w base sp held fuel t cs = some (.agg (lits.map .lit), p)) : cs = lits.map litV := by
  obtain ⟨xs, m, rfl, hx, hlen, hxl, hel⟩ := DataW.trod_array ht hd
  simp only [Prod.mk.injEq, DataW.agg.injEq] at hx
  obtain ⟨hx, _⟩ := hx
  have hll : lits.length = n := by
    have := congrArg List.length hx
    simpa [hxl] using this
  apply List.ext_getElem?
  intro i
  by_cases hi : i < n
  · have h := hel i hi
    have hxi : i < xs.length := by omega
    have hci : i < cs.length := by omega
    have hli : i < lits.length := by omega
    have hone : (cs.drop (i * P.cellsOf e)).take (P.cellsOf e) = [cs[i]] := by
      rw [hce, Nat.mul_one, List.drop_eq_getElem_cons hci]
      rfl
    rw [hone, List.getElem?_eq_getElem hxi] at h
    have hl : (xs[i]).1 = .lit lits[i] := by
      have := congrArg (fun l => l[i]?) hx
      simp only [List.getElem?_map, List.getElem?_eq_getElem hli, List.getElem?_eq_getElem hxi, Option.map_some, Option.some.injEq] at this
      exact this.symm
    rw [List.getElem?_eq_getElem hci, List.getElem?_map, List.getElem?_eq_getElem hli, Option.map_some]
    congr 1
    rcases he with he | ⟨k, he⟩
    · obtain ⟨s, h1, h2, _⟩ := DataW.trod_string he h
      rw [h2] at hl
      simp only [DataW.lit.injEq] at hl
      simp only [List.cons.injEq, and_true] at h1
      rw [h1, ← hl]
      rfl
    · obtain ⟨s, h1, h2, _⟩ := DataW.trod_int he h
      rw [h2] at hl
      simp only [DataW.lit.injEq] at hl
      simp only [List.cons.injEq, and_true] at h1
      rw [h1, ← hl]
      rfl
  · rw [List.getElem?_eq_none (by omega), List.getElem?_eq_none (by simp; omega)]
theorem var_heap {n : String} {g : Nat} {cs : Array Value} (hg : P.globalNamed n = some g) (h : w.var? P n = some cs) : ∃ t fr, w.heap[g]? = some (.cells cs t fr) := by
  simp only [World.var?, hg, Option.bind_some] at h
  split at h
  · rename_i c t fr hb
    cases h
    exact ⟨_, _, hb⟩
  · cases h
noncomputable def globOf (g : Nat) (lits : List Lit) : T (T AV) := T.set (some (storeList .leaf 0 (lits.map litA))) .leaf g
theorem globs_one {name : String} {g : Nat} {cs : Array Value} {lits : List Lit} (hg : P.globalNamed name = some g) (hv : w.var? P name = some cs) (hcs : cs.toList = lits.map litV) : Globs (globOf g lits) w := by
  intro g' c e
  unfold globOf at e
  rw [T.get_set] at e
  split at e
  · rename_i hgg
    subst hgg
    cases e
    obtain ⟨t, fr, hh⟩ := var_heap hg hv
    refine ⟨heap_lt hh, cs, t, fr, hh, fun k v hk => ?_⟩
    rw [storeList_get] at hk
    split at hk
    · rename_i hlt
      rw [Nat.sub_zero, List.getElem?_map] at hk
      cases hl : lits[k]? with
      | none => rw [hl] at hk; cases hk
      | some l =>
        rw [hl] at hk
        cases hk
        refine ⟨litV l, ?_, litA_rel _ l⟩
        rw [← Array.getElem?_toList, hcs, List.getElem?_map, hl]
        rfl
    · cases hk
  · cases e
end
end Go.Proofs.YtdbfpjgnlfejmaaDoor.Ev
end
section
set_option maxRecDepth 100000
namespace Go.Proofs.YtdbfpjgnlfejmaaDoor.mq
open Ev
def lits : List Lit := [.string [], .string [115, 121, 110, 116, 97, 120], .string [99, 121, 99, 108, 101], .string [105, 109, 112, 111, 114, 116], .string [116, 119, 105, 99, 101], .string [116, 121, 112, 101], .string [110, 97, 109, 101], .string [102, 105, 101, 108, 100], .string [97, 114, 105, 116, 121], .string [99, 97, 108, 108], .string [119, 114, 111, 110, 103], .string [114, 111, 108, 108], .string [115, 105, 122, 101], .string [101, 113, 117, 97, 108]]
noncomputable def GW : T (T AV) := globOf 0 lits
theorem gNum : Tryd.prog.globalNamed "lodger/diag.words" = some 0 := by kernel_rfl
theorem gType : (Tryd.prog.globals[0]?).map (·.type) = some 77 := by kernel_rfl
theorem globs {W : World} (h : laidMetH Tryd.prog [("lodger/diag.words", Rows.laid_lodger_diag_words)] W) : Globs GW W := by
  rw [MakeChecks.laidMetH_plain _ _ _ (by kernel_rfl)] at h
  obtain ⟨ps, ⟨g0, t0, cs0, f0, p0, q0, hg0, ht0, hv0, hd0, _⟩, _, _⟩ := h
  obtain rfl := Option.some.inj (gNum.symm.trans hg0)
  obtain rfl := Option.some.inj (gType.symm.trans ht0)
  exact globs_one hg0 hv0 (array_cells (lits := lits) (n := 14) (e := 9) (by kernel_rfl) (.inl (by kernel_rfl)) (by kernel_rfl) (by kernel_rfl) hd0)
theorem door_met (os : Os) (args : Array Value) : laidMetH Tryd.prog [("lodger/diag.words", Rows.laid_lodger_diag_words)] ((World.doorLaid Tryd.prog 400 os).forCall (fun _ _ => 0) ⟨#[], args, []⟩).memory :=
  laidMetH_of_parts3 (fuel := 8) (laidMet_of_run' 8 (by kernel_rfl) (by kernel_rfl)) (by kernel_rfl) (by kernel_rfl)
end Go.Proofs.YtdbfpjgnlfejmaaDoor.mq
end
section
set_option maxRecDepth 100000
namespace Go.Proofs.YtdbfpjgnlfejmaaDoor.mq
open Go Ev
noncomputable abbrev P : Program := Tryd.prog
theorem nby (n : Int) (R : AV → Prop) (_K : AM → Prop) : Obl P 74 (fun v _ => R v) 0 _K [.run 44, .know 10 true, .run 152, .done] ((startM P 74 [.int .u64 n] GW)) = ((decide (n ≤ Int.ofNat 240) = true) ∧ (R (.str [UInt8.ofNat (IntKind.u8.wrap (Int.ofNat 0 + IntKind.u8.wrap ((IntKind.u64.wrap (n - Int.ofNat 0)).fdiv (2 ^ min (Int.ofNat 0).toNat IntKind.u64.bits)))).toNat].reverse))) := by kernel_rfl
theorem nbny (n : Int) (R : AV → Prop) (_K : AM → Prop) : Obl P 74 (fun v _ => R v) 0 _K [.run 44, .know 10 false, .run 27, .know 10 true, .run 223, .done] ((startM P 74 [.int .u64 n] GW)) = ((decide (n ≤ Int.ofNat 240) = false) ∧ (decide (n ≤ Int.ofNat 2287) = true) ∧ (R (.str [UInt8.ofNat (IntKind.u8.wrap ((IntKind.u64.wrap (n - Int.ofNat 240)).fdiv (2 ^ min (Int.ofNat 0).toNat IntKind.u64.bits))).toNat, UInt8.ofNat (IntKind.u8.wrap (Int.ofNat 241 + IntKind.u8.wrap ((IntKind.u64.wrap (n - Int.ofNat 240)).fdiv (2 ^ min (Int.ofNat 8).toNat IntKind.u64.bits)))).toNat].reverse))) := by kernel_rfl
theorem nbnny (n : Int) (R : AV → Prop) (_K : AM → Prop) : Obl P 74 (fun v _ => R v) 0 _K [.run 44, .know 10 false, .run 27, .know 10 false, .run 28, .know 10 true, .run 293, .done] ((startM P 74 [.int .u64 n] GW)) = ((decide (n ≤ Int.ofNat 240) = false) ∧ (decide (n ≤ Int.ofNat 2287) = false) ∧ (decide (n ≤ Int.ofNat 67823) = true) ∧ (R (.str [UInt8.ofNat (IntKind.u8.wrap ((IntKind.u64.wrap (n - Int.ofNat 2288)).fdiv (2 ^ min (Int.ofNat 0).toNat IntKind.u64.bits))).toNat, UInt8.ofNat (IntKind.u8.wrap ((IntKind.u64.wrap (n - Int.ofNat 2288)).fdiv (2 ^ min (Int.ofNat 8).toNat IntKind.u64.bits))).toNat, UInt8.ofNat (IntKind.u8.wrap (Int.ofNat 249 + IntKind.u8.wrap ((IntKind.u64.wrap (n - Int.ofNat 2288)).fdiv (2 ^ min (Int.ofNat 16).toNat IntKind.u64.bits)))).toNat].reverse))) := by kernel_rfl
theorem nbnnny (n : Int) (R : AV → Prop) (_K : AM → Prop) : Obl P 74 (fun v _ => R v) 0 _K [.run 44, .know 10 false, .run 27, .know 10 false, .run 28, .know 10 false, .run 67, .know 10 true, .run 368, .done] ((startM P 74 [.int .u64 n] GW)) = ((decide (n ≤ Int.ofNat 240) = false) ∧ (decide (n ≤ Int.ofNat 2287) = false) ∧ (decide (n ≤ Int.ofNat 67823) = false) ∧ (decide (n ≤ Int.ofNat 16777215) = true) ∧ (R (.str [UInt8.ofNat (IntKind.u8.wrap ((IntKind.u64.wrap (n - Int.ofNat 0)).fdiv (2 ^ min (Int.ofNat 0).toNat IntKind.u64.bits))).toNat, UInt8.ofNat (IntKind.u8.wrap ((IntKind.u64.wrap (n - Int.ofNat 0)).fdiv (2 ^ min (Int.ofNat 8).toNat IntKind.u64.bits))).toNat, UInt8.ofNat (IntKind.u8.wrap ((IntKind.u64.wrap (n - Int.ofNat 0)).fdiv (2 ^ min (Int.ofNat 16).toNat IntKind.u64.bits))).toNat, UInt8.ofNat (IntKind.u8.wrap (Int.ofNat 250 + IntKind.u8.wrap ((IntKind.u64.wrap (n - Int.ofNat 0)).fdiv (2 ^ min (Int.ofNat 24).toNat IntKind.u64.bits)))).toNat].reverse))) := by kernel_rfl
theorem nbnnnny (n : Int) (R : AV → Prop) (_K : AM → Prop) : Obl P 74 (fun v _ => R v) 0 _K [.run 44, .know 10 false, .run 27, .know 10 false, .run 28, .know 10 false, .run 67, .know 10 false, .run 68, .know 10 true, .run 444, .done] ((startM P 74 [.int .u64 n] GW)) = ((decide (n ≤ Int.ofNat 240) = false) ∧ (decide (n ≤ Int.ofNat 2287) = false) ∧ (decide (n ≤ Int.ofNat 67823) = false) ∧ (decide (n ≤ Int.ofNat 16777215) = false) ∧ (decide (n ≤ Int.ofNat 4294967295) = true) ∧ (R (.str [UInt8.ofNat (IntKind.u8.wrap ((IntKind.u64.wrap (n - Int.ofNat 0)).fdiv (2 ^ min (Int.ofNat 0).toNat IntKind.u64.bits))).toNat, UInt8.ofNat (IntKind.u8.wrap ((IntKind.u64.wrap (n - Int.ofNat 0)).fdiv (2 ^ min (Int.ofNat 8).toNat IntKind.u64.bits))).toNat, UInt8.ofNat (IntKind.u8.wrap ((IntKind.u64.wrap (n - Int.ofNat 0)).fdiv (2 ^ min (Int.ofNat 16).toNat IntKind.u64.bits))).toNat, UInt8.ofNat (IntKind.u8.wrap ((IntKind.u64.wrap (n - Int.ofNat 0)).fdiv (2 ^ min (Int.ofNat 24).toNat IntKind.u64.bits))).toNat, UInt8.ofNat (IntKind.u8.wrap (Int.ofNat 251 + IntKind.u8.wrap ((IntKind.u64.wrap (n - Int.ofNat 0)).fdiv (2 ^ min (Int.ofNat 32).toNat IntKind.u64.bits)))).toNat].reverse))) := by kernel_rfl
theorem nbnnnnny (n : Int) (R : AV → Prop) (_K : AM → Prop) : Obl P 74 (fun v _ => R v) 0 _K [.run 44, .know 10 false, .run 27, .know 10 false, .run 28, .know 10 false, .run 67, .know 10 false, .run 68, .know 10 false, .run 68, .know 10 true, .run 520, .done] ((startM P 74 [.int .u64 n] GW)) = ((decide (n ≤ Int.ofNat 240) = false) ∧ (decide (n ≤ Int.ofNat 2287) = false) ∧ (decide (n ≤ Int.ofNat 67823) = false) ∧ (decide (n ≤ Int.ofNat 16777215) = false) ∧ (decide (n ≤ Int.ofNat 4294967295) = false) ∧ (decide (n ≤ Int.ofNat 1099511627775) = true) ∧ (R (.str [UInt8.ofNat (IntKind.u8.wrap ((IntKind.u64.wrap (n - Int.ofNat 0)).fdiv (2 ^ min (Int.ofNat 0).toNat IntKind.u64.bits))).toNat, UInt8.ofNat (IntKind.u8.wrap ((IntKind.u64.wrap (n - Int.ofNat 0)).fdiv (2 ^ min (Int.ofNat 8).toNat IntKind.u64.bits))).toNat, UInt8.ofNat (IntKind.u8.wrap ((IntKind.u64.wrap (n - Int.ofNat 0)).fdiv (2 ^ min (Int.ofNat 16).toNat IntKind.u64.bits))).toNat, UInt8.ofNat (IntKind.u8.wrap ((IntKind.u64.wrap (n - Int.ofNat 0)).fdiv (2 ^ min (Int.ofNat 24).toNat IntKind.u64.bits))).toNat, UInt8.ofNat (IntKind.u8.wrap ((IntKind.u64.wrap (n - Int.ofNat 0)).fdiv (2 ^ min (Int.ofNat 32).toNat IntKind.u64.bits))).toNat, UInt8.ofNat (IntKind.u8.wrap (Int.ofNat 252 + IntKind.u8.wrap ((IntKind.u64.wrap (n - Int.ofNat 0)).fdiv (2 ^ min (Int.ofNat 40).toNat IntKind.u64.bits)))).toNat].reverse))) := by kernel_rfl
theorem nbnnnnnny (n : Int) (R : AV → Prop) (_K : AM → Prop) : Obl P 74 (fun v _ => R v) 0 _K [.run 44, .know 10 false, .run 27, .know 10 false, .run 28, .know 10 false, .run 67, .know 10 false, .run 68, .know 10 false, .run 68, .know 10 false, .run 68, .know 10 true, .run 596, .done] ((startM P 74 [.int .u64 n] GW)) = ((decide (n ≤ Int.ofNat 240) = false) ∧ (decide (n ≤ Int.ofNat 2287) = false) ∧ (decide (n ≤ Int.ofNat 67823) = false) ∧ (decide (n ≤ Int.ofNat 16777215) = false) ∧ (decide (n ≤ Int.ofNat 4294967295) = false) ∧ (decide (n ≤ Int.ofNat 1099511627775) = false) ∧ (decide (n ≤ Int.ofNat 281474976710655) = true) ∧ (R (.str [UInt8.ofNat (IntKind.u8.wrap ((IntKind.u64.wrap (n - Int.ofNat 0)).fdiv (2 ^ min (Int.ofNat 0).toNat IntKind.u64.bits))).toNat, UInt8.ofNat (IntKind.u8.wrap ((IntKind.u64.wrap (n - Int.ofNat 0)).fdiv (2 ^ min (Int.ofNat 8).toNat IntKind.u64.bits))).toNat, UInt8.ofNat (IntKind.u8.wrap ((IntKind.u64.wrap (n - Int.ofNat 0)).fdiv (2 ^ min (Int.ofNat 16).toNat IntKind.u64.bits))).toNat, UInt8.ofNat (IntKind.u8.wrap ((IntKind.u64.wrap (n - Int.ofNat 0)).fdiv (2 ^ min (Int.ofNat 24).toNat IntKind.u64.bits))).toNat, UInt8.ofNat (IntKind.u8.wrap ((IntKind.u64.wrap (n - Int.ofNat 0)).fdiv (2 ^ min (Int.ofNat 32).toNat IntKind.u64.bits))).toNat, UInt8.ofNat (IntKind.u8.wrap ((IntKind.u64.wrap (n - Int.ofNat 0)).fdiv (2 ^ min (Int.ofNat 40).toNat IntKind.u64.bits))).toNat, UInt8.ofNat (IntKind.u8.wrap (Int.ofNat 253 + IntKind.u8.wrap ((IntKind.u64.wrap (n - Int.ofNat 0)).fdiv (2 ^ min (Int.ofNat 48).toNat IntKind.u64.bits)))).toNat].reverse))) := by kernel_rfl
theorem nbnnnnnnny (n : Int) (R : AV → Prop) (_K : AM → Prop) : Obl P 74 (fun v _ => R v) 0 _K [.run 44, .know 10 false, .run 27, .know 10 false, .run 28, .know 10 false, .run 67, .know 10 false, .run 68, .know 10 false, .run 68, .know 10 false, .run 68, .know 10 false, .run 68, .know 10 true, .run 672, .done] ((startM P 74 [.int .u64 n] GW)) = ((decide (n ≤ Int.ofNat 240) = false) ∧ (decide (n ≤ Int.ofNat 2287) = false) ∧ (decide (n ≤ Int.ofNat 67823) = false) ∧ (decide (n ≤ Int.ofNat 16777215) = false) ∧ (decide (n ≤ Int.ofNat 4294967295) = false) ∧ (decide (n ≤ Int.ofNat 1099511627775) = false) ∧ (decide (n ≤ Int.ofNat 281474976710655) = false) ∧ (decide (n ≤ Int.ofNat 72057594037927935) = true) ∧ (R (.str [UInt8.ofNat (IntKind.u8.wrap ((IntKind.u64.wrap (n - Int.ofNat 0)).fdiv (2 ^ min (Int.ofNat 0).toNat IntKind.u64.bits))).toNat, UInt8.ofNat (IntKind.u8.wrap ((IntKind.u64.wrap (n - Int.ofNat 0)).fdiv (2 ^ min (Int.ofNat 8).toNat IntKind.u64.bits))).toNat, UInt8.ofNat (IntKind.u8.wrap ((IntKind.u64.wrap (n - Int.ofNat 0)).fdiv (2 ^ min (Int.ofNat 16).toNat IntKind.u64.bits))).toNat, UInt8.ofNat (IntKind.u8.wrap ((IntKind.u64.wrap (n - Int.ofNat 0)).fdiv (2 ^ min (Int.ofNat 24).toNat IntKind.u64.bits))).toNat, UInt8.ofNat (IntKind.u8.wrap ((IntKind.u64.wrap (n - Int.ofNat 0)).fdiv (2 ^ min (Int.ofNat 32).toNat IntKind.u64.bits))).toNat, UInt8.ofNat (IntKind.u8.wrap ((IntKind.u64.wrap (n - Int.ofNat 0)).fdiv (2 ^ min (Int.ofNat 40).toNat IntKind.u64.bits))).toNat, UInt8.ofNat (IntKind.u8.wrap ((IntKind.u64.wrap (n - Int.ofNat 0)).fdiv (2 ^ min (Int.ofNat 48).toNat IntKind.u64.bits))).toNat, UInt8.ofNat (IntKind.u8.wrap (Int.ofNat 254 + IntKind.u8.wrap ((IntKind.u64.wrap (n - Int.ofNat 0)).fdiv (2 ^ min (Int.ofNat 56).toNat IntKind.u64.bits)))).toNat].reverse))) := by kernel_rfl
theorem nbnnnnnnnny (n : Int) (R : AV → Prop) (_K : AM → Prop) : Obl P 74 (fun v _ => R v) 0 _K [.run 44, .know 10 false, .run 27, .know 10 false, .run 28, .know 10 false, .run 67, .know 10 false, .run 68, .know 10 false, .run 68, .know 10 false, .run 68, .know 10 false, .run 68, .know 10 false, .run 68, .know 10 true, .run 748, .done] ((startM P 74 [.int .u64 n] GW)) = ((decide (n ≤ Int.ofNat 240) = false) ∧ (decide (n ≤ Int.ofNat 2287) = false) ∧ (decide (n ≤ Int.ofNat 67823) = false) ∧ (decide (n ≤ Int.ofNat 16777215) = false) ∧ (decide (n ≤ Int.ofNat 4294967295) = false) ∧ (decide (n ≤ Int.ofNat 1099511627775) = false) ∧ (decide (n ≤ Int.ofNat 281474976710655) = false) ∧ (decide (n ≤ Int.ofNat 72057594037927935) = false) ∧ (decide (n ≤ Int.ofNat 18446744073709551615) = true) ∧ (R (.str [UInt8.ofNat (IntKind.u8.wrap ((IntKind.u64.wrap (n - Int.ofNat 0)).fdiv (2 ^ min (Int.ofNat 0).toNat IntKind.u64.bits))).toNat, UInt8.ofNat (IntKind.u8.wrap ((IntKind.u64.wrap (n - Int.ofNat 0)).fdiv (2 ^ min (Int.ofNat 8).toNat IntKind.u64.bits))).toNat, UInt8.ofNat (IntKind.u8.wrap ((IntKind.u64.wrap (n - Int.ofNat 0)).fdiv (2 ^ min (Int.ofNat 16).toNat IntKind.u64.bits))).toNat, UInt8.ofNat (IntKind.u8.wrap ((IntKind.u64.wrap (n - Int.ofNat 0)).fdiv (2 ^ min (Int.ofNat 24).toNat IntKind.u64.bits))).toNat, UInt8.ofNat (IntKind.u8.wrap ((IntKind.u64.wrap (n - Int.ofNat 0)).fdiv (2 ^ min (Int.ofNat 32).toNat IntKind.u64.bits))).toNat, UInt8.ofNat (IntKind.u8.wrap ((IntKind.u64.wrap (n - Int.ofNat 0)).fdiv (2 ^ min (Int.ofNat 40).toNat IntKind.u64.bits))).toNat, UInt8.ofNat (IntKind.u8.wrap ((IntKind.u64.wrap (n - Int.ofNat 0)).fdiv (2 ^ min (Int.ofNat 48).toNat IntKind.u64.bits))).toNat, UInt8.ofNat (IntKind.u8.wrap ((IntKind.u64.wrap (n - Int.ofNat 0)).fdiv (2 ^ min (Int.ofNat 56).toNat IntKind.u64.bits))).toNat, UInt8.ofNat (IntKind.u8.wrap (Int.ofNat 255 + IntKind.u8.wrap ((IntKind.u64.wrap (n - Int.ofNat 0)).fdiv (2 ^ min (Int.ofNat 64).toNat IntKind.u64.bits)))).toNat].reverse))) := by kernel_rfl
theorem mix : P.follows .mixedOrders = true := Checked.mixed Tryd.checked
def B (x : Int) : UInt8 := UInt8.ofNat (x % 256).toNat
def row (n : Int) : List UInt8 :=
  if n ≤ 240 then [B n]
  else if n ≤ 2287 then [B (241 + (n - 240) / 256), B (n - 240)]
  else if n ≤ 67823 then [249, B ((n - 2288) / 256), B (n - 2288)]
  else if n ≤ 16777215 then [250, B (n / 65536), B (n / 256), B n]
  else if n ≤ 4294967295 then [251, B (n / 16777216), B (n / 65536), B (n / 256), B n]
  else if n ≤ 1099511627775 then [252, B (n / 4294967296), B (n / 16777216), B (n / 65536), B (n / 256), B n]
  else if n ≤ 281474976710655 then [253, B (n / 1099511627776), B (n / 4294967296), B (n / 16777216), B (n / 65536), B (n / 256), B n]
  else if n ≤ 72057594037927935 then [254, B (n / 281474976710656), B (n / 1099511627776), B (n / 4294967296), B (n / 16777216), B (n / 65536), B (n / 256), B n]
  else [255, B (n / 72057594037927936), B (n / 281474976710656), B (n / 1099511627776), B (n / 4294967296), B (n / 16777216), B (n / 65536), B (n / 256), B n]
theorem row_length (n : Int) : (row n).length ≤ 9 := by
  unfold row
  repeat' split
  all_goals simp
theorem byte_of (x : Int) : UInt8.ofNat (IntKind.u8.wrap x).toNat = B x := by rw [IntKind.wrap_u8]; rfl
theorem B_congr {x y : Int} (h : x % 256 = y % 256) : B x = B y := by unfold B; rw [h]
theorem B_lit {x : Int} {k : Nat} (h : x % 256 = k) : B x = UInt8.ofNat k := by unfold B; rw [h]; rfl
theorem sh0 (x : Int) : x.fdiv (2 ^ min (Int.ofNat 0).toNat IntKind.u64.bits) = x := by
  have : (2 ^ min (Int.ofNat 0).toNat IntKind.u64.bits : Int) = 1 := by decide
  rw [this, Int.fdiv_eq_ediv_of_nonneg _ (by decide), Int.ediv_one]
theorem sh8 (x : Int) : x.fdiv (2 ^ min (Int.ofNat 8).toNat IntKind.u64.bits) = x / 256 := by
  have : (2 ^ min (Int.ofNat 8).toNat IntKind.u64.bits : Int) = 256 := by decide
  rw [this, Int.fdiv_eq_ediv_of_nonneg _ (by decide)]
theorem sh16 (x : Int) : x.fdiv (2 ^ min (Int.ofNat 16).toNat IntKind.u64.bits) = x / 65536 := by
  have : (2 ^ min (Int.ofNat 16).toNat IntKind.u64.bits : Int) = 65536 := by decide
  rw [this, Int.fdiv_eq_ediv_of_nonneg _ (by decide)]
theorem sh24 (x : Int) : x.fdiv (2 ^ min (Int.ofNat 24).toNat IntKind.u64.bits) = x / 16777216 := by
  have : (2 ^ min (Int.ofNat 24).toNat IntKind.u64.bits : Int) = 16777216 := by decide
  rw [this, Int.fdiv_eq_ediv_of_nonneg _ (by decide)]
theorem sh32 (x : Int) : x.fdiv (2 ^ min (Int.ofNat 32).toNat IntKind.u64.bits) = x / 4294967296 := by
  have : (2 ^ min (Int.ofNat 32).toNat IntKind.u64.bits : Int) = 4294967296 := by decide
  rw [this, Int.fdiv_eq_ediv_of_nonneg _ (by decide)]
theorem sh40 (x : Int) : x.fdiv (2 ^ min (Int.ofNat 40).toNat IntKind.u64.bits) = x / 1099511627776 := by
  have : (2 ^ min (Int.ofNat 40).toNat IntKind.u64.bits : Int) = 1099511627776 := by decide
  rw [this, Int.fdiv_eq_ediv_of_nonneg _ (by decide)]
theorem sh48 (x : Int) : x.fdiv (2 ^ min (Int.ofNat 48).toNat IntKind.u64.bits) = x / 281474976710656 := by
  have : (2 ^ min (Int.ofNat 48).toNat IntKind.u64.bits : Int) = 281474976710656 := by decide
  rw [this, Int.fdiv_eq_ediv_of_nonneg _ (by decide)]
theorem sh56 (x : Int) : x.fdiv (2 ^ min (Int.ofNat 56).toNat IntKind.u64.bits) = x / 72057594037927936 := by
  have : (2 ^ min (Int.ofNat 56).toNat IntKind.u64.bits : Int) = 72057594037927936 := by decide
  rw [this, Int.fdiv_eq_ediv_of_nonneg _ (by decide)]
theorem sh64 (x : Int) : x.fdiv (2 ^ min (Int.ofNat 64).toNat IntKind.u64.bits) = x / 18446744073709551616 := by
  have : (2 ^ min (Int.ofNat 64).toNat IntKind.u64.bits : Int) = 18446744073709551616 := by decide
  rw [this, Int.fdiv_eq_ediv_of_nonneg _ (by decide)]
theorem nums (n : Int) (h0 : 0 ≤ n) (h1 : n ≤ 18446744073709551615) : Goal P 0 74 (fun x _ => x = .str (row n)) (startM P 74 [.int .u64 n] GW) := by
  have z0 : IntKind.u64.wrap (n - Int.ofNat 0) = n := by
    rw [show n - Int.ofNat 0 = n by simp]; exact IntWalk.u64_in _ ⟨h0, h1⟩
  have goal : ∀ {e : Prop}, e = e → e → e := fun _ h => h
  by_cases c1 : n ≤ 240
  · refine Obl.goal (K := fun _ => False) mix (fun _ h => h.elim) (cast (nby n (fun x => x = .str (row n)) _).symm ⟨decide_eq_true c1, ?_⟩)
    simp only [z0, sh0, byte_of, row, if_pos c1, List.reverse_cons, List.reverse_nil, List.nil_append]
    congr 2
    refine B_congr ?_
    rw [IntKind.wrap_u8]
    first | (rw [z0]; show (0 + _) % 256 = _; omega) | (show (0 + _) % 256 = _; omega)
  by_cases c2 : n ≤ 2287
  · have z1 : IntKind.u64.wrap (n - Int.ofNat 240) = n - 240 := IntWalk.u64_in _ (by show 0 ≤ n - 240 ∧ n - 240 ≤ _; omega)
    refine Obl.goal (K := fun _ => False) mix (fun _ h => h.elim) (cast (nbny n (fun x => x = .str (row n)) _).symm ⟨decide_eq_false c1, decide_eq_true c2, ?_⟩)
    simp only [z1, sh0, sh8, byte_of, row, if_neg c1, if_pos c2, List.reverse_cons, List.reverse_nil, List.nil_append, List.cons_append]
    congr 2
    exact B_congr (by rw [IntKind.wrap_u8]; show (241 + _) % 256 = _; omega)
  by_cases c3 : n ≤ 67823
  · have z1 : IntKind.u64.wrap (n - Int.ofNat 2288) = n - 2288 := IntWalk.u64_in _ (by show 0 ≤ n - 2288 ∧ n - 2288 ≤ _; omega)
    refine Obl.goal (K := fun _ => False) mix (fun _ h => h.elim) (cast (nbnny n (fun x => x = .str (row n)) _).symm ⟨decide_eq_false c1, decide_eq_false c2, decide_eq_true c3, ?_⟩)
    simp only [z1, sh0, sh8, sh16, byte_of, row, if_neg c1, if_neg c2, if_pos c3, List.reverse_cons, List.reverse_nil, List.nil_append, List.cons_append]
    congr 2
    exact B_lit (k := 249) (by rw [IntKind.wrap_u8]; show (249 + _) % 256 = _; omega)
  by_cases c4 : n ≤ 16777215
  · refine Obl.goal (K := fun _ => False) mix (fun _ h => h.elim) (cast (nbnnny n (fun x => x = .str (row n)) _).symm ⟨decide_eq_false c1, decide_eq_false c2, decide_eq_false c3, decide_eq_true c4, ?_⟩)
    simp only [z0, sh0, sh8, sh16, sh24, byte_of, row, if_neg c1, if_neg c2, if_neg c3, if_pos c4, List.reverse_cons, List.reverse_nil, List.nil_append, List.cons_append]
    congr 2
    exact B_lit (k := 250) (by rw [IntKind.wrap_u8]; show (250 + _) % 256 = _; omega)
  by_cases c5 : n ≤ 4294967295
  · refine Obl.goal (K := fun _ => False) mix (fun _ h => h.elim) (cast (nbnnnny n (fun x => x = .str (row n)) _).symm ⟨decide_eq_false c1, decide_eq_false c2, decide_eq_false c3, decide_eq_false c4, decide_eq_true c5, ?_⟩)
    simp only [z0, sh0, sh8, sh16, sh24, sh32, byte_of, row, if_neg c1, if_neg c2, if_neg c3, if_neg c4, if_pos c5, List.reverse_cons, List.reverse_nil, List.nil_append, List.cons_append]
    congr 2
    exact B_lit (k := 251) (by rw [IntKind.wrap_u8]; show (251 + _) % 256 = _; omega)
  by_cases c6 : n ≤ 1099511627775
  · refine Obl.goal (K := fun _ => False) mix (fun _ h => h.elim) (cast (nbnnnnny n (fun x => x = .str (row n)) _).symm ⟨decide_eq_false c1, decide_eq_false c2, decide_eq_false c3, decide_eq_false c4, decide_eq_false c5, decide_eq_true c6, ?_⟩)
    simp only [z0, sh0, sh8, sh16, sh24, sh32, sh40, byte_of, row, if_neg c1, if_neg c2, if_neg c3, if_neg c4, if_neg c5, if_pos c6, List.reverse_cons, List.reverse_nil, List.nil_append, List.cons_append]
    congr 2
    exact B_lit (k := 252) (by rw [IntKind.wrap_u8]; show (252 + _) % 256 = _; omega)
  by_cases c7 : n ≤ 281474976710655
  · refine Obl.goal (K := fun _ => False) mix (fun _ h => h.elim) (cast (nbnnnnnny n (fun x => x = .str (row n)) _).symm ⟨decide_eq_false c1, decide_eq_false c2, decide_eq_false c3, decide_eq_false c4, decide_eq_false c5, decide_eq_false c6, decide_eq_true c7, ?_⟩)
    simp only [z0, sh0, sh8, sh16, sh24, sh32, sh40, sh48, byte_of, row, if_neg c1, if_neg c2, if_neg c3, if_neg c4, if_neg c5, if_neg c6, if_pos c7, List.reverse_cons, List.reverse_nil, List.nil_append, List.cons_append]
    congr 2
    exact B_lit (k := 253) (by rw [IntKind.wrap_u8]; show (253 + _) % 256 = _; omega)
  by_cases c8 : n ≤ 72057594037927935
  · refine Obl.goal (K := fun _ => False) mix (fun _ h => h.elim) (cast (nbnnnnnnny n (fun x => x = .str (row n)) _).symm ⟨decide_eq_false c1, decide_eq_false c2, decide_eq_false c3, decide_eq_false c4, decide_eq_false c5, decide_eq_false c6, decide_eq_false c7, decide_eq_true c8, ?_⟩)
    simp only [z0, sh0, sh8, sh16, sh24, sh32, sh40, sh48, sh56, byte_of, row, if_neg c1, if_neg c2, if_neg c3, if_neg c4, if_neg c5, if_neg c6, if_neg c7, if_pos c8, List.reverse_cons, List.reverse_nil, List.nil_append, List.cons_append]
    congr 2
    exact B_lit (k := 254) (by rw [IntKind.wrap_u8]; show (254 + _) % 256 = _; omega)
  · refine Obl.goal (K := fun _ => False) mix (fun _ h => h.elim) (cast (nbnnnnnnnny n (fun x => x = .str (row n)) _).symm ⟨decide_eq_false c1, decide_eq_false c2, decide_eq_false c3, decide_eq_false c4, decide_eq_false c5, decide_eq_false c6, decide_eq_false c7, decide_eq_false c8, decide_eq_true h1, ?_⟩)
    simp only [z0, sh0, sh8, sh16, sh24, sh32, sh40, sh48, sh56, sh64, byte_of, row, if_neg c1, if_neg c2, if_neg c3, if_neg c4, if_neg c5, if_neg c6, if_neg c7, if_neg c8, List.reverse_cons, List.reverse_nil, List.nil_append, List.cons_append]
    congr 2
    exact B_lit (k := 255) (by rw [IntKind.wrap_u8]; show (255 + _) % 256 = _; omega)
end Go.Proofs.YtdbfpjgnlfejmaaDoor.mq
end
section
set_option maxRecDepth 100000
namespace Go.Proofs.YtdbfpjgnlfejmaaDoor.mq
open Go Ev
theorem pn (s : List UInt8) (n : Int) (R : AV → Prop) (_K : AM → Prop) : Obl P 48 (fun v _ => R v) 0 _K [.run 9, (.callv [0] (.str (row n))), .op, .run 3, .done] ((startM P 48 [.str s, .int .u64 n] GW)) = ((Goal P 0 74 (fun x _ => x = AV.str (row n)) (startM P 74 [.int .u64 n] GW)) ∧ (s.length + (row n).length < 1099511627776) ∧ (R (.str (s ++ row n)))) := by kernel_rfl
theorem pt (s t : List UInt8) (R : AV → Prop) (_K : AM → Prop) : Obl P 49 (fun v _ => R v) 0 _K [.run 11, (.callv [0] (.str (row (IntKind.u64.wrap t.length)))), .op, .run 1, .op, .run 3, .done] ((startM P 49 [.str s, .str t] GW)) = ((Goal P 0 74 (fun x _ => x = AV.str (row (IntKind.u64.wrap ↑t.length))) (startM P 74 [.int .u64 (IntKind.u64.wrap ↑t.length)] GW)) ∧ (s.length + (row (IntKind.u64.wrap ↑t.length)).length < 1099511627776) ∧ ((s ++ row (IntKind.u64.wrap ↑t.length)).length + t.length < 1099511627776) ∧ (R (.str (s ++ row (IntKind.u64.wrap ↑t.length) ++ t)))) := by kernel_rfl
theorem puts (s : List UInt8) (n : Int) (h0 : 0 ≤ n) (h1 : n ≤ 18446744073709551615) (hs : s.length + 9 < 1099511627776) : Goal P 0 48 (fun x _ => x = .str (s ++ row n)) (startM P 48 [.str s, .int .u64 n] GW) := by
  have := row_length n
  exact Obl.goal (K := fun _ => False) mix (fun _ h => h.elim) (cast (pn s n (fun x => x = .str (s ++ row n)) _).symm ⟨nums n h0 h1, by omega, rfl⟩)
theorem textLen (t : List UInt8) (ht : t.length < 1099511627776) : IntKind.u64.wrap t.length = t.length := IntWalk.u64_in _ (by omega)
theorem putt (s t : List UInt8) (hs : s.length + t.length + 9 < 1099511627776) : Goal P 0 49 (fun x _ => x = .str (s ++ row (IntKind.u64.wrap t.length) ++ t)) (startM P 49 [.str s, .str t] GW) := by
  have := row_length (IntKind.u64.wrap t.length)
  have hw := textLen t (by omega)
  refine Obl.goal (K := fun _ => False) mix (fun _ h => h.elim) (cast (pt s t (fun x => x = .str (s ++ row (IntKind.u64.wrap t.length) ++ t)) _).symm ⟨nums _ (by rw [hw]; omega) (by rw [hw]; omega), by omega, ?_, rfl⟩)
  rw [List.length_append]; omega
end Go.Proofs.YtdbfpjgnlfejmaaDoor.mq
end
section
set_option maxRecDepth 100000
set_option linter.unusedVariables false
namespace Go.Proofs.YtdbfpjgnlfejmaaDoor.dg
open Go Ev
abbrev Dg := List UInt8 × Int × Int
def ci (a b : Int) : Int := if a < b then -1 else if a > b then 1 else 0
def cf (x y : Dg) : Int := if Lib.compareBytes x.1 y.1 ≠ 0 then Lib.compareBytes x.1 y.1 else if ci x.2.1 y.2.1 ≠ 0 then ci x.2.1 y.2.1 else ci x.2.2 y.2.2
def Lt (x y : Dg) : Prop := x.1 < y.1 ∨ x.1 = y.1 ∧ (x.2.1 < y.2.1 ∨ x.2.1 = y.2.1 ∧ x.2.2 < y.2.2)
theorem bl_irrefl (a : List UInt8) : ¬ a < a := List.lt_irrefl a
theorem bl_trans {a b c : List UInt8} (h : a < b) (k : b < c) : a < c := List.lt_trans h k
theorem cb_cases : ∀ a b : List UInt8, (Lib.compareBytes a b = -1 ∧ a < b) ∨ (Lib.compareBytes a b = 0 ∧ a = b) ∨ (Lib.compareBytes a b = 1 ∧ b < a)
  | [], [] => .inr (.inl ⟨rfl, rfl⟩)
  | [], _ :: _ => .inl ⟨rfl, List.nil_lt_cons _ _⟩
  | _ :: _, [] => .inr (.inr ⟨rfl, List.nil_lt_cons _ _⟩)
  | x :: a, y :: b => by
    have ih := cb_cases a b
    unfold Lib.compareBytes
    by_cases h : x < y
    · rw [if_pos h]
      exact .inl ⟨rfl, List.cons_lt_cons_iff.2 (.inl h)⟩
    · rw [if_neg h]
      by_cases k : y < x
      · rw [if_pos k]
        exact .inr (.inr ⟨rfl, List.cons_lt_cons_iff.2 (.inl k)⟩)
      · rw [if_neg k]
        have e : x = y := UInt8.toNat_inj.1 (by
          rw [UInt8.lt_iff_toNat_lt] at h k
          omega)
        subst e
        rcases ih with ⟨h1, h2⟩ | ⟨h1, h2⟩ | ⟨h1, h2⟩
        · exact .inl ⟨h1, List.cons_lt_cons_iff.2 (.inr ⟨rfl, h2⟩)⟩
        · exact .inr (.inl ⟨h1, by rw [h2]⟩)
        · exact .inr (.inr ⟨h1, List.cons_lt_cons_iff.2 (.inr ⟨rfl, h2⟩)⟩)
theorem ci_cases (a b : Int) : (ci a b = -1 ∧ a < b) ∨ (ci a b = 0 ∧ a = b) ∨ (ci a b = 1 ∧ b < a) := by
  unfold ci
  by_cases h : a < b
  · rw [if_pos h]; exact .inl ⟨rfl, h⟩
  · rw [if_neg h]
    by_cases k : a > b
    · rw [if_pos k]; exact .inr (.inr ⟨rfl, k⟩)
    · rw [if_neg k]; exact .inr (.inl ⟨rfl, by omega⟩)
theorem cf_cases (x y : Dg) : (cf x y = -1 ∧ Lt x y) ∨ (cf x y = 0 ∧ x = y) ∨ (cf x y = 1 ∧ Lt y x) := by
  obtain ⟨p, a, c⟩ := x
  obtain ⟨q, b, d⟩ := y
  unfold cf Lt
  rcases cb_cases p q with ⟨h1, h2⟩ | ⟨h1, rfl⟩ | ⟨h1, h2⟩
  · simp only [h1]
    exact .inl ⟨rfl, .inl h2⟩
  · simp only [h1]
    rcases ci_cases a b with ⟨k1, k2⟩ | ⟨k1, rfl⟩ | ⟨k1, k2⟩
    · simp only [k1]
      exact .inl ⟨rfl, .inr ⟨trivial, .inl k2⟩⟩
    · simp only [k1]
      rcases ci_cases c d with ⟨l1, l2⟩ | ⟨l1, rfl⟩ | ⟨l1, l2⟩
      · simp only [l1]
        exact .inl ⟨rfl, .inr ⟨trivial, .inr ⟨trivial, l2⟩⟩⟩
      · simp [l1]
      · simp only [l1]
        exact .inr (.inr ⟨rfl, .inr ⟨trivial, .inr ⟨trivial, l2⟩⟩⟩)
    · simp only [k1]
      exact .inr (.inr ⟨rfl, .inr ⟨trivial, .inl k2⟩⟩)
  · simp only [h1]
    exact .inr (.inr ⟨rfl, .inl h2⟩)
theorem Lt.irrefl (x : Dg) : ¬ Lt x x := by
  unfold Lt
  rintro (h | ⟨_, h | ⟨_, h⟩⟩)
  · exact bl_irrefl _ h
  · omega
  · omega
theorem Lt.trans {x y z : Dg} (h : Lt x y) (k : Lt y z) : Lt x z := by
  unfold Lt at *
  rcases h with h | ⟨h0, h⟩ <;> rcases k with k | ⟨k0, k⟩
  · exact .inl (bl_trans h k)
  · exact .inl (k0 ▸ h)
  · exact .inl (h0 ▸ k)
  · refine .inr ⟨h0.trans k0, ?_⟩
    omega
theorem Lt.asymm {x y : Dg} (h : Lt x y) : ¬ Lt y x := fun k => Lt.irrefl x (h.trans k)
theorem lt_iff (x y : Dg) : ltOf cf x y = true ↔ Lt x y := by
  unfold ltOf
  rw [decide_eq_true_iff]
  rcases cf_cases x y with ⟨h1, h2⟩ | ⟨h1, rfl⟩ | ⟨h1, h2⟩
  · exact ⟨fun _ => h2, fun _ => by omega⟩
  · exact ⟨fun h => by omega, fun h => absurd h (Lt.irrefl _)⟩
  · exact ⟨fun h => by omega, fun h => absurd h h2.asymm⟩
theorem lt_not (x y : Dg) : ltOf cf x y = false ↔ ¬ Lt x y := by rw [← lt_iff, Bool.not_eq_true]
theorem Lt.tri (x y : Dg) : Lt x y ∨ x = y ∨ Lt y x := by
  rcases cf_cases x y with ⟨_, h⟩ | ⟨_, h⟩ | ⟨_, h⟩
  · exact .inl h
  · exact .inr (.inl h)
  · exact .inr (.inr h)
theorem swo : Go.Sort.SWO (ltOf cf) where
  irrefl x := (lt_not x x).2 (Lt.irrefl x)
  trans x y z h k := (lt_iff x z).2 (((lt_iff x y).1 h).trans ((lt_iff y z).1 k))
  ntrans x y z h k := (lt_not x z).2 (by
    have h := (lt_not x y).1 h
    have k := (lt_not y z).1 k
    intro l
    rcases Lt.tri y x with a | a | a
    · exact k (a.trans l)
    · subst a; exact k l
    · exact h a)
def Up (l : List Dg) : Prop := l.Pairwise fun x y => ¬ Lt y x
def Ups (l : List Dg) : Prop := l.Pairwise Lt
def dl : Dg → List Dg → List Dg
  | _, [] => []
  | p, x :: r => if x = p then dl x r else x :: dl x r
def ded : List Dg → List Dg
  | [] => []
  | x :: r => x :: dl x r
theorem mem_dl : ∀ (l : List Dg) (p x : Dg), (x = p ∨ x ∈ dl p l) ↔ (x = p ∨ x ∈ l)
  | [], p, x => by simp [dl]
  | y :: r, p, x => by
    have ih := mem_dl r y x
    unfold dl
    by_cases h : y = p
    · rw [if_pos h]
      subst h
      rw [ih, List.mem_cons]
      constructor
      · rintro (h | h)
        · exact .inl h
        · exact .inr (.inr h)
      · rintro (h | h | h)
        · exact .inl h
        · exact .inl h
        · exact .inr h
    · rw [if_neg h, List.mem_cons, List.mem_cons, ih]
theorem mem_ded (l : List Dg) (x : Dg) : x ∈ ded l ↔ x ∈ l := by
  cases l with
  | nil => exact Iff.rfl
  | cons y r =>
    unfold ded
    rw [List.mem_cons, List.mem_cons]
    exact mem_dl r y x
theorem dl_ups : ∀ (l : List Dg) (p : Dg), Up (p :: l) → Ups (p :: dl p l)
  | [], p, _ => List.pairwise_singleton _ _
  | y :: r, p, h => by
    have h1 := List.pairwise_cons.1 h
    have ih := dl_ups r y h1.2
    unfold dl
    by_cases e : y = p
    · rw [if_pos e]
      subst e
      exact ih
    · rw [if_neg e]
      refine List.pairwise_cons.2 ⟨fun z hz => ?_, ih⟩
      have hpy : Lt p y := by
        rcases Lt.tri p y with a | a | a
        · exact a
        · exact absurd a.symm e
        · exact absurd a (h1.1 y (.head _))
      rcases List.mem_cons.1 hz with rfl | hz
      · exact hpy
      · exact hpy.trans ((List.pairwise_cons.1 ih).1 z hz)
theorem ded_ups {l : List Dg} (h : Up l) : Ups (ded l) := by
  cases l with
  | nil => exact .nil
  | cons y r => exact dl_ups r y h
theorem ups_ext : ∀ {l m : List Dg}, Ups l → Ups m → (∀ x, x ∈ l ↔ x ∈ m) → l = m
  | [], [], _, _, _ => rfl
  | [], y :: m, _, _, h => absurd ((h y).2 (.head _)) (by simp)
  | x :: l, [], _, _, h => absurd ((h x).1 (.head _)) (by simp)
  | x :: l, y :: m, hl, hm, h => by
    have h1 := List.pairwise_cons.1 hl
    have h2 := List.pairwise_cons.1 hm
    have e : x = y := by
      rcases List.mem_cons.1 ((h x).1 (.head _)) with e | e
      · exact e
      · rcases List.mem_cons.1 ((h y).2 (.head _)) with e' | e'
        · exact e'.symm
        · exact absurd (h2.1 x e) (h1.1 y e').asymm
    subst e
    rw [ups_ext h1.2 h2.2 fun z => ⟨fun hz => ?_, fun hz => ?_⟩]
    · rcases List.mem_cons.1 ((h z).1 (.tail _ hz)) with e | e
      · subst e; exact absurd (h1.1 z hz) (Lt.irrefl z)
      · exact e
    · rcases List.mem_cons.1 ((h z).2 (.tail _ hz)) with e | e
      · subst e; exact absurd (h2.1 z hz) (Lt.irrefl z)
      · exact e
def mayB (d : Dg) : Bool := decide (1 ≤ d.2.2 ∧ d.2.2 ≤ 13 ∧ 0 ≤ d.2.1 ∧ d.2.1 ≤ 2147483647 ∧ d.1.length ≤ 200)
def So (l m : List Dg) : Prop := Ups m ∧ ∀ x, x ∈ m ↔ x ∈ l ∧ mayB x = true
theorem So.uniq {l l' m m' : List Dg} (h : So l m) (h' : So l' m') (e : ∀ x, x ∈ l ↔ x ∈ l') : m = m' :=
  ups_ext h.1 h'.1 fun x => by rw [h.2, h'.2, e]
theorem So.self {l m : List Dg} (h : So l m) : So m m := ⟨h.1, fun x => ⟨fun hx => ⟨hx, ((h.2 x).1 hx).2⟩, fun hx => hx.1⟩⟩
def el (f : Nat → Dg) (k : Nat) : AV := bif Nat.beq (k % 3) 0 then .str (f (k / 3)).1 else bif Nat.beq (k % 3) 1 then .int .i64 (f (k / 3)).2.1 else .int .i64 (f (k / 3)).2.2
def sc (d : Dg) : List AV := [.str d.1, .int .i64 d.2.1, .int .i64 d.2.2]
def upd {α : Type} (f : Nat → α) (i : Nat) (x : α) (j : Nat) : α := if j = i then x else f j
def clr {α : Type} (f : Nat → α) (i n : Nat) (x : α) (j : Nat) : α := if i ≤ j ∧ j < n then x else f j
def zd : Dg := ([], 0, 0)
theorem el_plain (f : Nat → Dg) : PlainFn fun c => some (el f c) := by
  intro k v h
  cases h
  unfold el
  cases Nat.beq (k % 3) 0 <;> cases Nat.beq (k % 3) 1 <;> rfl
theorem el0 (f : Nat → Dg) (u : Nat) : el f (0 + u * 3) = .str (f u).1 := by
  unfold el
  rw [show (0 + u * 3) % 3 = 0 by omega, show (0 + u * 3) / 3 = u by omega]
  rfl
theorem el1 (f : Nat → Dg) (u : Nat) : el f (0 + u * 3 + 1) = .int .i64 (f u).2.1 := by
  unfold el
  rw [show (0 + u * 3 + 1) % 3 = 1 by omega, show (0 + u * 3 + 1) / 3 = u by omega]
  rfl
theorem el2 (f : Nat → Dg) (u : Nat) : el f (0 + u * 3 + 2) = .int .i64 (f u).2.2 := by
  unfold el
  rw [show (0 + u * 3 + 2) % 3 = 2 by omega, show (0 + u * 3 + 2) / 3 = u by omega]
  rfl
theorem agg_el (f : Nat → Dg) (u : Nat) : AV.agg [el f (0 + u * 3), el f (0 + u * 3 + 1), el f (0 + u * 3 + 2)] = AV.agg [.str (f u).1, .int .i64 (f u).2.1, .int .i64 (f u).2.2] := by
  rw [el0, el1, el2]
theorem el_at (f : Nat → Dg) (k : Nat) : (sc (f (k / 3)))[k % 3]? = some (el f k) := by
  have h : k % 3 = 0 ∨ k % 3 = 1 ∨ k % 3 = 2 := by omega
  unfold el sc
  rcases h with h | h | h <;> rw [h] <;> rfl
theorem put_el (f : Nat → Dg) (i : Nat) (d : Dg) (z : Nat) :
    Tells z (.fn fun k => some (el (upd f i d) k)) (.fn fun k => bif (0 + i * 3).ble k && k.blt (0 + i * 3 + (sc d).length) then (fun k => (sc d)[k]?) (k - (0 + i * 3)) else (T.fn fun c => some (el f c)).get k) := by
  intro k v hk h
  have h : some (el (upd f i d) k) = some v := h
  rw [← h]
  show (bif (0 + i * 3).ble k && k.blt (0 + i * 3 + 3) then (sc d)[k - (0 + i * 3)]? else some (el f k)) = _
  by_cases hin : i * 3 ≤ k ∧ k < i * 3 + 3
  · have e : ((0 + i * 3).ble k && k.blt (0 + i * 3 + 3)) = true := by
      rw [Bool.and_eq_true, Nat.ble_eq, Nat.blt_eq]; omega
    rw [e, cond_true, ← el_at, show k / 3 = i by omega, show k - (0 + i * 3) = k % 3 by omega]
    unfold upd
    rw [if_pos rfl]
  · have e : ((0 + i * 3).ble k && k.blt (0 + i * 3 + 3)) = false := by
      rw [← Bool.not_eq_true, Bool.and_eq_true, Nat.ble_eq, Nat.blt_eq]; omega
    rw [e, cond_false]
    have h1 : ¬ k / 3 = i := by omega
    unfold el upd
    rw [if_neg h1]
theorem clr_el (f : Nat → Dg) (i n : Nat) (z : Nat) :
    Tells z (.fn fun k => some (el (clr f i n zd) k)) (.fn fun k => bif (0 + i * 3).ble k && k.blt (0 + i * 3 + (n - i) * (sc zd).length) then (fun k => (sc zd)[k % (sc zd).length]?) (k - (0 + i * 3)) else (T.fn fun c => some (el f c)).get k) := by
  intro k v hk h
  have h : some (el (clr f i n zd) k) = some v := h
  rw [← h]
  show (bif (0 + i * 3).ble k && k.blt (0 + i * 3 + (n - i) * 3) then (sc zd)[(k - (0 + i * 3)) % 3]? else some (el f k)) = _
  by_cases hin : i * 3 ≤ k ∧ k < i * 3 + (n - i) * 3
  · have e : ((0 + i * 3).ble k && k.blt (0 + i * 3 + (n - i) * 3)) = true := by
      rw [Bool.and_eq_true, Nat.ble_eq, Nat.blt_eq]; omega
    rw [e, cond_true, ← el_at, show (k - (0 + i * 3)) % 3 = k % 3 by omega]
    unfold clr
    rw [if_pos (by omega)]
  · have e : ((0 + i * 3).ble k && k.blt (0 + i * 3 + (n - i) * 3)) = false := by
      rw [← Bool.not_eq_true, Bool.and_eq_true, Nat.ble_eq, Nat.blt_eq]; omega
    rw [e, cond_false]
    have h1 : ¬ (i ≤ k / 3 ∧ k / 3 < n) := by omega
    unfold el clr
    rw [if_neg h1]
theorem app_el (f : Nat → Dg) (m : Nat) (p : List UInt8) (a c : Int) {s : Nat} (hs : s = 3) :
    Tells (0 + m * 3 + 3) (.fn fun k => some (el (upd f m (p, a, c)) k)) (.fn fun k => bif (0 + m * s).ble k && k.blt (0 + m * s + 1 * s) then (fun k => ((T.leaf.node (some (AV.int IntKind.i64 a)) T.leaf).node (some (AV.str p)) (T.leaf.node (some (AV.int IntKind.i64 c)) T.leaf)).get (0 + k)) (k - (0 + m * s)) else (T.fn fun c => some (el f c)).get k) := by
  subst hs
  intro k v hk h
  have h : some (el (upd f m (p, a, c)) k) = some v := h
  rw [← h]
  show (bif (0 + m * 3).ble k && k.blt (0 + m * 3 + 1 * 3) then ((T.leaf.node (some (AV.int IntKind.i64 a)) T.leaf).node (some (AV.str p)) (T.leaf.node (some (AV.int IntKind.i64 c)) T.leaf)).get (0 + (k - (0 + m * 3))) else some (el f k)) = _
  by_cases hin : m * 3 ≤ k
  · have e : ((0 + m * 3).ble k && k.blt (0 + m * 3 + 1 * 3)) = true := by
      rw [Bool.and_eq_true, Nat.ble_eq, Nat.blt_eq]; omega
    rw [e, cond_true, ← el_at, show k / 3 = m by omega, show 0 + (k - (0 + m * 3)) = k % 3 by omega]
    unfold upd
    rw [if_pos rfl]
    have hr : k % 3 = 0 ∨ k % 3 = 1 ∨ k % 3 = 2 := by omega
    rcases hr with h | h | h <;> rw [h] <;> rfl
  · have e : ((0 + m * 3).ble k && k.blt (0 + m * 3 + 1 * 3)) = false := by
      rw [← Bool.not_eq_true, Bool.and_eq_true, Nat.ble_eq, Nat.blt_eq]; omega
    rw [e, cond_false]
    have h1 : ¬ k / 3 = m := by omega
    unfold el upd
    rw [if_neg h1]
theorem fst_el (p : List UInt8) (a c : Int) : Tells 3 (.fn fun k => some (el (fun _ => (p, a, c)) k)) ((T.leaf.node (some (AV.int IntKind.i64 a)) T.leaf).node (some (AV.str p)) (T.leaf.node (some (AV.int IntKind.i64 c)) T.leaf)) := by
  intro k v hk h
  have h : some (el (fun _ => (p, a, c)) k) = some v := h
  rw [← h]
  have hr : k = 0 ∨ k = 1 ∨ k = 2 := by omega
  rcases hr with h | h | h <;> subst h <;> rfl
def sl {α : Type} (s : Nat → α) : Nat → Nat → List α
  | _, 0 => []
  | j, r + 1 => s j :: sl s (j + 1) r
theorem sl_snoc {α : Type} (s : Nat → α) : ∀ r j, sl s j (r + 1) = sl s j r ++ [s (j + r)]
  | 0, j => rfl
  | r + 1, j => by
    show s j :: sl s (j + 1) (r + 1) = (s j :: sl s (j + 1) r) ++ [s (j + (r + 1))]
    rw [sl_snoc s r (j + 1), List.cons_append, show j + 1 + r = j + (r + 1) by omega]
theorem sl_congr {α : Type} {s s' : Nat → α} : ∀ r j, (∀ t, j ≤ t → t < j + r → s t = s' t) → sl s j r = sl s' j r
  | 0, _, _ => rfl
  | r + 1, j, h => by
    show s j :: sl s (j + 1) r = s' j :: sl s' (j + 1) r
    rw [h j (by omega) (by omega), sl_congr r (j + 1) fun t h1 h2 => h t (by omega) (by omega)]
theorem sl_len {α : Type} (s : Nat → α) : ∀ r j, (sl s j r).length = r
  | 0, _ => rfl
  | r + 1, j => by
    show (sl s (j + 1) r).length + 1 = r + 1
    rw [sl_len s r (j + 1)]
theorem sl_get {α : Type} (s : Nat → α) : ∀ r j i, i < r → (sl s j r)[i]? = some (s (j + i))
  | 0, _, i, h => by omega
  | r + 1, j, 0, _ => rfl
  | r + 1, j, i + 1, h => by
    show (sl s (j + 1) r)[i]? = _
    rw [sl_get s r (j + 1) i (by omega), show j + 1 + i = j + (i + 1) by omega]
theorem sl_at {α : Type} (s : Nat → α) : ∀ r j t, j ≤ t → t < j + r → s t ∈ sl s j r
  | 0, j, t, h1, h2 => by omega
  | r + 1, j, t, h1, h2 => by
    by_cases e : t = j
    · subst e; exact .head _
    · exact .tail _ (sl_at s r (j + 1) t (by omega) (by omega))
end Go.Proofs.YtdbfpjgnlfejmaaDoor.dg
end
