/- A step of the evaluator's machine is steps of the model's: what comes of an operation. -/
import Derived.Test.YtcdpmiebmhjmpaaEvWb
namespace Go.Proofs.Ytcdpmiebmhjmpaa.Ev
open Go

/-- A frame at an operation that acts; what lies below it. -/
structure Wait (P : Program) (w0 : Env) (base : List Frame) (B : Base) (R : Bij) (af : AFrame) (rest : List AFrame) (h : AHeap) (fr : Frame) (fs : List Frame) (w : World) : Prop where
  heap : HRel P B R h w
  base : B.env = w0
  old : Old0 w0.toWorld w
  top : FrameRel P B R rest.length true h af fr
  run : af.mode = .run
  below : StackRel P B R h rest fs

section
variable {P : Program} {w0 : Env} {base : List Frame} {B : Base} {R : Bij} {af : AFrame} {rest : List AFrame} {h : AHeap} {fr : Frame} {fs : List Frame} {w : World}

theorem Wait.room (k : Wait P w0 base B R af rest h fr fs w) : B.n ≤ w.heap.size := by show B.env.heap.size ≤ _; rw [k.base]; exact k.old.size

theorem topM_some {rest : List AFrame} {h : AHeap} {o : Option AFrame} {m : AM} (e : topM rest h o = some m) : ∃ a, o = some a ∧ m = ⟨a, rest, h⟩ := by
  unfold topM at e
  split at e
  · cases e
  · cases e; exact ⟨_, rfl, rfl⟩

/-- It gets its value. -/
theorem Wait.got (k : Wait P w0 base B R af rest h fr fs w) {R' : Bij} {h' : AHeap} {w' : World} {v : AV} {x : Value} {m : AM} (hv : VRel R' v x) (hh : HRel P B R' h' w') (hk : Keeps R w R' w')
    (e : topM rest h' (finishA P af h' v) = some m) : Sim P w0 base m (fr.finish x) (fs ++ base) w' := by
  obtain ⟨a, e1, rfl⟩ := topM_some e
  have hb := B.keeps_refl (rest.length + 1)
  exact ⟨B, R', fs, rfl, k.base, hh, k.old.keeps k.base k.heap hk, finish_sound (k.top.mono (h' := h') hk.le hb (Nat.lt_succ_self _)) k.run e1 hv, k.below.mono hk.le hb (Nat.le_succ _)⟩

theorem argTree_get : ∀ (l : List AV) (i : Nat) (t : T AV) (u : Nat), (argTree l i t).get u = if i ≤ u ∧ u < i + l.length then l[u - i]? else t.get u
  | [], i, t, u => by simp [argTree]; omega
  | v :: r, i, t, u => by
    rw [argTree, argTree_get r (i + 1), T.get_set]
    by_cases h1 : u = i
    · subst h1; rw [if_neg (by omega), if_pos rfl, if_pos (by simp)]; simp
    · by_cases h2 : i + 1 ≤ u ∧ u < i + 1 + r.length
      · rw [if_pos h2, if_pos (by simp; omega)]
        obtain ⟨q, rfl⟩ : ∃ q, u = i + 1 + q := ⟨u - (i + 1), by omega⟩
        rw [show i + 1 + q - (i + 1) = q by omega, show i + 1 + q - i = q + 1 by omega]
        simp
      · rw [if_neg h2, if_neg h1, if_neg (by simp; omega)]

/-- A function, entered. -/
theorem enter_rel {f : FuncId} {args : List AV} {as : List Value} {kind : CallKind} {a : AFrame} {d : Nat} (e : enterA P f args kind = some a) (hr : VRels R args as) (hk : kind = .normal ∨ kind = .deferred) : FrameRel P B R d false h a (Frame.enter P f as.toArray kind) := by
  unfold enterA at e
  split at e
  · cases e
  · rename_i fn hfn
    split at e
    · cases e
    · rename_i c hc
      cases e
      have hlen := hr.length
      refine ⟨rfl, ⟨fn, hfn⟩, rfl, hk, rfl, rfl, rfl, ?_, ?_⟩
      · simp [Frame.enter, hfn, hlen]; omega
      · refine ⟨⟨_, _, rfl, ?_, rfl⟩, ?_⟩
        · simp [hfn, hc, ItemRel]
        · intro u v hv
          rw [argTree_get] at hv
          split at hv
          · rename_i hu
            obtain ⟨y, hy, hyr⟩ := hr.get _ v hv
            refine ⟨y, ?_, hyr⟩
            simp only [Frame.enter]
            rw [Array.getElem?_append_left (by simp; omega)]
            simpa using hy
          · cases hv

theorem Wait.entered (k : Wait P w0 base B R af rest h fr fs w) {h' : AHeap} {f : FuncId} {args : List AV} {as : List Value} {m : AM} (hr : VRels R args as) (hh : HRel P B R h' w) (e : topM (af :: rest) h' (enterA P f args .normal) = some m) :
    Sim P w0 base m (Frame.enter P f as.toArray .normal) (fr :: (fs ++ base)) w := by
  obtain ⟨a, e1, rfl⟩ := topM_some e
  have hb := B.keeps_refl (rest.length + 1)
  exact ⟨B, R, fr :: fs, rfl, k.base, hh, k.old, enter_rel e1 hr (.inl rfl), fr, fs, rfl, k.top.mono R.le_refl hb (Nat.lt_succ_self _), k.below.mono R.le_refl hb (Nat.le_succ _)⟩

theorem clearDsts_get : ∀ (l : List Oper) (t : T AV) {u : Nat} {v : AV}, (clearDsts t l).get u = some v → t.get u = some v ∧ ∀ o ∈ l, o.dst ≠ some u
  | [], _, _, _, e => ⟨e, fun o ho => absurd ho List.not_mem_nil⟩
  | o :: r, t, u, v, e => by
    unfold clearDsts at e
    split at e
    · rename_i hd
      obtain ⟨g1, g2⟩ := clearDsts_get r t e
      refine ⟨g1, fun q hq => ?_⟩
      rcases List.mem_cons.1 hq with rfl | hq
      · rw [hd]; simp
      · exact g2 q hq
    · rename_i x hd
      obtain ⟨g1, g2⟩ := clearDsts_get r _ e
      rw [T.get_set] at g1
      split at g1
      · cases g1
      · rename_i hx
        refine ⟨g1, fun q hq => ?_⟩
        rcases List.mem_cons.1 hq with rfl | hq
        · rw [hd]; intro e; exact hx (Option.some.inj e).symm
        · exact g2 q hq

theorem raised_slots {d : Nat} {sus : Bool} {h : AHeap} {mode : AMode} {todo : List AItem} {t : T AV} {ct : List Item} {a : Array Value} (k : TopRel P B R d sus h mode todo t ct a) : Slots R (raisedT t todo) a := by
  have weak : ∀ {l : List Oper}, Slots R t a → Slots R (clearDsts t l) a := fun k u v e => k u v (clearDsts_get _ _ e).1
  unfold raisedT
  unfold TopRel at k
  split at k
  · unfold TodoRel at k
    split at k
    · obtain ⟨s, k', _, _, hd⟩ := k
      simp only []
      intro u v e
      obtain ⟨e1, e2⟩ := clearDsts_get _ _ e
      rcases hd.slots u v e1 with ⟨q, _, _, g⟩ | g
      · exfalso
        cases hq : (_ : Array Oper)[q]? with
        | none => rw [hq] at g; cases g
        | some o =>
          rw [hq] at g
          exact e2 o (by have := Array.mem_of_getElem? hq; simpa using this) g
      · exact g
    · split
      · exact weak k.2
      · exact k.2
  · split
    · exact weak k
    · exact k

/-- A frame that panics. -/
theorem raise_rel {d d' : Nat} {sus sus' : Bool} {h h' : AHeap} {a : AFrame} {f : Frame} {c : List (AV × Bool)} {c' : List PanicEntry} (k : FrameRel P B R d sus h a f) (hc : All2 (EntRel R) c c') : FrameRel P B R d' sus' h' (raiseA a c) (f.raise c') := by
  have hs := raised_slots k.top
  obtain ⟨fn, n, t, todo, ds, mode, kind, round⟩ := a
  obtain ⟨k1, k2, k3, k4, k5, k6, k7, k8, k9⟩ := k
  cases mode with
  | run =>
    have e : f.raise c' = { f with mode := .panicking c' } := by simp only [Frame.raise, show f.mode = .run from k7]
    rw [e]
    exact ⟨k1, k2, k3, k4, k5, k6, ⟨c', rfl, by simpa [chainOf] using hc⟩, k8, hs⟩
  | returning =>
    have e : f.raise c' = { f with mode := .panicking c' } := by simp only [Frame.raise, show f.mode = .returning from k7]
    rw [e]
    exact ⟨k1, k2, k3, k4, k5, k6, ⟨c', rfl, by simpa [chainOf] using hc⟩, k8, hs⟩
  | panicking ch =>
    obtain ⟨ch', hm, hch⟩ := k7
    have e : f.raise c' = { f with mode := .panicking (c' ++ ch') } := by simp only [Frame.raise, hm]
    rw [e]
    exact ⟨k1, k2, k3, k4, k5, k6, ⟨c' ++ ch', rfl, hc.append hch⟩, k8, hs⟩

theorem raise_sim (k : Wait P w0 base B R af rest h fr fs w) {c : List (AV × Bool)} {c' : List PanicEntry} (hc : All2 (EntRel R) c c') : Sim P w0 base ⟨raiseA af c, rest, h⟩ (fr.raise c') (fs ++ base) w :=
  ⟨B, R, fs, rfl, k.base, k.heap, k.old, raise_rel k.top hc, k.below⟩

/-- A known call is one of the model's. -/
def XOk (P : Program) (f : FuncId) (F : AHeap → List AV → Option (AV × T AObj × Nat)) : Prop :=
  ∀ (B : Base) (R : Bij) (h : AHeap) (w : World) (args : List AV) (args' : List Value) (v : AV) (o : T AObj) (n : Nat), F h args = some (v, o, n) → HRel P B R h w → B.n ≤ w.heap.size → VRels R args args' →
    Calls P f args'.toArray w fun e w' => ∃ R' v', e = .returned v' ∧ VRel R' v v' ∧ HRel P B R' ⟨o, n, h.glob⟩ w' ∧ Keeps R w R' w'

class XTOk (P : Program) [XT P] : Prop where
  ok : ∀ f F, XT.tab (P := P) f = some F → XOk P f F

instance (priority := 10) noXTOk : @XTOk P (noXT P) := @XTOk.mk P (noXT P) fun _ _ e => by cases e

/-- What an operation comes to, in the frame at which it stands. -/
theorem upon_sim [XT P] [XTOk P] (k : Wait P w0 base B R af rest h fr fs w) {s : Sem Next} {r : AR} {m : AM} (hop : OpRel P B R w s r) (hr : ∀ i as, r ≠ .round i as) (hd : ∀ d, r ≠ .dfr d) (hc : r ≠ .recover)
    (hst : (stepG P true { frame := fr, callers := fs ++ base, status := .running, dying := none } w).bare = (stepG.apply P true fr (fs ++ base) none s w).bare)
    (ht : ∃ ops i s' k', fr.todo = .inRegion ops (i :: s') :: k') (e : upon P af rest h r = some m) : ∃ fr' cs' w', Steps P (lone fr (fs ++ base) w) (lone fr' cs' w') ∧ Sim P w0 base m fr' cs' w' := by
  obtain ⟨ops, i, s', k', ht⟩ := ht
  cases r with
  | val v h' =>
    obtain ⟨R', v', w', r1, r2, r3, r4⟩ := hop
    exact ⟨_, _, _, .one (step_lone_go (by rw [hst]; simp [stepG.apply, Sem.runT_eq, r1])), k.got r2 r3 r4 e⟩
  | skip h' =>
    obtain ⟨R', w', r1, r3, r4⟩ := hop
    exact ⟨_, _, _, .one (step_lone_go (by rw [hst]; simp [stepG.apply, Sem.runT_eq, r1])), k.got (v := undefA) (x := undef) ⟨[], rfl, rfl⟩ r3 r4 e⟩
  | enter f args h' =>
    obtain ⟨as, r1, r2, r3⟩ := hop
    have s1 : step P (lone fr (fs ++ base) w) = .next (lone (Frame.enter P f as.toArray .normal) (fr :: (fs ++ base)) w) := step_lone_go (by rw [hst]; simp [stepG.apply, Sem.runT_eq, r1, ht])
    change enterX P af rest h' f args = some m at e
    unfold enterX at e
    split at e
    · exact ⟨_, _, _, .one s1, k.entered r2 r3 e⟩
    · rename_i v h2 hx
      unfold calledX at hx
      split at hx
      · cases hx
      · rename_i F hF
        split at hx
        · cases hx
        · rename_i v0 o n hv
          cases hx
          obtain ⟨en, w', fr', ⟨R', v', rfl, q1, q2, q3⟩, q4, q5, q6⟩ := XTOk.ok (P := P) f F hF B R h' w args as v o n hv r3 k.room r2 (fr :: (fs ++ base))
          exact ⟨_, _, _, (Steps.one s1).trans ((show Steps P _ _ from q4).trans (.one (step_leave_returned q6))), k.got q1 q2 q3 e⟩
  | round i as => exact absurd rfl (hr _ _)
  | dfr dd => exact absurd rfl (hd _)
  | recover => exact absurd rfl hc
  | panic v =>
    obtain ⟨v', r1, r2⟩ := hop
    cases e
    exact ⟨_, _, _, .one (step_lone_go (by rw [hst]; simp [stepG.apply, Sem.runT_eq, r1])), raise_sim k (c' := [{ v := v', recovered := false }]) ⟨_, [], rfl, ⟨r2, rfl, rfl⟩, rfl⟩⟩

end

end Go.Proofs.Ytcdpmiebmhjmpaa.Ev
