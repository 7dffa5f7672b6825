/- A step of the evaluator's machine is steps of the model's: all of them; a whole call. -/
import Derived.Test.YtcdpmiebmhjmpaaEvWf
namespace Go.Proofs.Ytcdpmiebmhjmpaa.Ev
open Go

section
variable {P : Program} {w0 : Env} {base : List Frame} {B : Base} {R : Bij} {af : AFrame} {rest : List AFrame} {h : AHeap} {fr : Frame} {fs : List Frame} {w : World}

/-- What an operation that does not act comes to. -/
theorem quiet_val {ρ : Operand → Option AV} {o : Oper} {r : AR} (he : isEff P o = false) (e : opA P ρ h o.op = some r) : ∃ v h', r = .val v h' ∧
    ((isFloat o.op = true ∧ ∃ vf ob, FloatAt P ρ o.op vf ob ∧ v = vf h.next ∧ h' = h.new ob) ∨ (isFloat o.op = false ∧ isPure o.op = true ∧ h' = h ∧ ∀ h, opA P ρ h o.op = some (.val v h)) ∨
      (isFloat o.op = false ∧ isPure o.op = false ∧ isRead P o.op = true ∧ h' = h)) := by
  cases hf : isFloat o.op with
  | true =>
    obtain ⟨vf, ob, k⟩ := float_at hf e
    have := k.1 h
    rw [e] at this
    cases this
    exact ⟨_, _, rfl, .inl ⟨rfl, vf, ob, k, rfl, rfl⟩⟩
  | false =>
    cases hp : isPure o.op with
    | true =>
      obtain ⟨v, rfl, k⟩ := opA_pure hp e
      exact ⟨_, _, rfl, .inr (.inl ⟨rfl, rfl, rfl, k⟩)⟩
    | false =>
      have hr : isRead P o.op = true := by
        cases hr : isRead P o.op with
        | true => rfl
        | false =>
          exfalso
          unfold isEff at he
          cases hop : o.op <;> simp [hop] at he <;> simp [hop] at hf hp hr <;> simp [hf, hp, hr] at he
      obtain ⟨v, rfl⟩ := opA_read hr e
      exact ⟨_, _, rfl, .inr (.inr ⟨rfl, rfl, hr, rfl⟩)⟩

theorem fin_drw {fn : FuncId} {n : Nat} {t : T AV} {all : Array Oper} {i : Nat} {l dn : List Nat} {kk : List AItem} {ds : List ADef} {mode : AMode} {kind : CallKind} {round : Option Nat} {o : Oper} {v : AV} {h' : AHeap} {m : AM} (ho : all[i]? = some o) (he : isEff P o = false)
    (e : topM rest h' (finishA P ⟨fn, n, t, .drw all (i :: l) dn :: kk, ds, mode, kind, round⟩ h' v) = some m) :
    ∃ t', putT t n o.dst v = some t' ∧ (isFloat o.op = true → recheck P all.toList 0 t' h' dn = true) ∧ m = ⟨⟨fn, n, t', .drw all l (i :: dn) :: kk, ds, mode, kind, round⟩, rest, h'⟩ := by
  obtain ⟨a, e1, rfl⟩ := topM_some e
  change (match all[i]? with | none => none | some o => finDrw P ⟨fn, n, t, .drw all (i :: l) dn :: kk, ds, mode, kind, round⟩ h' all i o l dn kk (putT t n o.dst v)) = some a at e1
  rw [ho] at e1
  simp only [] at e1
  unfold finDrw at e1
  split at e1
  · cases e1
  · rename_i t' ht
    split at e1
    · cases e1
    · rename_i hre
      cases e1
      exact ⟨t', ht, fun hf => by simpa [hf, he] using hre, rfl⟩

theorem drw_sim [XT P] [XTOk P] (k : Plain P w0 base B R af rest h fr fs w) {all : Array Oper} {l dn : List Nat} {kk : List AItem} (ht : af.todo = .drw all l dn :: kk) {s : List Nat} {k' : List Item} (hfr : fr.todo = .inRegion all s :: k') (hk : All2 (ItemRel R) kk k')
    (hd : Drw P B R rest.length false all l dn af.tmps h fr.tmps s) {m : AM} (e : it_drw P all l dn af rest h kk = some m) : Goes P w0 base m fr (fs ++ base) w := by
  have hm := frun k
  have hroom : B.n ≤ w.heap.size := by show B.env.heap.size ≤ _; rw [k.base]; exact k.old.size
  have hrun := k.run
  obtain ⟨fn, n, t, td, ds, mode, kind, round⟩ := af
  simp only at ht hrun hd; subst ht; subst hrun
  cases l with
  | nil =>
    change toA _ rest h kk = some m at e
    cases e
    obtain ⟨B', R', w', a', g1, g2, g3, g4, g5, g6, g7⟩ := hd.run_out s k.heap hroom hm hfr (fs ++ base)
    have st : step P (lone { fr with tmps := a', todo := .inRegion all [] :: k' } (fs ++ base) w') = .next (lone { fr with tmps := a', todo := k' } (fs ++ base) w') :=
      step_lone_go (by simp [stepG, stepG.exec, hm])
    refine ⟨_, _, _, g1.trans (.one st), B', R', fs, rfl, g3.1.trans k.base, g5, k.old.keeps k.base k.heap g6, ?_, k.below.mono g4 g3 (Nat.le_refl _)⟩
    obtain ⟨k1, k2, k3, k4, k5, k6, k7, k8, k9⟩ := k.top
    exact ⟨k1, k2, k3, k4, k5.mono g4, k6.mono fun _ _ q => q.mono g4, k7.mono g4, g2.trans k8, todo_plain (hk.mono fun _ _ q => q.mono g4) g7⟩
  | cons i l =>
    have hin := hd.facts.2.2.2.1 i List.mem_cons_self
    obtain ⟨o, ho⟩ : ∃ o, all[i]? = some o := ⟨_, Array.getElem?_eq_getElem hin⟩
    change operO P _ rest h all.toList all[i]? = some m at e
    rw [ho] at e
    change operA P _ rest h all.toList o = some m at e
    have hidn : i ∉ dn := fun hi => (List.nodup_append.1 hd.facts.2.2.2.2.1).2.2 i (by simpa using hi) i List.mem_cons_self rfl
    obtain ⟨k1, k2, k3, k4, k5, k6, k7, k8, k9⟩ := k.top
    cases he : isEff P o with
    | true =>
      have hem : (planOf P all.toList).em.testBit i = true := by rw [hd.plan.em i o ho]; exact he
      obtain ⟨B', R', w', a', s', g1, g2, g3, g4, g5, g6, g7⟩ := hd.catch_up hem s k.heap hroom hm hfr (fs ++ base)
      have hw : Wait P w0 base B' R' ⟨fn, n, t, .drw all (i :: l) dn :: kk, ds, .run, kind, round⟩ rest h { fr with tmps := a', todo := .inRegion all (i :: s') :: k' } fs w' :=
        ⟨g5, g3.1.trans k.base, k.old.keeps k.base k.heap g6, ⟨k1, k2, k3, k4, k5.mono g4, k6.mono fun _ _ q => q.mono g4, k7.mono g4, g2.trans k8, i :: s', k', rfl, hk.mono fun _ _ q => q.mono g4, g7.suspend hem⟩, rfl, k.below.mono g4 g3 (Nat.le_refl _)⟩
      have hreads := g7.reads ho hidn
      obtain ⟨fr', cs', w2, s1, s2⟩ := oper_sim hw rfl ho (fun x hx v hv => ev_eval (fun u hu he => hreads u v (by rw [hu] at hx; exact mentions_operand hx) he) hv)
        (fun g b q u v hg hq hu hv => hreads u v (mentions_guard hg (by simpa using hq) hu) hv) e
      exact ⟨fr', cs', w2, g1.trans s1, s2⟩
    | false =>
      have hem : (planOf P all.toList).em.testBit i = false := by rw [hd.plan.em i o ho]; exact he
      have hown := hd.own_dst ho he
      have hap : ∀ p ∈ dn, p ∈ s → ∀ q, all[p]? = some q → ∀ x, o.dst = some x → (mentions all.toList q).contains x = false ∧ q.dst ≠ some x := fun p hp hps q hq x hx =>
        hd.apart ho hx hidn hp hq (by
          cases hb : (planOf P all.toList).em.testBit p with
          | false => rfl
          | true => exact absurd hps (hd.effs p hp hb)) (fun hh => by rw [hem] at hh; cases hh)
      have hop : ∀ {v : AV} {t' : T AV}, t' = setD t o.dst v → ∀ h, opA P (ev t') h o.op = opA P (ev t) h o.op := fun {v t'} ht' h => by
        subst ht'
        unfold setD
        split
        · rfl
        · rename_i u hu; exact opA_set all.toList (hown u hu) h
      have hwg : ∀ {v : AV} {t' : T AV}, t' = setD t o.dst v → wantedA all.toList t' o.guard = wantedA all.toList t o.guard := fun {v t'} ht' => by
        subst ht'
        unfold setD
        split
        · rfl
        · rename_i u hu; exact wantedA_set (hown u hu)
      have hget : ∀ {v : AV} {t' : T AV}, t' = setD t o.dst v → ∀ u, o.dst = some u → t'.get u = some v := fun {v t'} ht' u hu => by
        subst ht'; rw [setT_get, if_pos hu]
      have goes : ∀ {B' : Base} {h' : AHeap} {v : AV}, topM rest h' (finishA P ⟨fn, n, t, .drw all (i :: l) dn :: kk, ds, .run, kind, round⟩ h' v) = some m → HRel P B' R h' w → B.keeps B' rest.length →
          (∀ t', t' = setD t o.dst v → (isFloat o.op = true → recheck P all.toList 0 t' h' dn = true) → (∀ p ∈ dn, p ∈ s → ∀ q, all[p]? = some q → Pend P B rest.length false all t h p q → Pend P B' rest.length false all t' h' p q) ∧ Pend P B' rest.length false all t' h' i o) →
          Goes P w0 base m fr (fs ++ base) w := by
        intro B' h' v e hh hb hp
        obtain ⟨t', f1, f2, rfl⟩ := fin_drw ho he e
        obtain ⟨q1, q2⟩ := hp t' (putT_get f1).1 f2
        exact ⟨_, _, _, Steps.refl _ _, B', R, fs, rfl, hb.1.trans k.base, hh, k.old, ⟨k1, k2, k3, k4, k5, k6, k7, k8, s, k', hfr, hk, hd.ahead ho he k8 f1 q1 q2⟩, k.below.mono R.le_refl hb (Nat.le_refl _)⟩
      unfold operA at e
      split at e
      · cases e
      · rename_i wt hwt
        split at e
        · refine goes e k.heap (B.keeps_refl _) fun t' ht' _ => ⟨fun p hp hps q hq hpe => hpe.other ht' (hap p hp hps q hq), false, by rw [hwg ht']; exact hwt, fun _ u hu => hget ht' u hu, fun hh => (by cases hh)⟩
        · unfold uponO at e
          split at e
          · cases e
          · rename_i r hr
            obtain ⟨v, h', rfl, hcase⟩ := quiet_val he hr
            change topM rest h' (finishA P _ h' v) = some m at e
            rcases hcase with ⟨c1, vf, ob, c2, rfl, rfl⟩ | ⟨c1, c2, rfl, c3⟩ | ⟨c1, c2, c3, rfl⟩
            · refine goes (B' := B.mark h.next ob (rest.length, i)) e (k.heap.mark ob _) ⟨rfl, fun id ob' e1 _ => mark_keeps k.heap ob _ id ob' e1⟩ fun t' ht' hre => ⟨fun p hp hps q hq hpe => ?_, true, by rw [hwg ht']; exact hwt, fun hh => (by cases hh), fun _ => .inl ⟨c1, vf, ob, h.next, ?_, ?_, ?_, fun u hu => hget ht' u hu⟩⟩
              · refine (Pend.base (mark_keeps k.heap ob _) hpe).suspend.again ht' (hap p hp hps q hq) fun h1 h2 h3 => ?_
                have hanc : (0 : Nat).testBit p = false := Nat.zero_testBit p
                have := recheck_get (hre c1) p hp
                rw [show all.toList[p]? = some q by simpa using hq] at this
                simp only [recheckO, h1, hanc, Bool.not_false, Bool.and_self] at this
                exact this
              · subst ht'
                unfold setD
                split
                · exact c2
                · rename_i u hu; exact c2.set all.toList (hown u hu)
              · simp [Base.mark]
              · simp [Base.mark]
            · refine goes e k.heap (B.keeps_refl _) fun t' ht' _ => ⟨fun p hp hps q hq hpe => hpe.other ht' (hap p hp hps q hq), true, by rw [hwg ht']; exact hwt, fun hh => (by cases hh), fun _ => .inr (.inl ⟨c1, c2, v, fun h => by rw [hop ht']; exact c3 h, fun u hu => hget ht' u hu⟩)⟩
            · refine goes e k.heap (B.keeps_refl _) fun t' ht' _ => ⟨fun p hp hps q hq hpe => hpe.other ht' (hap p hp hps q hq), true, by rw [hwg ht']; exact hwt, fun hh => (by cases hh), fun _ => .inr (.inr ⟨c1, c2, c3, .inr ⟨v, by rw [hop ht']; exact hr, fun u hu => hget ht' u hu⟩⟩)⟩

theorem item_sim [XT P] [XTOk P] (hmix : P.follows .mixedOrders = true) (k : Plain P w0 base B R af rest h fr fs w) {it : AItem} {kk : List AItem} (ht : af.todo = it :: kk) {m : AM} (e : itemA P af rest h it kk = some m) : Goes P w0 base m fr (fs ++ base) w := by
  have hm := frun k
  have htop : TodoRel P B R rest.length false h af.todo af.tmps fr.todo fr.tmps := by
    have := k.top.top
    rw [k.run] at this; exact this
  rw [ht] at htop
  cases it with
  | drw all l dn =>
    obtain ⟨s, k', hfr, hk, hd⟩ := htop
    exact drw_sim k ht hfr hk hd e
  | code c =>
    obtain ⟨⟨_, kk', hfr, rfl, hk⟩, hs⟩ := htop
    exact code_sim hmix k hs hfr hk e
  | inBlock i =>
    obtain ⟨⟨_, kk', hfr, rfl, hk⟩, hs⟩ := htop
    exact k.to hs hk e (step_lone_go (by simp [stepG, stepG.exec, hm, hfr]))
  | inLoop b =>
    obtain ⟨⟨_, kk', hfr, rfl, hk⟩, hs⟩ := htop
    exact k.to (todo := .code b :: .inLoop b :: kk) (todo' := .code b :: .inLoop b :: kk') hs ⟨_, _, rfl, rfl, _, _, rfl, rfl, hk⟩ e (step_lone_go (by simp [stepG, stepG.exec, hm, hfr]))
  | inScope b =>
    obtain ⟨⟨_, kk', hfr, rfl, hk⟩, hs⟩ := htop
    exact k.to hs hk e (step_lone_go (by simp [stepG, stepG.exec, hm, hfr]))
  | ops all l =>
    obtain ⟨⟨_, kk', hfr, ⟨ops, todo, rfl, rfl, hmap⟩, hk⟩, hs⟩ := htop
    cases l with
    | nil =>
      have : todo = [] := by simpa using hmap.symm
      subst this
      exact k.to hs hk e (step_lone_go (by simp [stepG, stepG.exec, hm, hfr]))
    | cons o l =>
      cases todo with
      | nil => simp at hmap
      | cons i todo =>
        simp only [List.map_cons, List.cons.injEq] at hmap
        change operA P af rest h ops.toList o = some m at e
        have hw : Wait P w0 base B R af rest h fr fs w := ⟨k.heap, k.base, k.old, by
          obtain ⟨k1, k2, k3, k4, k5, k6, k7, k8, k9⟩ := k.top
          refine ⟨k1, k2, k3, k4, k5, k6, k7, k8, ?_⟩
          have hr := k.run
          obtain ⟨fn, n, t, td, ds, mode, kind, round⟩ := af
          simp only at hr ht; subst hr; subst ht
          exact ⟨⟨_, kk', hfr, ⟨ops, _, rfl, rfl, by simp only [List.map_cons, List.cons.injEq]; exact hmap⟩, hk⟩, hs⟩, k.run, k.below⟩
        exact oper_sim hw hfr hmap.1.symm (fun x _ v hv => ev_eval (fun u _ hu => hs u v hu) hv) (fun g b q u v _ _ _ hv => hs u v hv) e
  | inRange i => cases e
  | endRange i =>
    obtain ⟨⟨_, kk', hfr, ⟨L, hL, rfl⟩, hk⟩, hs⟩ := htop
    exact endRange_sim k hs hL hfr hk e
  | beginRound =>
    obtain ⟨⟨_, kk', hfr, rfl, hk⟩, hs⟩ := htop
    exact begin_sim k hs hfr hk e

def resF (a : Array Value) : ResultVar → Sem Value
  | .tmp t => pure (a.getD t undef)
  | .cell x t => do loadVar t (← asAddr (a.getD x undef))

theorem results_eq (fn : Func) (a : Array Value) : results fn a = (do let vs ← fn.results.mapM (resF a); pure (if h : vs.size = 1 then vs[0] else .tuple vs)) := by
  unfold results
  first
    | rfl
    | (congr 1; done)
    | (congr 1; funext x; cases x <;> rfl)
    | (congr 1; congr 1; funext x; cases x <;> rfl)

theorem resList_sound (kh : HRel P B R h w) {t : T AV} {a : Array Value} (hs : Slots R t a) : ∀ {l : List ResultVar} {vs : List AV}, resListA P h t l = some vs →
    ∃ vs', (l.mapM (resF a)).run P w = .ok vs' w ∧ VRels R vs vs'
  | [], vs, e => by cases e; exact ⟨[], by simp, rfl⟩
  | r :: l, vs, e => by
    have getD : ∀ {u : Nat} {v : AV}, t.get u = some v → VRel R v (a.getD u undef) := fun {u v} hv => by
      obtain ⟨y, h1, h2⟩ := hs u v hv
      rw [show a.getD u undef = y by
        obtain ⟨hl, hg⟩ := Array.getElem?_eq_some_iff.1 h1
        simp [Array.getD, hl, hg]]
      exact h2
    have consO_some : ∀ {x : Option AV} {y : Option (List AV)}, consO x y = some vs → ∃ v r, x = some v ∧ y = some r ∧ vs = v :: r := fun {x y} e => by
      unfold consO at e
      split at e
      · cases e
      · split at e
        · cases e
        · cases e; exact ⟨_, _, rfl, rfl, rfl⟩
    cases r with
    | tmp u =>
      obtain ⟨v, r, h1, h2, rfl⟩ := consO_some e
      obtain ⟨vs', g1, g2⟩ := resList_sound kh hs h2
      exact ⟨a.getD u undef :: vs', by simp only [List.mapM_cons, resF, Sem.run_bind, Sem.run_pure, Result.andThen_ok, g1], _, _, rfl, getD h1, g2⟩
    | cell u ty =>
      obtain ⟨v, r, h1, h2, rfl⟩ := consO_some e
      obtain ⟨vs', g1, g2⟩ := resList_sound kh hs h2
      unfold loadO at h1
      split at h1
      · cases h1
      · rename_i p hp
        have hpv := getD hp
        obtain ⟨v', q1, q2⟩ := loadA_sound kh h1 hpv
        have hpp : ∃ ad, a.getD u undef = .pointer (some ad) := by
          unfold loadA at h1
          split at h1
          · obtain ⟨L, _, _, hh⟩ := hpv; exact ⟨_, hh⟩
          · exact ⟨_, hpv⟩
          · cases h1
        obtain ⟨ad, had⟩ := hpp
        rw [had] at q1
        have q3 : (loadVar ty ad).run P w = .ok v' w := by simpa [Instr.loadAt, Instr.sureAddr] using q1
        exact ⟨v' :: vs', by simp only [List.mapM_cons, resF, Sem.run_bind, Sem.run_pure, Result.andThen_ok, had, asAddr, q3, g1], _, _, rfl, q2, g2⟩

/-- The results of a frame. -/
theorem res_sound (kh : HRel P B R h w) (hs : Slots R af.tmps fr.tmps) (hfn : fr.fn = af.fn) {v : AV} (e : resA P af h = some v) : ∃ fn v', P.funcs[fr.fn]? = some fn ∧ (results fn fr.tmps).run P w = .ok v' w ∧ VRel R v v' := by
  unfold resA at e
  split at e
  · cases e
  · rename_i fn hf
    unfold tupOf at e
    split at e
    · cases e
    · rename_i l hl
      obtain ⟨vs, g1, g2⟩ := resList_sound kh hs hl
      refine ⟨fn, if h : vs.toArray.size = 1 then vs.toArray[0] else .tuple vs.toArray, by rw [hfn]; exact hf, ?_, ?_⟩
      · rw [results_eq, Array.mapM_eq_mapM_toList]
        simp only [Sem.run_bind, Sem.run_map, g1, Result.andThen_ok, Sem.run_pure]
      · split at e
        · cases e
          obtain ⟨y, ys, rfl, hy, hr⟩ := g2
          cases hr
          simpa using hy
        · rename_i hn
          cases e
          rw [dif_neg]
          · exact ⟨vs, rfl, g2⟩
          · intro hsz
            have := g2.length
            simp at hsz
            rw [hsz] at this
            match l, this, hn with
            | [x], _, hn => exact hn x rfl

theorem tgt_fn {f : Fn} {cap : List AV} {d' : Deferred} {args : List AV} (k : DefRel R ⟨.fn f cap, args⟩ d') : ∃ c as : List Value, d' = ⟨.fn f c.toArray, as.toArray⟩ ∧ VRels R cap c ∧ VRels R args as := by
  obtain ⟨⟨_, c, h1, h2⟩, h3⟩ := k
  obtain ⟨t, a⟩ := d'
  simp only at h1 h3
  exact ⟨c, a.toList, by rw [h1], h2, h3⟩

theorem unwind_sim (kh : HRel P B R h w) (hb : B.env = w0) (ho : Old0 w0.toWorld w) (kt : FrameRel P B R rest.length false h af fr) (hr : af.mode ≠ .run) (kb : StackRel P B R h rest fs) {m : AM} (e : unwindA P af rest h = some m) : Goes P w0 base m fr (fs ++ base) w := by
  have hslots : Slots R af.tmps fr.tmps := by
    have := kt.top
    unfold TopRel at this
    split at this
    · exact absurd ‹_› hr
    · exact this
  have hst : stepG P true { frame := fr, callers := fs ++ base, status := .running, dying := none } w = unwind P true fr (fs ++ base) none w := by
    have := kt.mode
    cases hm : af.mode with
    | run => exact absurd hm hr
    | returning => rw [hm] at this; have hf : fr.mode = .returning := this; simp only [stepG, hf]
    | panicking c => rw [hm] at this; obtain ⟨c', hf, _⟩ := this; simp only [stepG, hf]
  have hroom : B.n ≤ w.heap.size := by show B.env.heap.size ≤ _; rw [hb]; exact ho.size
  unfold unwindA at e
  split at e
  · rename_i d ds hdef
    have hd := kt.defers
    rw [hdef] at hd
    obtain ⟨d', ds', hfd, hd1, hd2⟩ := hd
    obtain ⟨tgt, args⟩ := d
    unfold deferred1 at e
    simp only at e
    split at e
    · rename_i id
      split at e
      · cases e
      · rename_i cs hcs
        exact collected_sim kh hb ho kt hr kb hslots hdef hst hcs e
    · rename_i f cap
      obtain ⟨c, as, rfl, h1, h2⟩ := tgt_fn hd1
      unfold uponDefer at e
      split at e
      · rename_i g args2 h2' hinv
        obtain ⟨a, e1, rfl⟩ := topM_some e
        have hop := invokeFnA_sound kh hroom hinv h2 h1
        obtain ⟨as2, r1, r2, r3⟩ := hop
        refine ⟨_, _, _, .one (step_lone_go (fr' := Frame.enter P g as2.toArray .deferred) (cs' := { fr with defers := ds' } :: (fs ++ base)) (w' := w) ?_), B, R, { fr with defers := ds' } :: fs, rfl, hb, r3, ho, enter_rel e1 r2 (.inr rfl), _, _, rfl, ?_, kb.mono R.le_refl (B.keeps_refl (rest.length)) (Nat.le_refl _)⟩
        · rw [hst]
          simp [unwind, hfd, callDeferred, Sem.runT_eq, r1]
        · obtain ⟨k1, k2, k3, k4, k5, k6, k7, k8, k9⟩ := kt
          obtain ⟨fn, n, t, td, ds0, mode, kind, round⟩ := af
          cases mode with
          | run => exact absurd rfl hr
          | returning => exact ⟨k1, k2, k3, k4, k5, hd2, k7, k8, hslots⟩
          | panicking c => exact ⟨k1, k2, k3, k4, k5, hd2, k7, k8, hslots⟩
      · cases e
    · cases e
  · rename_i hdef
    have hfd : fr.defers = [] := by have := kt.defers; rw [hdef] at this; exact this
    have hmode := kt.mode
    split at e
    · cases e
    · rename_i chain hm
      rw [hm] at hmode
      obtain ⟨c', hfm, hc⟩ := hmode
      cases rest with
      | nil => cases e
      | cons c r =>
        obtain ⟨f, fs', rfl, kf, kr⟩ := kb
        cases e
        obtain ⟨fn, hfn⟩ := kt.fnOk
        have hcat : fr.catches P = false := by simp only [Frame.catches, kt.fn, hfn]
        exact ⟨_, _, _, .one (step_lone_go (fr' := f.raise c') (cs' := fs' ++ base) (w' := w) (by rw [hst]; simp [unwind, hfd, hfm, hcat])), B, R, fs', rfl, hb, kh, ho, raise_rel kf hc, kr⟩
    · rename_i hm
      rw [hm] at hmode
      have hfm : fr.mode = .returning := hmode
      unfold returnO at e
      split at e
      · cases e
      · rename_i v hv
        obtain ⟨fn, v', r1, r2, r3⟩ := res_sound kh hslots kt.fn hv
        obtain ⟨fr', cs', q1, q2⟩ := returnA_sim (fr := fr) (base := base) kh hb ho kt.kindOk kt.kind kb r3 e
        exact ⟨fr', cs', w, .one (step_lone_go (by rw [hst]; simp only [unwind, hfd, hfm, r1, Sem.runT_eq, r2]; simpa using q1)), q2⟩

theorem step_sim [XT P] [XTOk P] (hmix : P.follows .mixedOrders = true) {m m' : AM} {fr : Frame} {cs : List Frame} {w : World} (k : Sim P w0 base m fr cs w) (e : stepA P m = some m') : Goes P w0 base m' fr cs w := by
  obtain ⟨af, rest, h⟩ := m
  obtain ⟨B, R, fs, rfl, hb, kh, ho, kt, kb⟩ := k
  change (match af.mode with | .run => execA P af rest h af.todo | _ => unwindA P af rest h) = some m' at e
  split at e
  · rename_i hrun
    have hp : Plain P w0 base B R af rest h fr fs w := ⟨kh, hb, ho, kt, hrun, kb⟩
    unfold execA at e
    split at e
    · rename_i hnil
      have htop : TodoRel P B R rest.length false h af.todo af.tmps fr.todo fr.tmps := by
        have := kt.top
        rw [hrun] at this; exact this
      rw [hnil] at htop
      obtain ⟨h1, hs⟩ := htop
      have hfr : fr.todo = [] := h1
      have hm := frun hp
      have hround := kt.round
      unfold leaveA at e
      split at e
      · rename_i hr
        rw [hr] at hround
        exact hp.ends hs e (step_lone_go (by simp [stepG, stepG.exec, hm, hfr, show fr.roundOf = none from hround]))
      · rename_i l hr
        refine leaveRound_sim hp hr e fun b hb => ?_
        simp only [stepG, stepG.exec, hm, hfr, hb, Sem.runT_eq]
        cases (Instr.endRound b none).run P w <;> simp
    · rename_i it kk hcons
      exact item_sim hmix hp hcons e
  · rename_i hr
    exact unwind_sim kh hb ho kt (fun hh => hr hh) kb e

/-- A run of the evaluator is a run of the model. -/
theorem run_sim [XT P] [XTOk P] (hmix : P.follows .mixedOrders = true) : ∀ (n : Nat) {m : AM} {fr : Frame} {cs : List Frame} {w : World} {v : AV} {f0 : FuncId}, Sim P w0 base m fr cs w → runA P f0 n m = some v →
    ∃ fr' w' R v', Steps P (lone fr cs w) (lone fr' base w') ∧ fr'.leaving P w' (.returned v') ∧ VRel R v v' ∧ OldX w0 w' ∧ fr'.fn = f0
  | 0, m, fr, cs, w, v, f0, k, e => by cases e
  | n + 1, m, fr, cs, w, v, f0, k, e => by
    unfold runA at e
    split at e
    · rename_i v' hd
      cases e
      obtain ⟨af, rest, h⟩ := m
      obtain ⟨B, R, fs, rfl, hb, kh, ho, kt, kb⟩ := k
      unfold doneA at hd
      simp only at hd
      split at hd
      · cases hd
      · split at hd
        · rename_i hmode
          split at hd
          · cases hd
          · rename_i hdef
            split at hd
            · rename_i hkind
              split at hd
              rotate_left
              · cases hd
              rename_i hf0
              have hfs : fs = [] := kb
              subst hfs
              have hs : Slots R af.tmps fr.tmps := by have := kt.top; rw [hmode] at this; exact this
              obtain ⟨fn, v', r1, r2, r3⟩ := res_sound kh hs kt.fn hd
              have hm : fr.mode = .returning := by have := kt.mode; rw [hmode] at this; exact this
              have hdf : fr.defers = [] := by have := kt.defers; rw [hdef] at this; exact this
              exact ⟨fr, w, R, v', Steps.refl _ _, ⟨hm, hdf, by rw [kt.kind, hkind], fn, r1, r2⟩, r3, ho.all hb kh, kt.fn.trans (Nat.eq_of_beq_eq_true hf0)⟩
            · cases hd
        · cases hd
    · split at e
      · cases e
      · rename_i m' hst
        obtain ⟨fr1, cs1, w1, s1, k1⟩ := step_sim hmix k hst
        obtain ⟨fr2, w2, R, v', s2, g⟩ := run_sim hmix n k1 e
        exact ⟨fr2, w2, R, v', s1.trans s2, g⟩

/-- What package variables hold. -/
def Globs (G : T (T AV)) (w : World) : Prop := ∀ g c, G.get g = some c → g < w.heap.size ∧ ∃ cs el fz, w.heap[g]? = some (.cells cs el fz) ∧ ∀ k v, c.get k = some v → ∃ x, cs[k]? = some x ∧ VRel (fun _ _ => none) v x

def Env.of (w : World) : Env := { w with own := fun _ => False, rob := fun _ => False, pin := fun _ _ => none }

def Base.of (w : World) : Base := ⟨Env.of w, fun _ => False, fun _ => none, fun _ => (0, 0)⟩

theorem HRel.start {P : Program} {G : T (T AV)} {w : World} (hG : Globs G w) : HRel P (Base.of w) (fun _ _ => none) ⟨.leaf, 0, G⟩ w where
  fresh _ _ _ := rfl
  obj i o e := by cases e
  pend i o e := by cases e
  place i r L e := by cases e
  rd i hi := hi.elim
  low b _ := rfl
  rp i hi := hi.elim
  rol i r L hi := hi.elim
  pin i r L e := by cases e
  apart i r i' r' L L' e := by cases e
  same i r r' L L' e := by cases e
  glob g c e := ⟨fun hm => hm.elim (fun hl => absurd (hG g c e).1 (Nat.not_lt.2 hl)) id, (hG g c e).2⟩

theorem Old0.start (w : World) : Old0 (Env.of w).toWorld w := ⟨rfl, rfl, rfl, Nat.le_refl _, Nat.le_refl _⟩

/-- A call that takes nothing and answers a bool. -/
theorem globA_calls [XT P] [XTOk P] (hmix : P.follows .mixedOrders = true) {G : T (T AV)} {n : Nat} {f : FuncId} (e : globA P G n f = true) (w : World) (hG : Globs G w) : Calls P f #[] w fun r w' => r = .returned (.bool true) ∧ Old w w' := by
  intro cs
  unfold globA at e
  split at e
  · cases e
  · rename_i m hst
    split at e
    · rename_i b hrun
      subst e
      unfold startA at hst
      split at hst
      · cases hst
      · rename_i a ha
        cases hst
        have hs : Sim P (Env.of w) cs ⟨a, [], ⟨.leaf, 0, G⟩⟩ (Frame.enter P f #[] .normal) cs w :=
          ⟨Base.of w, _, [], rfl, rfl, .start hG, .start w, enter_rel (as := []) ha rfl (.inl rfl), rfl⟩
        obtain ⟨fr', w', R, v', s1, s2, s3, s4, s5⟩ := run_sim hmix n hs hrun
        cases s3
        exact ⟨.returned (.bool true), w', fr', ⟨rfl, s4.old fun _ e => e⟩, s1, s5, s2⟩
    · cases e

theorem boolA_calls [XT P] [XTOk P] (hmix : P.follows .mixedOrders = true) {n : Nat} {f : FuncId} (e : boolA P n f = true) (w : World) : Calls P f #[] w fun r w' => r = .returned (.bool true) ∧ Old w w' :=
  globA_calls hmix (G := .leaf) e w fun g c h => (by cases h)

end

end Go.Proofs.Ytcdpmiebmhjmpaa.Ev
