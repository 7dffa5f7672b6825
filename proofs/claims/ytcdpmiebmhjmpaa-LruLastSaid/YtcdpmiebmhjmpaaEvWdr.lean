/- A step of the evaluator's machine is steps of the model's: ranges over functions. -/
import Derived.Test.YtcdpmiebmhjmpaaEvWd
namespace Go.Proofs.Ytcdpmiebmhjmpaa.Ev
open Go

section
variable {P : Program} {w0 : Env} {base : List Frame} {B : Base} {R : Bij} {af : AFrame} {rest : List AFrame} {h : AHeap} {fr : Frame} {fs : List Frame} {w : World}

theorem returnA_sim (kh : HRel P B R h w) (hb : B.env = w0) (ho : Old0 w0.toWorld w) (hk : af.kind = .normal ∨ af.kind = .deferred) (hkf : fr.kind = af.kind) (kb : StackRel P B R h rest fs) {v : AV} {v' : Value} (hv : VRel R v v') {m : AM} (e : returnA P af.kind rest h v = some m) :
    ∃ fr' cs', (doReturn P true fr (fs ++ base) none v' w).bare = .go { frame := fr', callers := cs', status := .running, dying := none } w ∧ Sim P w0 base m fr' cs' w := by
  cases rest with
  | nil => cases e
  | cons c r =>
    obtain ⟨f, fs', rfl, kf, kr⟩ := kb
    rcases hk with hk | hk
    · rw [hk] at hkf e
      change (match c.mode with | .run => topM r h (finishA P c h v) | _ => none) = some m at e
      split at e
      · rename_i hm
        obtain ⟨a, e1, rfl⟩ := topM_some e
        exact ⟨f.finish v', fs' ++ base, by simp [doReturn, hkf], B, R, fs', rfl, hb, kh, ho, finish_sound kf hm e1 hv, kr⟩
      · cases e
    · rw [hk] at hkf e
      change (match c.mode with | .run => none | _ => some ⟨settleA c, r, h⟩ : Option AM) = some m at e
      split at e
      · cases e
      · rename_i hm
        cases e
        obtain ⟨fn, n, t, td, ds, mode, kind, round⟩ := c
        obtain ⟨k1, k2, k3, k4, k5, k6, k7, k8, k9⟩ := kf
        cases mode with
        | run => exact absurd rfl hm
        | returning =>
          have hfm : f.mode = .returning := k7
          exact ⟨f, fs' ++ base, by simp [doReturn, hkf, hfm], B, R, fs', rfl, hb, kh, ho, ⟨k1, k2, k3, k4, k5, k6, k7, k8, k9⟩, kr⟩
        | panicking ch =>
          obtain ⟨ch', hfm, hc⟩ := k7
          cases ch with
          | nil =>
            cases hc
            exact ⟨f, fs' ++ base, by simp [doReturn, hkf, hfm], B, R, fs', rfl, hb, kh, ho, ⟨k1, k2, k3, k4, k5, k6, ⟨[], hfm, rfl⟩, k8, k9⟩, kr⟩
          | cons x older =>
            obtain ⟨x', older', rfl, hx, hold⟩ := hc
            obtain ⟨x1, x2⟩ := x
            obtain ⟨y1, y2, y3⟩ := x'
            obtain ⟨hx1, hx2, hx3⟩ := hx
            simp only at hx2 hx3
            subst hx2 hx3
            cases y2 with
            | false => exact ⟨f, fs' ++ base, by simp [doReturn, hkf, hfm], B, R, fs', rfl, hb, kh, ho, ⟨k1, k2, k3, k4, k5, k6, ⟨_, hfm, _, _, rfl, ⟨hx1, rfl, rfl⟩, hold⟩, k8, k9⟩, kr⟩
            | true =>
              have hdrop : ∀ {o : List (AV × Bool)} {o' : List PanicEntry}, All2 (EntRel R) o o' → o'.dropWhile (fun e => !e.goexit) = [] := by
                intro o
                induction o with
                | nil => intro o' h; cases h; rfl
                | cons a o ih =>
                  intro o' h
                  obtain ⟨b, bs, rfl, h1, h2⟩ := h
                  rw [List.dropWhile_cons, if_pos (by rw [h1.2.2]; rfl)]
                  exact ih h2
              exact ⟨{ f with mode := .returning }, fs' ++ base, by simp [doReturn, hkf, hfm, hdrop hold], B, R, fs', rfl, hb, kh, ho, ⟨k1, k2, k3, k4, k5, k6, rfl, k8, k9⟩, kr⟩

/-- A loop that is there. -/
theorem loop_at (k : HRel P B R h w) {l : Nat} {lp : ALoop} (e : h.get l = some (.loop lp)) {L : Loc} (hL : R l 0 = some L) : ∃ lp', w.heap[L.block]? = some (.loop lp') ∧ LoopRel R lp lp' := by
  obtain ⟨L', lp', h1, h2, h3⟩ := k.obj' hL e
  rw [hL] at h1; cases h1
  exact ⟨lp', h2, h3⟩

theorem run_getLoop {b : Nat} {lp : Loop} (e : w.heap[b]? = some (.loop lp)) : (Instr.getLoop b).run P w = .ok lp w := by
  simp [Instr.getLoop, getObj, Sem.run, e]

theorem run_setLoop {b : Nat} {lp lp' : Loop} (e : w.heap[b]? = some (.loop lp)) : (setObj b (.loop lp')).run P w = .ok () (setBlk w b (.loop lp')) := run_setObj P e (by simp)

theorem put_loop (k : HRel P B R h w) {l : Nat} {L : Loc} (hL : R l 0 = some L) (hnr : ¬ B.ro l) {lp : ALoop} {lp' : Loop} (hr : LoopRel R lp lp') :
    HRel P B R (h.put l (.loop lp)) (setBlk w L.block (.loop lp')) ∧ Keeps R w R (setBlk w L.block (.loop lp')) :=
  put_other k hL hnr _ _ ⟨L, lp', hL, setBlk_self w _ _ (k.place _ _ _ hL).2, hr⟩

theorem loopOf_some {l : Nat} {lp : ALoop} (e : loopOf h l = some lp) : h.get l = some (.loop lp) := by
  unfold loopOf at e
  split at e
  · cases e; assumption
  · cases e

theorem dfrdOf_some {l : Nat} {ds : List ADef} (e : dfrdOf h l = some ds) : h.get l = some (.dfrd (some ds)) := by
  unfold dfrdOf at e
  split at e
  · cases e; assumption
  · cases e

/-- A round ends. -/
theorem leaveRound_sim (k : Plain P w0 base B R af rest h fr fs w) {l : Nat} (hl : af.round = some l) {jump : Option Code} {m : AM} (e : leaveRound P af.kind rest h l jump = some m)
    (hst : ∀ b, fr.roundOf = some b → (stepG P true { frame := fr, callers := fs ++ base, status := .running, dying := none } w).bare = (match (Instr.endRound b jump).run P w with
      | .ok v w => (doReturn P true fr (fs ++ base) none v w).bare
      | .halt _ w => (GStep.ended (.stuck "range over a function: no such loop" (fr.pos P)) w).bare)) : Goes P w0 base m fr (fs ++ base) w := by
  have hround := k.top.round
  rw [hl] at hround
  obtain ⟨L, hL, hfl⟩ := hround
  have hst := hst _ hfl
  unfold leaveRound at e
  split at e
  · rename_i lp ho
    obtain ⟨lp', g1, g2⟩ := loop_at k.heap ho hL
    obtain ⟨st, pe, fn, n, t, ps, asg, body, df⟩ := lp
    simp only at e
    obtain ⟨g3, g4⟩ := put_loop k.heap hL (k.heap.notRo ho rfl) (lp := ⟨if jump.isNone then .ready else .done, jump, fn, n, t, ps, asg, body, df⟩) (lp' := { lp' with state := if jump.isNone then .ready else .done, pending := jump })
      ⟨rfl, rfl, g2.fn, g2.tmps, g2.params, g2.assign, g2.body, g2.defers⟩
    have hrun : (Instr.endRound L.block jump).run P w = .ok (.bool jump.isNone) (setBlk w L.block (.loop { lp' with state := if jump.isNone then .ready else .done, pending := jump })) := by
      simp only [Instr.endRound, Sem.run_bind, run_getLoop g1, Result.andThen_ok, run_setLoop g1, Sem.run_pure]
    rw [hrun] at hst
    simp only at hst
    obtain ⟨fr', cs', q1, q2⟩ := returnA_sim (fr := fr) (base := base) (v' := .bool jump.isNone) g3 k.base (k.old.keeps k.base k.heap g4) k.top.kindOk k.top.kind (k.below.mono (h' := h.put l (.loop ⟨if jump.isNone then .ready else .done, jump, fn, n, t, ps, asg, body, df⟩)) g4.le (B.keeps_refl (rest.length)) (Nat.le_refl _)) (v := .bool jump.isNone) rfl e
    exact ⟨fr', cs', _, .one (step_lone_go (hst.trans q1)), q2⟩
  · cases e

theorem roundTree_slots : ∀ {ps : List Tmp} {args : List AV} {as : List Value} {t : T AV} {a : Array Value}, Slots R t a → VRels R args as → (∀ p ∈ ps, p < a.size) → args.length = ps.length →
    Slots R (roundTree ps args t) ((ps.zip as).foldl (fun x (p : Tmp × Value) => x.setIfInBounds p.1 p.2) a) ∧ ((ps.zip as).foldl (fun x (p : Tmp × Value) => x.setIfInBounds p.1 p.2) a).size = a.size
  | [], args, as, t, a, hs, _, _, _ => by simpa [roundTree] using hs
  | p :: ps, [], as, t, a, hs, _, _, hl => by simp at hl
  | p :: ps, x :: args, as, t, a, hs, hv, hp, hl => by
    obtain ⟨y, ys, rfl, h1, h2⟩ := hv
    have hp0 := hp p List.mem_cons_self
    have hs' : Slots R (t.set (some x) p) (a.setIfInBounds p y) := by
      intro u v e
      rw [T.get_set] at e
      rw [Array.getElem?_setIfInBounds]
      by_cases hu : u = p
      · subst hu
        rw [if_pos rfl] at e; cases e
        rw [if_pos rfl, if_pos hp0]
        exact ⟨y, rfl, h1⟩
      · rw [if_neg hu] at e
        rw [if_neg (fun q => hu q.symm)]
        exact hs u v e
    obtain ⟨g1, g2⟩ := roundTree_slots (ps := ps) hs' h2 (fun q hq => by rw [Array.size_setIfInBounds]; exact hp q (List.mem_cons_of_mem _ hq)) (by simpa using hl)
    exact ⟨g1, by rw [List.zip_cons_cons, List.foldl_cons]; exact g2.trans (Array.size_setIfInBounds ..)⟩

/-- A round begins. -/
theorem round_sim (k : Wait P w0 base B R af rest h fr fs w) {s : Sem Next} {i : Nat} {args : List AV} {m : AM} (hop : OpRel P B R w s (.round i args))
    (hst : (stepG P true { frame := fr, callers := fs ++ base, status := .running, dying := none } w).bare = (stepG.apply P true fr (fs ++ base) none s w).bare) (e : roundA P af rest h i args = some m) : Goes P w0 base m fr (fs ++ base) w := by
  obtain ⟨L, as, hL, hv, hrun⟩ := hop
  unfold roundA at e
  split at e
  · rename_i lp ho
    obtain ⟨lp', g1, g2⟩ := loop_at k.heap ho hL
    obtain ⟨st, pe, fn, n, t, ps, asg, body, df⟩ := lp
    simp only at e
    split at e
    · rename_i hc
      obtain ⟨c1, c2, c3⟩ := hc
      cases e
      obtain ⟨a1, a2⟩ := g2.tmps
      simp only at a1 a2
      have hps : lp'.params = ps := g2.params
      have hall : ∀ p ∈ ps.toList, p < lp'.tmps.size := fun p hp => by
        rw [List.all_eq_true] at c2
        rw [a1]; exact of_decide_eq_true (c2 p hp)
      obtain ⟨s1, s2⟩ := roundTree_slots (R := R) (ps := ps.toList) (a := lp'.tmps) a2 hv hall (by simpa using c1)
      have hlen : ¬ as.toArray.size ≠ lp'.params.size := by rw [hps, List.size_toArray, hv.length, c1]; exact fun hh => hh rfl
      have hy : (Instr.yield L.block as.toArray).run P w = .ok (.round L.block lp'.fn ((ps.toList.zip as).foldl (fun x (p : Tmp × Value) => x.setIfInBounds p.1 p.2) lp'.tmps) lp'.assign lp'.body) w := by
        simp only [Instr.yield, Sem.run_bind, run_getLoop g1, Result.andThen_ok, hlen, if_false, Sem.run_pure]
        rw [hps, ← Array.foldl_toList, Array.toList_zip]
      refine ⟨_, _, _, .one (step_lone_go (fr' := Frame.round L.block lp'.fn ((ps.toList.zip as).foldl (fun x (p : Tmp × Value) => x.setIfInBounds p.1 p.2) lp'.tmps) lp'.assign lp'.body .normal) (cs' := fr :: (fs ++ base)) (w' := w) ?_), B, R, fr :: fs, rfl, k.base, k.heap, k.old, ?_, fr, fs, rfl, k.top, k.below⟩
      · rw [hst]
        simp [stepG.apply, Sem.runT_eq, hrun, hy]
      · refine ⟨g2.fn, ?_, rfl, .inl rfl, ⟨L, hL, rfl⟩, rfl, rfl, s2.trans a1, ⟨_, _, rfl, ?_, _, _, rfl, rfl, _, _, rfl, ?_, rfl⟩, s1⟩
        · obtain ⟨f, hf⟩ := Option.isSome_iff_exists.1 c3
          exact ⟨f, hf⟩
        · show Item.code lp'.assign = Item.code asg
          rw [show lp'.assign = asg from g2.assign]
        · show Item.code lp'.body = Item.code body
          rw [show lp'.body = body from g2.body]
    · cases e
  · cases e

/-- The body may begin. -/
theorem begin_sim (k : Plain P w0 base B R af rest h fr fs w) (hs : Slots R af.tmps fr.tmps) {kk : List AItem} {kk' : List Item} (hfr : fr.todo = .beginRound :: kk') (hk : All2 (ItemRel R) kk kk')
    {m : AM} (e : beginA af rest h kk = some m) : Goes P w0 base m fr (fs ++ base) w := by
  have hm := frun k
  have hround := k.top.round
  unfold beginA at e
  split at e
  · cases e
  · rename_i l hl
    rw [hl] at hround
    obtain ⟨L, hL, hfl⟩ := hround
    split at e
    · cases e
    · rename_i st pe fn n t ps asg body df ho
      obtain ⟨lp', g1, g2⟩ := loop_at k.heap (loopOf_some ho) hL
      split at e
      · cases e
        obtain ⟨g3, g4⟩ := put_loop k.heap hL (k.heap.notRo (loopOf_some ho) rfl) (lp := ⟨.busy, pe, fn, n, t, ps, asg, body, df⟩) (lp' := { lp' with state := .busy })
          ⟨rfl, g2.pending, g2.fn, g2.tmps, g2.params, g2.assign, g2.body, g2.defers⟩
        have hrun : (Instr.beginRound L.block).run P w = .ok () (setBlk w L.block (.loop { lp' with state := .busy })) := by
          simp only [Instr.beginRound, Sem.run_bind, run_getLoop g1, Result.andThen_ok, run_setLoop g1, show lp'.state = .ready from g2.state, Sem.run_pure]
        refine ⟨_, _, _, .one (step_lone_go (fr' := { fr with todo := kk' }) (cs' := fs ++ base) (w' := setBlk w L.block (.loop { lp' with state := .busy })) ?_), B, R, fs, rfl, k.base, g3, k.old.keeps k.base k.heap g4, ?_, k.below.mono g4.le (B.keeps_refl (rest.length)) (Nat.le_refl _)⟩
        · simp [stepG, stepG.exec, hm, hfr, hfl, stepG.apply, Sem.runT_eq, hrun, Frame.finish]
        · obtain ⟨k1, k2, k3, k4, k5, k6, k7, k8, k9⟩ := k.top
          have hrm := k.run
          obtain ⟨fn, n, t, td, ds, mode, kind, round⟩ := af
          simp only at hrm; subst hrm
          exact ⟨k1, k2, k3, k4, k5, k6, k7, k8, todo_plain hk hs⟩
      · cases e

/-- The loop is over. -/
theorem endRange_sim (k : Plain P w0 base B R af rest h fr fs w) (hs : Slots R af.tmps fr.tmps) {l : Nat} {L : Loc} (hL : R l 0 = some L) {kk : List AItem} {kk' : List Item} (hfr : fr.todo = .endRangeFunc L.block :: kk') (hk : All2 (ItemRel R) kk kk')
    {m : AM} (e : endRangeA af rest h l kk = some m) : Goes P w0 base m fr (fs ++ base) w := by
  have hm := frun k
  unfold endRangeA at e
  split at e
  · cases e
  · rename_i st pe fn n t ps asg body df ho
    obtain ⟨lp', g1, g2⟩ := loop_at k.heap (loopOf_some ho) hL
    split at e
    · cases e
    · rename_i hbusy
      cases e
      obtain ⟨g3, g4⟩ := put_loop k.heap hL (k.heap.notRo (loopOf_some ho) rfl) (lp := ⟨.exhausted, pe, fn, n, t, ps, asg, body, df⟩) (lp' := { lp' with state := .exhausted })
        ⟨rfl, g2.pending, g2.fn, g2.tmps, g2.params, g2.assign, g2.body, g2.defers⟩
      have hst : lp'.state = st := g2.state
      have hpe : lp'.pending = pe := g2.pending
      have hnb : (lp'.state == LoopState.busy) = false := by
        rw [hst]
        cases st <;> first | rfl | exact absurd rfl hbusy
      have hrun : (Instr.endLoop L.block).run P w = .ok pe (setBlk w L.block (.loop { lp' with state := .exhausted })) := by
        simp only [Instr.endLoop, Sem.run_bind, run_getLoop g1, Result.andThen_ok, hnb, Bool.false_eq_true, if_false, Sem.run_pure, run_setLoop g1, hpe]
      refine ⟨_, _, _, .one (step_lone_go (fr' := { fr with todo := (pe.map Item.code).toList ++ kk' }) (cs' := fs ++ base) (w' := setBlk w L.block (.loop { lp' with state := .exhausted })) ?_), B, R, fs, rfl, k.base, g3, k.old.keeps k.base k.heap g4, ?_, k.below.mono g4.le (B.keeps_refl (rest.length)) (Nat.le_refl _)⟩
      · simp [stepG, stepG.exec, hm, hfr, Sem.runT_eq, hrun]
      · obtain ⟨k1, k2, k3, k4, k5, k6, k7, k8, k9⟩ := k.top
        have hrm := k.run
        obtain ⟨fn, n, t, td, ds, mode, kind, round⟩ := af
        simp only at hrm; subst hrm
        refine ⟨k1, k2, k3, k4, k5, k6, k7, k8, todo_plain ?_ hs⟩
        cases pe with
        | none => exact hk
        | some c => exact ⟨_, _, rfl, rfl, hk⟩

/-- A range over a function begins. -/
theorem rangeFunc_sim (k : Plain P w0 base B R af rest h fr fs w) (hs : Slots R af.tmps fr.tmps) {f : Operand} {params : Array Tmp} {assign body : Code} {kk : List AItem} {kk' : List Item} (hfr : fr.todo = .code (.rangeFunc f params assign body) :: kk') (hk : All2 (ItemRel R) kk kk')
    {m : AM} (e : rangeFuncA P af rest h params assign body kk (ev af.tmps f) = some m) : Goes P w0 base m fr (fs ++ base) w := by
  have hm := frun k
  have hroom : B.n ≤ w.heap.size := by show B.env.heap.size ≤ _; rw [k.base]; exact k.old.size
  unfold rangeFuncA at e
  split at e
  · cases e
  · rename_i fv hf
    have hfv : VRel R fv (fr.eval f) := ev_eval (R := R) (fun u _ hu => hs u _ hu) hf
    split at e
    · cases e
    · rename_i d h1 mark hmark
      -- where deferred calls are kept
      have first : ∃ (R1 : Bij) (w1 : World) (Ld : Loc) (mark' : List Deferred), HRel P B R1 h1 w1 ∧ Keeps R w R1 w1 ∧ R1 d 0 = some Ld ∧ All2 (DefRel R1) mark mark' ∧
          (Instr.enterLoop fr.fn fr.tmps params assign body fr.roundOf).run P w = .ok (w1.heap.size, mark') (w1.alloc (.loop { state := .ready, pending := none, fn := fr.fn, tmps := fr.tmps, params, assign, body, defers := Ld.block })) := by
        have hround := k.top.round
        unfold markA at hmark
        split at hmark
        · rename_i l hl
          rw [hl] at hround
          obtain ⟨L, hL, hfl⟩ := hround
          split at hmark
          · cases hmark
          · rename_i lp ho
            cases hmark
            obtain ⟨lp', g1, g2⟩ := loop_at k.heap (loopOf_some ho) hL
            obtain ⟨Ld, d1, d2⟩ := g2.defers
            refine ⟨R, w, Ld, [], k.heap, Keeps.refl _ _, d1, rfl, ?_⟩
            simp only [Instr.enterLoop, hfl, Sem.run_bind, run_getLoop g1, Result.andThen_ok, Sem.run_pure, run_newObj, World.alloc_eq, d2]
        · rename_i hl
          rw [hl] at hround
          cases hmark
          obtain ⟨g1, g2⟩ := new_other k.heap hroom (.dfrd (some [])) (.deferred (some [])) (fun R' _ e => ⟨_, some [], e, heap_alloc_new w _, [], rfl, rfl⟩)
          refine ⟨_, _, ⟨w.heap.size, 0, 0⟩, [{ target := .collected w.heap.size, args := #[] }], g1, g2, R.upd_same _ _ _, ⟨_, [], rfl, ⟨⟨_, R.upd_same _ _ _, rfl⟩, rfl⟩, rfl⟩, ?_⟩
          simp only [Instr.enterLoop, show fr.roundOf = none from hround, Sem.run_bind, run_newObj, World.alloc_eq, Result.andThen_ok, Sem.run_pure]
      obtain ⟨R1, w1, Ld, mark', p1, p2, p3, p4, p5⟩ := first
      have hroom1 : B.n ≤ w1.heap.size := Nat.le_trans hroom p2.size
      obtain ⟨k1, k2, k3, k4, k5, k6, k7, k8, k9⟩ := k.top
      -- the loop
      obtain ⟨q1, q2⟩ := new_other p1 hroom1 (.loop ⟨.ready, none, af.fn, af.n, af.tmps, params, assign, body, d⟩) (.loop { state := .ready, pending := none, fn := fr.fn, tmps := fr.tmps, params, assign, body, defers := Ld.block })
        (fun R' hle e => ⟨_, _, e, heap_alloc_new w1 _, ⟨rfl, rfl, k1, ⟨k8, (hs.mono p2.le).mono hle⟩, rfl, rfl, rfl, ⟨Ld, hle _ _ _ p3, rfl⟩⟩⟩)
      have hyl : R1.upd h1.next 0 ⟨w1.heap.size, 0, 0⟩ h1.next 0 = some ⟨w1.heap.size, 0, 0⟩ := R1.upd_same _ _ _
      have hkeep := p2.trans q2
      have hroom2 : B.n ≤ (w1.alloc (.loop { state := .ready, pending := none, fn := fr.fn, tmps := fr.tmps, params, assign, body, defers := Ld.block })).heap.size := Nat.le_trans hroom1 q2.size
      unfold rangeFn rangeEnter at e
      split at e
      · rename_i g args h3 hcall
        obtain ⟨as, r1, r2, r3⟩ := callV_sound (f' := fr.eval f) (args' := [.func (.yield w1.heap.size) #[] #[]]) q1 hroom2 hcall (VRel.mono hkeep.le _ _ hfv) (.cons ⟨_, hyl, rfl⟩ .nil)
        have hres : (do let d ← resolve fr.eval { callee := .value f, args := #[.const (.func (.yield w1.heap.size) #[] #[])], argTypes := #[] } 0; invoke d.target d.args : Sem Next).run P (w1.alloc (.loop { state := .ready, pending := none, fn := fr.fn, tmps := fr.tmps, params, assign, body, defers := Ld.block })) = .ok (.enter g as.toArray) (w1.alloc (.loop { state := .ready, pending := none, fn := fr.fn, tmps := fr.tmps, params, assign, body, defers := Ld.block })) := by
          refine (congrArg (fun q : Sem Next => q.run P _) ?_).trans r1
          show (do let d ← Deferred.ofValue (fr.eval f) ((#[Operand.const (.func (.yield w1.heap.size) #[] #[])] : Array Operand).map fr.eval); invoke d.target d.args : Sem Next) = _
          rw [map_toArray fr.eval]
          rfl
        have hm' := k.run
        obtain ⟨fn, n, t, td, ds, mode, kind, round⟩ := af
        simp only at hm' e; subst hm'
        obtain ⟨a, e1, rfl⟩ := topM_some e
        refine ⟨_, _, _, .one (step_lone_go (fr' := Frame.enter P g as.toArray .normal) (cs' := { fr with todo := .inRangeFunc w1.heap.size :: kk', defers := mark' ++ fr.defers } :: (fs ++ base)) (w' := w1.alloc (.loop { state := .ready, pending := none, fn := fr.fn, tmps := fr.tmps, params, assign, body, defers := Ld.block })) ?_),
          B, _, { fr with todo := .inRangeFunc w1.heap.size :: kk', defers := mark' ++ fr.defers } :: fs, rfl, k.base, r3, k.old.keeps k.base k.heap hkeep, enter_rel e1 r2 (.inl rfl), _, _, rfl, ?_, k.below.mono hkeep.le (B.keeps_refl (rest.length)) (Nat.le_refl _)⟩
        · have happ : (stepG.apply P true { fr with todo := .inRangeFunc w1.heap.size :: kk', defers := mark' ++ fr.defers } (fs ++ base) none (do let d ← resolve fr.eval { callee := .value f, args := #[.const (.func (.yield w1.heap.size) #[] #[])], argTypes := #[] } 0; invoke d.target d.args)
              (w1.alloc (.loop { state := .ready, pending := none, fn := fr.fn, tmps := fr.tmps, params, assign, body, defers := Ld.block }))).bare = .go { frame := Frame.enter P g as.toArray .normal, callers := { fr with todo := .inRangeFunc w1.heap.size :: kk', defers := mark' ++ fr.defers } :: (fs ++ base), status := .running, dying := none }
              (w1.alloc (.loop { state := .ready, pending := none, fn := fr.fn, tmps := fr.tmps, params, assign, body, defers := Ld.block })) := by
            simp only [stepG.apply, Sem.runT_eq, hres]
            simp
          refine Eq.trans ?_ happ
          simp only [stepG, stepG.exec, hm, hfr, Sem.runT_eq, p5, GStep.bare_after]
          rfl
        · refine ⟨k1, k2, k3, k4, k5.mono hkeep.le, (p4.mono fun _ _ q => q.mono q2.le).append (k6.mono fun _ _ q => q.mono hkeep.le), k7, k8, todo_plain (P := P) (B := B) (d := rest.length) (sus := true) (h := h3) (k := .inRange h1.next :: kk) (k' := .inRangeFunc w1.heap.size :: kk') ⟨_, _, rfl, ⟨_, hyl, rfl⟩, hk.mono fun _ _ q => q.mono hkeep.le⟩ (hs.mono hkeep.le)⟩
      · cases e

/-- The calls that rounds deferred. -/
theorem collected_sim (kh : HRel P B R h w) (hb : B.env = w0) (ho : Old0 w0.toWorld w) (kt : FrameRel P B R rest.length false h af fr) (hr : af.mode ≠ .run) (kb : StackRel P B R h rest fs) (hslots : Slots R af.tmps fr.tmps) {id : Nat} {args : List AV} {ds : List ADef} (hdef : af.defers = ⟨.collected id, args⟩ :: ds)
    (hst : stepG P true { frame := fr, callers := fs ++ base, status := .running, dying := none } w = unwind P true fr (fs ++ base) none w) {cs : List ADef} (hcs : dfrdOf h id = some cs) {m : AM} (e : (some ⟨af.withDefers (cs ++ ds), rest, h.put id (.dfrd none)⟩ : Option AM) = some m) : Goes P w0 base m fr (fs ++ base) w := by
  cases e
  have hd := kt.defers
  rw [hdef] at hd
  obtain ⟨d', ds', hfd, hd1, hd2⟩ := hd
  obtain ⟨L, hL, htg⟩ := hd1.1
  obtain ⟨tg, as⟩ := d'
  simp only at htg; subst htg
  obtain ⟨L', ds0, g1, g2, g3⟩ := kh.obj' hL (dfrdOf_some hcs)
  rw [hL] at g1; cases g1
  obtain ⟨l, rfl, g4⟩ := g3
  obtain ⟨g5, g6⟩ := put_other kh hL (kh.notRo (dfrdOf_some hcs) rfl) (.dfrd none) (.deferred none) ⟨L, none, hL, setBlk_self w _ _ (kh.place _ _ _ hL).2, rfl⟩
  have hrun : (Instr.takeDeferred L.block).run P w = .ok l (setBlk w L.block (.deferred none)) := by
    have hg : (getObj L.block).run P w = .ok (.deferred (some l)) w := by simp [getObj, Sem.run, g2]
    simp only [Instr.takeDeferred, Sem.run_bind, hg, Result.andThen_ok, run_setObj P (ob := .deferred none) g2 (by simp), Sem.run_pure]
  refine ⟨_, _, _, .one (step_lone_go (fr' := { fr with defers := l ++ ds' }) (cs' := fs ++ base) (w' := setBlk w L.block (.deferred none)) ?_), B, R, fs, rfl, hb, g5, ho.keeps hb kh g6, ?_, kb.mono g6.le (B.keeps_refl (rest.length)) (Nat.le_refl _)⟩
  · rw [hst]
    simp [unwind, hfd, Sem.runT_eq, hrun]
  · obtain ⟨k1, k2, k3, k4, k5, k6, k7, k8, k9⟩ := kt
    obtain ⟨fn, n, t, td, ds1, mode, kind, round⟩ := af
    cases mode with
    | run => exact absurd rfl hr
    | returning => exact ⟨k1, k2, k3, k4, k5, g4.append hd2, k7, k8, hslots⟩
    | panicking c => exact ⟨k1, k2, k3, k4, k5, g4.append hd2, k7, k8, hslots⟩

end

end Go.Proofs.Ytcdpmiebmhjmpaa.Ev
