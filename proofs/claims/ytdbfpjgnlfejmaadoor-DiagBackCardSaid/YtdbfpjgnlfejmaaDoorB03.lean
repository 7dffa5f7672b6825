import Derived.WalkKit
import Derived.ProofKit
import Derived.OpenShut
import Derived.Test.YtdbfpjgnlfejmaaDoorB00
import Derived.Test.YtdbfpjgnlfejmaaDoorB01
import Derived.Test.YtdbfpjgnlfejmaaDoorB02
section
namespace Go.Proofs.YtdbfpjgnlfejmaaDoor.Ev
open Go
section
variable {P : Program} {w0 : Env} {base : List Frame} {B : Base} {R : Bij} {af : AFrame} {rest : List AFrame} {h : AHeap} {fr : Frame} {fs : List Frame} {w : World}
theorem returnA_sim (kh : HRel P B R h w) (hb : B.env = w0) (ho : Old0 w0.toWorld w) (hk : af.kind = .normal ∨ af.kind = .deferred) (hkf : fr.kind = af.kind) (kb : StackRel P B R h rest fs) {v : AV} {v' : Value} (hv : VRel R v v') {m : AM} (e : returnA P af.kind rest h v = some m) :
    ∃ fr' cs', (doReturn P true fr (fs ++ base) none v' w).bare = .go { frame := fr', callers := cs', status := .running, dying := none } w ∧ Sim P w0 base m fr' cs' w := by
  cases rest with
  | nil => cases e
  | cons c r =>
    obtain ⟨f, fs', rfl, kf, kr⟩ := kb
    rcases hk with hk | hk
    · rw [hk] at hkf e
      change (match c.mode with | .run => topM r h (finishA P c h v) | _ => none) = some m at e
      split at e
      · rename_i hm
        obtain ⟨a, e1, rfl⟩ := topM_some e
        exact ⟨f.finish v', fs' ++ base, by simp [doReturn, hkf], B, R, fs', rfl, hb, kh, ho, finish_sound kf hm e1 hv, kr⟩
      · cases e
    · rw [hk] at hkf e
      change (match c.mode with | .run => none | _ => some ⟨settleA c, r, h⟩ : Option AM) = some m at e
      split at e
      · cases e
      · rename_i hm
        cases e
        obtain ⟨fn, n, t, td, ds, mode, kind, round⟩ := c
        obtain ⟨k1, k2, k3, k4, k5, k6, k7, k8, k9⟩ := kf
        cases mode with
        | run => exact absurd rfl hm
        | returning =>
          have hfm : f.mode = .returning := k7
          exact ⟨f, fs' ++ base, by simp [doReturn, hkf, hfm], B, R, fs', rfl, hb, kh, ho, ⟨k1, k2, k3, k4, k5, k6, k7, k8, k9⟩, kr⟩
        | panicking ch =>
          obtain ⟨ch', hfm, hc⟩ := k7
          cases ch with
          | nil =>
            cases hc
            exact ⟨f, fs' ++ base, by simp [doReturn, hkf, hfm], B, R, fs', rfl, hb, kh, ho, ⟨k1, k2, k3, k4, k5, k6, ⟨[], hfm, rfl⟩, k8, k9⟩, kr⟩
          | cons x older =>
            obtain ⟨x', older', rfl, hx, hold⟩ := hc
            obtain ⟨x1, x2⟩ := x
            obtain ⟨y1, y2, y3⟩ := x'
            obtain ⟨hx1, hx2, hx3⟩ := hx
            simp only at hx2 hx3
            subst hx2 hx3
            cases y2 with
            | false => exact ⟨f, fs' ++ base, by simp [doReturn, hkf, hfm], B, R, fs', rfl, hb, kh, ho, ⟨k1, k2, k3, k4, k5, k6, ⟨_, hfm, _, _, rfl, ⟨hx1, rfl, rfl⟩, hold⟩, k8, k9⟩, kr⟩
            | true =>
              have hdrop : ∀ {o : List (AV × Bool)} {o' : List PanicEntry}, All2 (EntRel R) o o' → o'.dropWhile (fun e => !e.goexit) = [] := by
                intro o
                induction o with
                | nil => intro o' h; cases h; rfl
                | cons a o ih =>
                  intro o' h
                  obtain ⟨b, bs, rfl, h1, h2⟩ := h
                  rw [List.dropWhile_cons, if_pos (by rw [h1.2.2]; rfl)]
                  exact ih h2
              exact ⟨{ f with mode := .returning }, fs' ++ base, by simp [doReturn, hkf, hfm, hdrop hold], B, R, fs', rfl, hb, kh, ho, ⟨k1, k2, k3, k4, k5, k6, rfl, k8, k9⟩, kr⟩
theorem loop_at (k : HRel P B R h w) {l : Nat} {lp : ALoop} (e : h.get l = some (.loop lp)) {L : Loc} (hL : R l 0 = some L) : ∃ lp', w.heap[L.block]? = some (.loop lp') ∧ LoopRel R lp lp' := by
  obtain ⟨L', lp', h1, h2, h3⟩ := k.obj' hL e
  rw [hL] at h1; cases h1
  exact ⟨lp', h2, h3⟩
theorem run_getLoop {b : Nat} {lp : Loop} (e : w.heap[b]? = some (.loop lp)) : (Instr.getLoop b).run P w = .ok lp w := by
  simp [Instr.getLoop, getObj, Sem.run, e]
theorem run_setLoop {b : Nat} {lp lp' : Loop} (e : w.heap[b]? = some (.loop lp)) : (setObj b (.loop lp')).run P w = .ok () (setBlk w b (.loop lp')) := run_setObj P e (by simp)
theorem put_loop (k : HRel P B R h w) {l : Nat} {L : Loc} (hL : R l 0 = some L) (hnr : ¬ B.ro l) {lp : ALoop} {lp' : Loop} (hr : LoopRel R lp lp') :
    HRel P B R (h.put l (.loop lp)) (setBlk w L.block (.loop lp')) ∧ Keeps R w R (setBlk w L.block (.loop lp')) :=
  put_other k hL hnr _ _ ⟨L, lp', hL, setBlk_self w _ _ (k.place _ _ _ hL).2, hr⟩
theorem loopOf_some {l : Nat} {lp : ALoop} (e : loopOf h l = some lp) : h.get l = some (.loop lp) := by
  unfold loopOf at e
  split at e
  · cases e; assumption
  · cases e
theorem dfrdOf_some {l : Nat} {ds : List ADef} (e : dfrdOf h l = some ds) : h.get l = some (.dfrd (some ds)) := by
  unfold dfrdOf at e
  split at e
  · cases e; assumption
  · cases e
theorem leaveRound_sim (k : Plain P w0 base B R af rest h fr fs w) {l : Nat} (hl : af.round = some l) {jump : Option Code} {m : AM} (e : leaveRound P af.kind rest h l jump = some m)
    (hst : ∀ b, fr.roundOf = some b → (stepG P true { frame := fr, callers := fs ++ base, status := .running, dying := none } w).bare = (match (Instr.endRound b jump).run P w with
      | .ok v w => (doReturn P true fr (fs ++ base) none v w).bare
      | .halt _ w => (GStep.ended (.stuck "range over a function: no such loop" (fr.pos P)) w).bare)) : Goes P w0 base m fr (fs ++ base) w := by
  have hround := k.top.round
  rw [hl] at hround
  obtain ⟨L, hL, hfl⟩ := hround
  have hst := hst _ hfl
  unfold leaveRound at e
  split at e
  · rename_i lp ho
    obtain ⟨lp', g1, g2⟩ := loop_at k.heap ho hL
    obtain ⟨st, pe, fn, n, t, ps, asg, body, df⟩ := lp
    simp only at e
    obtain ⟨g3, g4⟩ := put_loop k.heap hL (k.heap.notRo ho rfl) (lp := ⟨if jump.isNone then .ready else .done, jump, fn, n, t, ps, asg, body, df⟩) (lp' := { lp' with state := if jump.isNone then .ready else .done, pending := jump })
      ⟨rfl, rfl, g2.fn, g2.tmps, g2.params, g2.assign, g2.body, g2.defers⟩
    have hrun : (Instr.endRound L.block jump).run P w = .ok (.bool jump.isNone) (setBlk w L.block (.loop { lp' with state := if jump.isNone then .ready else .done, pending := jump })) := by
      simp only [Instr.endRound, Sem.run_bind, run_getLoop g1, Result.andThen_ok, run_setLoop g1, Sem.run_pure]
    rw [hrun] at hst
    simp only at hst
    obtain ⟨fr', cs', q1, q2⟩ := returnA_sim (fr := fr) (base := base) (v' := .bool jump.isNone) g3 k.base (k.old.keeps k.base k.heap g4) k.top.kindOk k.top.kind (k.below.mono (h' := h.put l (.loop ⟨if jump.isNone then .ready else .done, jump, fn, n, t, ps, asg, body, df⟩)) g4.le (B.keeps_refl (rest.length)) (Nat.le_refl _)) (v := .bool jump.isNone) rfl e
    exact ⟨fr', cs', _, .one (step_lone_go (hst.trans q1)), q2⟩
  · cases e
theorem roundTree_slots : ∀ {ps : List Tmp} {args : List AV} {as : List Value} {t : T AV} {a : Array Value}, Slots R t a → VRels R args as → (∀ p ∈ ps, p < a.size) → args.length = ps.length →
    Slots R (roundTree ps args t) ((ps.zip as).foldl (fun x (p : Tmp × Value) => x.setIfInBounds p.1 p.2) a) ∧ ((ps.zip as).foldl (fun x (p : Tmp × Value) => x.setIfInBounds p.1 p.2) a).size = a.size
  | [], args, as, t, a, hs, _, _, _ => by simpa [roundTree] using hs
  | p :: ps, [], as, t, a, hs, _, _, hl => by simp at hl
  | p :: ps, x :: args, as, t, a, hs, hv, hp, hl => by
    obtain ⟨y, ys, rfl, h1, h2⟩ := hv
    have hp0 := hp p List.mem_cons_self
    have hs' : Slots R (t.set (some x) p) (a.setIfInBounds p y) := by
      intro u v e
      rw [T.get_set] at e
      rw [Array.getElem?_setIfInBounds]
      by_cases hu : u = p
      · subst hu
        rw [if_pos rfl] at e; cases e
        rw [if_pos rfl, if_pos hp0]
        exact ⟨y, rfl, h1⟩
      · rw [if_neg hu] at e
        rw [if_neg (fun q => hu q.symm)]
        exact hs u v e
    obtain ⟨g1, g2⟩ := roundTree_slots (ps := ps) hs' h2 (fun q hq => by rw [Array.size_setIfInBounds]; exact hp q (List.mem_cons_of_mem _ hq)) (by simpa using hl)
    exact ⟨g1, by rw [List.zip_cons_cons, List.foldl_cons]; exact g2.trans (Array.size_setIfInBounds ..)⟩
theorem round_sim (k : Wait P w0 base B R af rest h fr fs w) {s : Sem Next} {i : Nat} {args : List AV} {m : AM} (hop : OpRel P B R w s (.round i args))
    (hst : (stepG P true { frame := fr, callers := fs ++ base, status := .running, dying := none } w).bare = (stepG.apply P true fr (fs ++ base) none s w).bare) (e : roundA P af rest h i args = some m) : Goes P w0 base m fr (fs ++ base) w := by
  obtain ⟨L, as, hL, hv, hrun⟩ := hop
  unfold roundA at e
  split at e
  · rename_i lp ho
    obtain ⟨lp', g1, g2⟩ := loop_at k.heap ho hL
    obtain ⟨st, pe, fn, n, t, ps, asg, body, df⟩ := lp
    simp only at e
    split at e
    · rename_i hc
      obtain ⟨c1, c2, c3⟩ := hc
      cases e
      obtain ⟨a1, a2⟩ := g2.tmps
      simp only at a1 a2
      have hps : lp'.params = ps := g2.params
      have hall : ∀ p ∈ ps.toList, p < lp'.tmps.size := fun p hp => by
        rw [List.all_eq_true] at c2
        rw [a1]; exact of_decide_eq_true (c2 p hp)
      obtain ⟨s1, s2⟩ := roundTree_slots (R := R) (ps := ps.toList) (a := lp'.tmps) a2 hv hall (by simpa using c1)
      have hlen : ¬ as.toArray.size ≠ lp'.params.size := by rw [hps, List.size_toArray, hv.length, c1]; exact fun hh => hh rfl
      have hy : (Instr.yield L.block as.toArray).run P w = .ok (.round L.block lp'.fn ((ps.toList.zip as).foldl (fun x (p : Tmp × Value) => x.setIfInBounds p.1 p.2) lp'.tmps) lp'.assign lp'.body) w := by
        simp only [Instr.yield, Sem.run_bind, run_getLoop g1, Result.andThen_ok, hlen, if_false, Sem.run_pure]
        rw [hps, ← Array.foldl_toList, Array.toList_zip]
      refine ⟨_, _, _, .one (step_lone_go (fr' := Frame.round L.block lp'.fn ((ps.toList.zip as).foldl (fun x (p : Tmp × Value) => x.setIfInBounds p.1 p.2) lp'.tmps) lp'.assign lp'.body .normal) (cs' := fr :: (fs ++ base)) (w' := w) ?_), B, R, fr :: fs, rfl, k.base, k.heap, k.old, ?_, fr, fs, rfl, k.top, k.below⟩
      · rw [hst]
        simp [stepG.apply, Sem.runT_eq, hrun, hy]
      · refine ⟨g2.fn, ?_, rfl, .inl rfl, ⟨L, hL, rfl⟩, rfl, rfl, s2.trans a1, ⟨_, _, rfl, ?_, _, _, rfl, rfl, _, _, rfl, ?_, rfl⟩, s1⟩
        · obtain ⟨f, hf⟩ := Option.isSome_iff_exists.1 c3
          exact ⟨f, hf⟩
        · show Item.code lp'.assign = Item.code asg
          rw [show lp'.assign = asg from g2.assign]
        · show Item.code lp'.body = Item.code body
          rw [show lp'.body = body from g2.body]
    · cases e
  · cases e
theorem begin_sim (k : Plain P w0 base B R af rest h fr fs w) (hs : Slots R af.tmps fr.tmps) {kk : List AItem} {kk' : List Item} (hfr : fr.todo = .beginRound :: kk') (hk : All2 (ItemRel R) kk kk')
    {m : AM} (e : beginA af rest h kk = some m) : Goes P w0 base m fr (fs ++ base) w := by
  have hm := frun k
  have hround := k.top.round
  unfold beginA at e
  split at e
  · cases e
  · rename_i l hl
    rw [hl] at hround
    obtain ⟨L, hL, hfl⟩ := hround
    split at e
    · cases e
    · rename_i st pe fn n t ps asg body df ho
      obtain ⟨lp', g1, g2⟩ := loop_at k.heap (loopOf_some ho) hL
      split at e
      · cases e
        obtain ⟨g3, g4⟩ := put_loop k.heap hL (k.heap.notRo (loopOf_some ho) rfl) (lp := ⟨.busy, pe, fn, n, t, ps, asg, body, df⟩) (lp' := { lp' with state := .busy })
          ⟨rfl, g2.pending, g2.fn, g2.tmps, g2.params, g2.assign, g2.body, g2.defers⟩
        have hrun : (Instr.beginRound L.block).run P w = .ok () (setBlk w L.block (.loop { lp' with state := .busy })) := by
          simp only [Instr.beginRound, Sem.run_bind, run_getLoop g1, Result.andThen_ok, run_setLoop g1, show lp'.state = .ready from g2.state, Sem.run_pure]
        refine ⟨_, _, _, .one (step_lone_go (fr' := { fr with todo := kk' }) (cs' := fs ++ base) (w' := setBlk w L.block (.loop { lp' with state := .busy })) ?_), B, R, fs, rfl, k.base, g3, k.old.keeps k.base k.heap g4, ?_, k.below.mono g4.le (B.keeps_refl (rest.length)) (Nat.le_refl _)⟩
        · simp [stepG, stepG.exec, hm, hfr, hfl, stepG.apply, Sem.runT_eq, hrun, Frame.finish]
        · obtain ⟨k1, k2, k3, k4, k5, k6, k7, k8, k9⟩ := k.top
          have hrm := k.run
          obtain ⟨fn, n, t, td, ds, mode, kind, round⟩ := af
          simp only at hrm; subst hrm
          exact ⟨k1, k2, k3, k4, k5, k6, k7, k8, todo_plain hk hs⟩
      · cases e
theorem endRange_sim (k : Plain P w0 base B R af rest h fr fs w) (hs : Slots R af.tmps fr.tmps) {l : Nat} {L : Loc} (hL : R l 0 = some L) {kk : List AItem} {kk' : List Item} (hfr : fr.todo = .endRangeFunc L.block :: kk') (hk : All2 (ItemRel R) kk kk')
    {m : AM} (e : endRangeA af rest h l kk = some m) : Goes P w0 base m fr (fs ++ base) w := by
  have hm := frun k
  unfold endRangeA at e
  split at e
  · cases e
  · rename_i st pe fn n t ps asg body df ho
    obtain ⟨lp', g1, g2⟩ := loop_at k.heap (loopOf_some ho) hL
    split at e
    · cases e
    · rename_i hbusy
      cases e
      obtain ⟨g3, g4⟩ := put_loop k.heap hL (k.heap.notRo (loopOf_some ho) rfl) (lp := ⟨.exhausted, pe, fn, n, t, ps, asg, body, df⟩) (lp' := { lp' with state := .exhausted })
        ⟨rfl, g2.pending, g2.fn, g2.tmps, g2.params, g2.assign, g2.body, g2.defers⟩
      have hst : lp'.state = st := g2.state
      have hpe : lp'.pending = pe := g2.pending
      have hnb : (lp'.state == LoopState.busy) = false := by
        rw [hst]
        cases st <;> first | rfl | exact absurd rfl hbusy
      have hrun : (Instr.endLoop L.block).run P w = .ok pe (setBlk w L.block (.loop { lp' with state := .exhausted })) := by
        simp only [Instr.endLoop, Sem.run_bind, run_getLoop g1, Result.andThen_ok, hnb, Bool.false_eq_true, if_false, Sem.run_pure, run_setLoop g1, hpe]
      refine ⟨_, _, _, .one (step_lone_go (fr' := { fr with todo := (pe.map Item.code).toList ++ kk' }) (cs' := fs ++ base) (w' := setBlk w L.block (.loop { lp' with state := .exhausted })) ?_), B, R, fs, rfl, k.base, g3, k.old.keeps k.base k.heap g4, ?_, k.below.mono g4.le (B.keeps_refl (rest.length)) (Nat.le_refl _)⟩
      · simp [stepG, stepG.exec, hm, hfr, Sem.runT_eq, hrun]
      · obtain ⟨k1, k2, k3, k4, k5, k6, k7, k8, k9⟩ := k.top
        have hrm := k.run
        obtain ⟨fn, n, t, td, ds, mode, kind, round⟩ := af
        simp only at hrm; subst hrm
        refine ⟨k1, k2, k3, k4, k5, k6, k7, k8, todo_plain ?_ hs⟩
        cases pe with
        | none => exact hk
        | some c => exact ⟨_, _, rfl, rfl, hk⟩
theorem rangeFunc_sim (k : Plain P w0 base B R af rest h fr fs w) (hs : Slots R af.tmps fr.tmps) {f : Operand} {params : Array Tmp} {assign body : Code} {kk : List AItem} {kk' : List Item} (hfr : fr.todo = .code (.rangeFunc f params assign body) :: kk') (hk : All2 (ItemRel R) kk kk')
    {m : AM} (e : rangeFuncA P af rest h params assign body kk (ev af.tmps f) = some m) : Goes P w0 base m fr (fs ++ base) w := by
  have hm := frun k
  have hroom : B.n ≤ w.heap.size := by show B.env.heap.size ≤ _; rw [k.base]; exact k.old.size
  unfold rangeFuncA at e
  split at e
  · cases e
  · rename_i fv hf
    have hfv : VRel R fv (fr.eval f) := ev_eval (R := R) (fun u _ hu => hs u _ hu) hf
    split at e
    · cases e
    · rename_i d h1 mark hmark
      have first : ∃ (R1 : Bij) (w1 : World) (Ld : Loc) (mark' : List Deferred), HRel P B R1 h1 w1 ∧ Keeps R w R1 w1 ∧ R1 d 0 = some Ld ∧ All2 (DefRel R1) mark mark' ∧
          (Instr.enterLoop fr.fn fr.tmps params assign body fr.roundOf).run P w = .ok (w1.heap.size, mark') (w1.alloc (.loop { state := .ready, pending := none, fn := fr.fn, tmps := fr.tmps, params, assign, body, defers := Ld.block })) := by
        have hround := k.top.round
        unfold markA at hmark
        split at hmark
        · rename_i l hl
          rw [hl] at hround
          obtain ⟨L, hL, hfl⟩ := hround
          split at hmark
          · cases hmark
          · rename_i lp ho
            cases hmark
            obtain ⟨lp', g1, g2⟩ := loop_at k.heap (loopOf_some ho) hL
            obtain ⟨Ld, d1, d2⟩ := g2.defers
            refine ⟨R, w, Ld, [], k.heap, Keeps.refl _ _, d1, rfl, ?_⟩
            simp only [Instr.enterLoop, hfl, Sem.run_bind, run_getLoop g1, Result.andThen_ok, Sem.run_pure, run_newObj, World.alloc_eq, d2]
        · rename_i hl
          rw [hl] at hround
          cases hmark
          obtain ⟨g1, g2⟩ := new_other k.heap hroom (.dfrd (some [])) (.deferred (some [])) (fun R' _ e => ⟨_, some [], e, heap_alloc_new w _, [], rfl, rfl⟩)
          refine ⟨_, _, ⟨w.heap.size, 0, 0⟩, [{ target := .collected w.heap.size, args := #[] }], g1, g2, R.upd_same _ _ _, ⟨_, [], rfl, ⟨⟨_, R.upd_same _ _ _, rfl⟩, rfl⟩, rfl⟩, ?_⟩
          simp only [Instr.enterLoop, show fr.roundOf = none from hround, Sem.run_bind, run_newObj, World.alloc_eq, Result.andThen_ok, Sem.run_pure]
      obtain ⟨R1, w1, Ld, mark', p1, p2, p3, p4, p5⟩ := first
      have hroom1 : B.n ≤ w1.heap.size := Nat.le_trans hroom p2.size
      obtain ⟨k1, k2, k3, k4, k5, k6, k7, k8, k9⟩ := k.top
      obtain ⟨q1, q2⟩ := new_other p1 hroom1 (.loop ⟨.ready, none, af.fn, af.n, af.tmps, params, assign, body, d⟩) (.loop { state := .ready, pending := none, fn := fr.fn, tmps := fr.tmps, params, assign, body, defers := Ld.block })
        (fun R' hle e => ⟨_, _, e, heap_alloc_new w1 _, ⟨rfl, rfl, k1, ⟨k8, (hs.mono p2.le).mono hle⟩, rfl, rfl, rfl, ⟨Ld, hle _ _ _ p3, rfl⟩⟩⟩)
      have hyl : R1.upd h1.next 0 ⟨w1.heap.size, 0, 0⟩ h1.next 0 = some ⟨w1.heap.size, 0, 0⟩ := R1.upd_same _ _ _
      have hkeep := p2.trans q2
      have hroom2 : B.n ≤ (w1.alloc (.loop { state := .ready, pending := none, fn := fr.fn, tmps := fr.tmps, params, assign, body, defers := Ld.block })).heap.size := Nat.le_trans hroom1 q2.size
      unfold rangeFn rangeEnter at e
      split at e
      · rename_i g args h3 hcall
        obtain ⟨as, r1, r2, r3⟩ := callV_sound (f' := fr.eval f) (args' := [.func (.yield w1.heap.size) #[] #[]]) q1 hroom2 hcall (VRel.mono hkeep.le _ _ hfv) (.cons ⟨_, hyl, rfl⟩ .nil)
        have hres : (do let d ← resolve fr.eval { callee := .value f, args := #[.const (.func (.yield w1.heap.size) #[] #[])], argTypes := #[] } 0; invoke d.target d.args : Sem Next).run P (w1.alloc (.loop { state := .ready, pending := none, fn := fr.fn, tmps := fr.tmps, params, assign, body, defers := Ld.block })) = .ok (.enter g as.toArray) (w1.alloc (.loop { state := .ready, pending := none, fn := fr.fn, tmps := fr.tmps, params, assign, body, defers := Ld.block })) := by
          refine (congrArg (fun q : Sem Next => q.run P _) ?_).trans r1
          show (do let d ← Deferred.ofValue (fr.eval f) ((#[Operand.const (.func (.yield w1.heap.size) #[] #[])] : Array Operand).map fr.eval); invoke d.target d.args : Sem Next) = _
          rw [map_toArray fr.eval]
          rfl
        have hm' := k.run
        obtain ⟨fn, n, t, td, ds, mode, kind, round⟩ := af
        simp only at hm' e; subst hm'
        obtain ⟨a, e1, rfl⟩ := topM_some e
        refine ⟨_, _, _, .one (step_lone_go (fr' := Frame.enter P g as.toArray .normal) (cs' := { fr with todo := .inRangeFunc w1.heap.size :: kk', defers := mark' ++ fr.defers } :: (fs ++ base)) (w' := w1.alloc (.loop { state := .ready, pending := none, fn := fr.fn, tmps := fr.tmps, params, assign, body, defers := Ld.block })) ?_),
          B, _, { fr with todo := .inRangeFunc w1.heap.size :: kk', defers := mark' ++ fr.defers } :: fs, rfl, k.base, r3, k.old.keeps k.base k.heap hkeep, enter_rel e1 r2 (.inl rfl), _, _, rfl, ?_, k.below.mono hkeep.le (B.keeps_refl (rest.length)) (Nat.le_refl _)⟩
        · have happ : (stepG.apply P true { fr with todo := .inRangeFunc w1.heap.size :: kk', defers := mark' ++ fr.defers } (fs ++ base) none (do let d ← resolve fr.eval { callee := .value f, args := #[.const (.func (.yield w1.heap.size) #[] #[])], argTypes := #[] } 0; invoke d.target d.args)
              (w1.alloc (.loop { state := .ready, pending := none, fn := fr.fn, tmps := fr.tmps, params, assign, body, defers := Ld.block }))).bare = .go { frame := Frame.enter P g as.toArray .normal, callers := { fr with todo := .inRangeFunc w1.heap.size :: kk', defers := mark' ++ fr.defers } :: (fs ++ base), status := .running, dying := none }
              (w1.alloc (.loop { state := .ready, pending := none, fn := fr.fn, tmps := fr.tmps, params, assign, body, defers := Ld.block })) := by
            simp only [stepG.apply, Sem.runT_eq, hres]
            simp
          refine Eq.trans ?_ happ
          simp only [stepG, stepG.exec, hm, hfr, Sem.runT_eq, p5, GStep.bare_after]
          rfl
        · refine ⟨k1, k2, k3, k4, k5.mono hkeep.le, (p4.mono fun _ _ q => q.mono q2.le).append (k6.mono fun _ _ q => q.mono hkeep.le), k7, k8, todo_plain (P := P) (B := B) (d := rest.length) (sus := true) (h := h3) (k := .inRange h1.next :: kk) (k' := .inRangeFunc w1.heap.size :: kk') ⟨_, _, rfl, ⟨_, hyl, rfl⟩, hk.mono fun _ _ q => q.mono hkeep.le⟩ (hs.mono hkeep.le)⟩
      · cases e
theorem collected_sim (kh : HRel P B R h w) (hb : B.env = w0) (ho : Old0 w0.toWorld w) (kt : FrameRel P B R rest.length false h af fr) (hr : af.mode ≠ .run) (kb : StackRel P B R h rest fs) (hslots : Slots R af.tmps fr.tmps) {id : Nat} {args : List AV} {ds : List ADef} (hdef : af.defers = ⟨.collected id, args⟩ :: ds)
    (hst : stepG P true { frame := fr, callers := fs ++ base, status := .running, dying := none } w = unwind P true fr (fs ++ base) none w) {cs : List ADef} (hcs : dfrdOf h id = some cs) {m : AM} (e : (some ⟨af.withDefers (cs ++ ds), rest, h.put id (.dfrd none)⟩ : Option AM) = some m) : Goes P w0 base m fr (fs ++ base) w := by
  cases e
  have hd := kt.defers
  rw [hdef] at hd
  obtain ⟨d', ds', hfd, hd1, hd2⟩ := hd
  obtain ⟨L, hL, htg⟩ := hd1.1
  obtain ⟨tg, as⟩ := d'
  simp only at htg; subst htg
  obtain ⟨L', ds0, g1, g2, g3⟩ := kh.obj' hL (dfrdOf_some hcs)
  rw [hL] at g1; cases g1
  obtain ⟨l, rfl, g4⟩ := g3
  obtain ⟨g5, g6⟩ := put_other kh hL (kh.notRo (dfrdOf_some hcs) rfl) (.dfrd none) (.deferred none) ⟨L, none, hL, setBlk_self w _ _ (kh.place _ _ _ hL).2, rfl⟩
  have hrun : (Instr.takeDeferred L.block).run P w = .ok l (setBlk w L.block (.deferred none)) := by
    have hg : (getObj L.block).run P w = .ok (.deferred (some l)) w := by simp [getObj, Sem.run, g2]
    simp only [Instr.takeDeferred, Sem.run_bind, hg, Result.andThen_ok, run_setObj P (ob := .deferred none) g2 (by simp), Sem.run_pure]
  refine ⟨_, _, _, .one (step_lone_go (fr' := { fr with defers := l ++ ds' }) (cs' := fs ++ base) (w' := setBlk w L.block (.deferred none)) ?_), B, R, fs, rfl, hb, g5, ho.keeps hb kh g6, ?_, kb.mono g6.le (B.keeps_refl (rest.length)) (Nat.le_refl _)⟩
  · rw [hst]
    simp [unwind, hfd, Sem.runT_eq, hrun]
  · obtain ⟨k1, k2, k3, k4, k5, k6, k7, k8, k9⟩ := kt
    obtain ⟨fn, n, t, td, ds1, mode, kind, round⟩ := af
    cases mode with
    | run => exact absurd rfl hr
    | returning => exact ⟨k1, k2, k3, k4, k5, g4.append hd2, k7, k8, hslots⟩
    | panicking c => exact ⟨k1, k2, k3, k4, k5, g4.append hd2, k7, k8, hslots⟩
end
end Go.Proofs.YtdbfpjgnlfejmaaDoor.Ev
end
section
namespace Go.Proofs.YtdbfpjgnlfejmaaDoor.Ev
open Go
section
variable {P : Program} {w0 : Env} {base : List Frame} {B : Base} {R : Bij} {af : AFrame} {rest : List AFrame} {h : AHeap} {fr : Frame} {fs : List Frame} {w : World}
theorem Plain.ends (k : Plain P w0 base B R af rest h fr fs w) (hs : Slots R af.tmps fr.tmps) {m : AM} (e : (some ⟨af.withMode .returning, rest, h⟩ : Option AM) = some m)
    (hst : step P (lone fr (fs ++ base) w) = .next (lone { fr with mode := .returning } (fs ++ base) w)) : Goes P w0 base m fr (fs ++ base) w := by
  cases e
  refine ⟨_, _, _, .one hst, B, R, fs, rfl, k.base, k.heap, k.old, ?_, k.below⟩
  obtain ⟨k1, k2, k3, k4, k5, k6, k7, k8, k9⟩ := k.top
  obtain ⟨fn, n, t, td, ds, mode, kind, round⟩ := af
  exact ⟨k1, k2, k3, k4, k5, k6, rfl, k8, hs⟩
theorem code_sim (hmix : P.follows .mixedOrders = true) (k : Plain P w0 base B R af rest h fr fs w) (hs : Slots R af.tmps fr.tmps) {c : Code} {kk : List AItem} {kk' : List Item} (hfr : fr.todo = .code c :: kk') (hk : All2 (ItemRel R) kk kk')
    {m : AM} (e : codeA P af rest h c kk = some m) : Goes P w0 base m fr (fs ++ base) w := by
  have hm := frun k
  have cons : ∀ {a : AItem} {b : Item} {as : List AItem} {bs : List Item}, ItemRel R a b → All2 (ItemRel R) as bs → All2 (ItemRel R) (a :: as) (b :: bs) := fun h1 h2 => ⟨_, _, rfl, h1, h2⟩
  have hround := k.top.round
  have leave : ∀ {jump : Option Code}, leaveA P af rest h jump = some m →
      (fr.roundOf = none → (jump = none ∨ jump = some .ret) → (stepG P true { frame := fr, callers := fs ++ base, status := .running, dying := none } w).bare = .go { frame := { fr with mode := .returning }, callers := fs ++ base, status := .running, dying := none } w) →
      (∀ l, fr.roundOf = some l → (stepG P true { frame := fr, callers := fs ++ base, status := .running, dying := none } w).bare = (match (Instr.endRound l jump).run P w with
        | .ok v w => (doReturn P true fr (fs ++ base) none v w).bare
        | .halt _ w => (GStep.ended (.stuck "range over a function: no such loop" (fr.pos P)) w).bare)) → Goes P w0 base m fr (fs ++ base) w := by
    intro jump e h1 h2
    unfold leaveA at e
    split at e
    · rename_i hr
      rw [hr] at hround
      split at e
      · exact k.ends hs e (step_lone_go (h1 hround (.inl rfl)))
      · exact k.ends hs e (step_lone_go (h1 hround (.inr rfl)))
      · cases e
    · rename_i l hr
      exact leaveRound_sim k hr e h2
  cases c with
  | skip => exact k.to hs hk e (step_lone_go (by simp [stepG, stepG.exec, hm, hfr]))
  | label l => exact k.to hs hk e (step_lone_go (by simp [stepG, stepG.exec, hm, hfr]))
  | seq a b => exact k.to (todo := .code a :: .code b :: kk) (todo' := .code a :: .code b :: kk') hs (cons rfl (cons rfl hk)) e (step_lone_go (by simp [stepG, stepG.exec, hm, hfr]))
  | cond c a b =>
    change condA af rest h a b kk (ev af.tmps c) = some m at e
    unfold condA at e
    split at e
    · rename_i t hc
      have hv : fr.eval c = .bool t := ev_eval (R := R) (fun u _ hu => hs u _ hu) hc
      cases t with
      | true => exact k.to (todo := .code a :: kk) (todo' := .code a :: kk') hs (cons rfl hk) e (step_lone_go (by simp [stepG, stepG.exec, hm, hfr, hv]))
      | false => exact k.to (todo := .code b :: kk) (todo' := .code b :: kk') hs (cons rfl hk) e (step_lone_go (by simp [stepG, stepG.exec, hm, hfr, hv]))
    · cases e
  | block id b => exact k.to (todo := .code b :: .inBlock id :: kk) (todo' := .code b :: .inBlock id :: kk') hs (cons rfl (cons rfl hk)) e (step_lone_go (by simp [stepG, stepG.exec, hm, hfr]))
  | loop b => exact k.to (todo := .code b :: .inLoop b :: kk) (todo' := .code b :: .inLoop b :: kk') hs (cons rfl (cons rfl hk)) e (step_lone_go (by simp [stepG, stepG.exec, hm, hfr]))
  | scope b => exact k.to (todo := .code b :: .inScope b :: kk) (todo' := .code b :: .inScope b :: kk') hs (cons rfl (cons rfl hk)) e (step_lone_go (by simp [stepG, stepG.exec, hm, hfr]))
  | ret =>
    change leaveA P af rest h (some .ret) = some m at e
    refine leave e (fun hr _ => by simp [stepG, stepG.exec, hm, hfr, hr]) fun l hr => ?_
    simp only [stepG, stepG.exec, hm, hfr, hr, Sem.runT_eq]
    cases (Instr.endRound l (some .ret)).run P w <;> simp
  | exit id =>
    change (match exitA id kk with | some k => toA af rest h k | none => leaveA P af rest h (some (.exit id))) = some m at e
    obtain ⟨x1, x2⟩ := exit_rel (id := id) hk
    cases hx : exitA id kk with
    | some q =>
      rw [hx] at e
      obtain ⟨q', g1, g2⟩ := x1 q hx
      exact k.to hs g2 e (step_lone_go (by simp [stepG, stepG.exec, hm, hfr, g1]))
    | none =>
      rw [hx] at e
      have g := x2 hx
      refine leave e (fun hr hj => by rcases hj with hj | hj <;> cases hj) fun l hr => ?_
      simp only [stepG, stepG.exec, hm, hfr, hr, Sem.runT_eq, g, Option.elim_none]
      cases (Instr.endRound l (some (.exit id))).run P w <;> simp
  | goto l =>
    change (match gotoA l kk with | some k => toA af rest h k | none => leaveA P af rest h (some (.goto l))) = some m at e
    obtain ⟨x1, x2⟩ := goto_rel (l := l) hk
    cases hx : gotoA l kk with
    | some q =>
      rw [hx] at e
      obtain ⟨q', g1, g2⟩ := x1 q hx
      exact k.to hs g2 e (step_lone_go (by simp [stepG, stepG.exec, hm, hfr, g1]))
    | none =>
      rw [hx] at e
      have g := x2 hx
      refine leave e (fun hr hj => by rcases hj with hj | hj <;> cases hj) fun l' hr => ?_
      simp only [stepG, stepG.exec, hm, hfr, hr, Sem.runT_eq, g, Option.elim_none]
      cases (Instr.endRound l' (some (.goto l))).run P w <;> simp
  | region id ops draw =>
    change regionA P af rest h ops draw kk = some m at e
    cases draw with
    | false =>
      refine k.to (todo := .ops ops.toList ops.toList :: kk) (todo' := .inRegion ops (List.range ops.size) :: kk') hs (cons ⟨ops, _, rfl, rfl, ?_⟩ hk) e (step_lone_go (by simp [stepG, stepG.exec, hm, hfr]))
      apply List.ext_getElem?
      intro i
      simp only [List.getElem?_map]
      by_cases hi : i < ops.size
      · rw [List.getElem?_range hi]; simp [hi]
      · rw [List.getElem?_eq_none (by simpa using hi), List.getElem?_eq_none (by simpa using hi)]; rfl
    | true =>
      change (match planOk P ops.toList (planOf P ops.toList) with | false => none | true => toA af rest h (.drw ops (planOf P ops.toList).ord [] :: kk)) = some m at e
      split at e
      · cases e
      · rename_i hp
        cases e
        have pi := planOk_is hp
        obtain ⟨g1, g2⟩ := linearise_topo pi (w.tape w.drawn (.order fr.fn id))
        refine ⟨_, _, _, .one (step_lone_go (fr' := { fr with todo := .inRegion ops (Region.linearise .any ops (w.tape w.drawn (.order fr.fn id))) :: kk' }) (cs' := fs ++ base) (w' := w.drew) ?_), B, R, fs, rfl, k.base, k.heap.heap_eq rfl, ⟨k.old.os, k.old.tape, k.old.output, k.old.size, Nat.le_succ_of_le k.old.drawn⟩, ?_, k.below⟩
        · simp [stepG, stepG.exec, hm, hfr, choose, Sem.run, Question.forced, Question.cut, Region.schedule, hmix]
        · obtain ⟨k1, k2, k3, k4, k5, k6, k7, k8, k9⟩ := k.top
          have hrun := k.run
          obtain ⟨fn, n, t, td, ds, mode, kind, round⟩ := af
          simp only at hrun; subst hrun
          obtain ⟨a1, a2, a3⟩ := orderOk_all pi.ord
          exact ⟨k1, k2, k3, k4, k5, k6, k7, k8, _, kk', rfl, hk, ⟨pi, rfl, g1, fun i hi => (g2 i).2 (by have := (a2 i hi).1; simpa using this), fun i hi => (g2 i).1 hi, fun i hi => absurd hi List.not_mem_nil, fun hh => (by cases hh), fun u v hv => .inr (hs u v hv), fun p hp => absurd hp List.not_mem_nil, fun p hp => absurd hp List.not_mem_nil⟩⟩
  | rangeFunc f params assign body => exact rangeFunc_sim k hs hfr hk e
  | refuse why => cases e
end
end Go.Proofs.YtdbfpjgnlfejmaaDoor.Ev
end
section
namespace Go.Proofs.YtdbfpjgnlfejmaaDoor.Ev
open Go
section
variable {P : Program} {w0 : Env} {base : List Frame} {B : Base} {R : Bij} {af : AFrame} {rest : List AFrame} {h : AHeap} {fr : Frame} {fs : List Frame} {w : World}
theorem wrun (k : Wait P w0 base B R af rest h fr fs w) : fr.mode = .run := by
  have := k.top.mode
  rw [k.run] at this; exact this
theorem opA_defer {ρ : Operand → Option AV} {c : Call} {r : AR} (e : opA P ρ h (.defer c) = some r) : ∃ d, r = .dfr d := by
  change deferA ρ c = some r at e
  unfold deferA at e
  split at e
  · cases e
  · split at e
    · split at e
      · cases e; exact ⟨_, rfl⟩
      · cases e
    · split at e
      · cases e
      · cases e; exact ⟨_, rfl⟩
    · cases e
theorem valE_dfr {v : Option AV} {d : ADef} (e : valE h v = some (.dfr d)) : False := by obtain ⟨x, _, e2⟩ := valE_inv e; cases e2
theorem valH_dfr {v : Option (AV × AHeap)} {d : ADef} (e : valH v = some (.dfr d)) : False := by obtain ⟨x, y, _, e2⟩ := valH_inv e; cases e2
theorem skipH_dfr {v : Option AHeap} {d : ADef} (e : skipH v = some (.dfr d)) : False := by obtain ⟨x, _, e2⟩ := skipH_inv e; cases e2
theorem unitH_dfr {v : Option AHeap} {d : ADef} (e : unitH v = some (.dfr d)) : False := by obtain ⟨x, _, e2⟩ := unitH_inv e; cases e2
theorem callA_dfr {f : FuncId} {args : List AV} {d : ADef} (e : callA P h f args = some (.dfr d)) : False := by
  unfold callA at e
  split at e
  · cases e
  · split at e
    · split at e <;> cases e
    · unfold externA extNoEscape extCmp extIndexByte extCount extMakeNoZero extTypeOf extComparable extMore extLoad extStore extCas extAdd extMarkAt extMark extSet at e
      repeat' split at e
      all_goals cases e
theorem callMethodA_dfr {x : AV} {name : String} {args : List AV} {d : ADef} (e : callMethodA P h x name args = some (.dfr d)) : False := by
  unfold callMethodA at e
  split at e
  · split at e
    · cases e
    · exact callA_dfr e
  · cases e
theorem builtinA_dfr {b : Builtin} {ats : Array TypeId} {args : List AV} {d : ADef} (e : builtinA P h b ats args = some (.dfr d)) : False := by
  unfold builtinA at e
  split at e
  · exact valE_dfr e
  · unfold builtinE appendE copyE clearE deleteE unsafeE at e
    repeat' split at e
    all_goals first
      | cases e; done
      | exact valH_dfr e
      | exact unitH_dfr e
theorem callOpA_dfr {ρ : Operand → Option AV} {c : Call} {d : ADef} (e : callOpA P ρ h c = some (.dfr d)) : False := by
  unfold callOpA at e
  split at e
  · cases e
  · split at e
    · exact builtinA_dfr e
    · split at e
      · cases e
      · exact callMethodA_dfr e
    · split at e
      · cases e
      · unfold callV at e
        split at e
        · unfold invokeFnA at e
          repeat' split at e
          all_goals first
            | exact callA_dfr e
            | exact callMethodA_dfr e
            | cases e
        · cases e
        · cases e
theorem opA_dfr {ρ : Operand → Option AV} {op : Op} {d : ADef} (e : opA P ρ h op = some (.dfr d)) : ∃ c, op = .defer c := by
  cases op with
  | «defer» c => exact ⟨c, rfl⟩
  | call c => exact absurd (callOpA_dfr (show callOpA P ρ h c = _ from e)) id
  | next it s =>
    exfalso
    obtain ⟨a, _, e⟩ := one'_inv (show one' ρ it _ = _ from e)
    unfold nextA nextAt at e
    repeat' split at e
    all_goals cases e
  | range t x =>
    exfalso
    obtain ⟨a, _, e⟩ := one'_inv (show one' ρ x _ = _ from e)
    unfold rangeA at e
    repeat' split at e
    all_goals cases e
  | panic x =>
    exfalso
    obtain ⟨a, _, e⟩ := one'_inv (show one' ρ x _ = _ from e)
    unfold panicA at e
    split at e <;> cases e
  | makeMap t r =>
    exfalso
    change mkMapA P ρ h t r = _ at e
    unfold mkMapA at e
    repeat' split at e
    all_goals cases e
  | convert s d x =>
    exfalso
    obtain ⟨a, _, e⟩ := one'_inv (show one' ρ x _ = _ from e)
    unfold convE at e
    split at e
    · exact valH_dfr e
    · exact valE_dfr e
  | alloc t =>
    exfalso
    change allocA P h t (zeroA P t) = _ at e
    unfold allocA at e
    split at e
    · cases e
    · exact valH_dfr e
  | build t parts =>
    exfalso
    change buildE P h t (partsA ρ parts.toList) = _ at e
    unfold buildE at e
    split at e
    · cases e
    · exact valE_dfr e
  | buildSlice t n parts =>
    exfalso
    change buildSliceE P h t n (partsA ρ parts.toList) = _ at e
    unfold buildSliceE at e
    split at e
    · cases e
    · exact valH_dfr e
  | insert t m k x =>
    exfalso
    change mapPutE P ρ h t m k x = _ at e
    unfold mapPutE at e
    repeat' split at e
    all_goals first | exact skipH_dfr e | cases e
  | mapUpdate t m k x =>
    exfalso
    change mapPutE P ρ h t m k x = _ at e
    unfold mapPutE at e
    repeat' split at e
    all_goals first | exact skipH_dfr e | cases e
  | entryStore t m s x =>
    exfalso
    change entryPutE ρ h m s x = _ at e
    unfold entryPutE at e
    repeat' split at e
    all_goals first | exact skipH_dfr e | cases e
  | mapEntry t x y => obtain ⟨a, b, _, _, e⟩ := two_inv (show two ρ x y _ = _ from e); exact absurd (valH_dfr e) id
  | move x => exact absurd (valE_dfr (show valE h _ = _ from e)) id
  | assign x => exact absurd (valE_dfr (show valE h _ = _ from e)) id
  | pick c a b => exact absurd (valE_dfr (show valE h _ = _ from e)) id
  | makeFunc f a b => exact absurd (valE_dfr (show valE h _ = _ from e)) id
  | slice t x a b c => exact absurd (valE_dfr (show valE h _ = _ from e)) id
  | extract x i => exact absurd (valE_dfr (show valE h _ = _ from e)) id
  | box t x => obtain ⟨a, _, e⟩ := one'_inv (show one' ρ x _ = _ from e); exact absurd (valH_dfr e) id
  | load t x => obtain ⟨a, _, e⟩ := one'_inv (show one' ρ x _ = _ from e); exact absurd (valE_dfr e) id
  | nilCheck x => obtain ⟨a, _, e⟩ := one'_inv (show one' ρ x _ = _ from e); exact absurd (valE_dfr e) id
  | unOp o t x => obtain ⟨a, _, e⟩ := one'_inv (show one' ρ x _ = _ from e); exact absurd (valE_dfr e) id
  | makeInterface t x => obtain ⟨a, _, e⟩ := one'_inv (show one' ρ x _ = _ from e); exact absurd (valE_dfr e) id
  | fieldAddr t x f => obtain ⟨a, _, e⟩ := one'_inv (show one' ρ x _ = _ from e); exact absurd (valE_dfr e) id
  | field t x f => obtain ⟨a, _, e⟩ := one'_inv (show one' ρ x _ = _ from e); exact absurd (valE_dfr e) id
  | typeAssert x t u k => obtain ⟨a, _, e⟩ := one'_inv (show one' ρ x _ = _ from e); exact absurd (valE_dfr e) id
  | store t x y => obtain ⟨a, b, _, _, e⟩ := two_inv (show two ρ x y _ = _ from e); exact absurd (skipH_dfr e) id
  | binOp o t x y u => obtain ⟨a, b, _, _, e⟩ := two_inv (show two ρ x y _ = _ from e); exact absurd (valE_dfr e) id
  | makeSlice t x y => obtain ⟨a, b, _, _, e⟩ := two_inv (show two ρ x y _ = _ from e); exact absurd (valH_dfr e) id
  | indexAddr t x y => obtain ⟨a, b, _, _, e⟩ := two_inv (show two ρ x y _ = _ from e); exact absurd (valE_dfr e) id
  | index t x y => obtain ⟨a, b, _, _, e⟩ := two_inv (show two ρ x y _ = _ from e); exact absurd (valE_dfr e) id
  | lookup t x y k => obtain ⟨a, b, _, _, e⟩ := two_inv (show two ρ x y _ = _ from e); exact absurd (valE_dfr e) id
  | _ => cases (show (none : Option AR) = _ from e)
theorem recover_sim (k : Wait P w0 base B R af rest h fr fs w) {s : Sem Next} {m : AM} (hop : OpRel P B R w s .recover)
    (hst : (stepG P true { frame := fr, callers := fs ++ base, status := .running, dying := none } w).bare = (stepG.apply P true fr (fs ++ base) none s w).bare) (e : recoverA P af rest h = some m) : Goes P w0 base m fr (fs ++ base) w := by
  have hop : s.run P w = .ok .recover w := hop
  unfold recoverA at e
  split at e
  · cases e
  · rename_i hrd
    have hfr : fr.roundOf = none := by have := k.top.round; rw [hrd] at this; exact this
    split at e
    · rename_i hkd
      have hkf : fr.kind = .deferred := k.top.kind.trans hkd
      split at e
      · cases e
      · rename_i c r
        obtain ⟨f, fs', rfl, kf, kr⟩ := k.below
        unfold recoverIn at e
        split at e
        · rename_i v older hm
          obtain ⟨a, e1, rfl⟩ := topM_some e
          have hmode := kf.mode
          rw [hm] at hmode
          obtain ⟨ch', hfm, x', older', rfl, hx, hold⟩ := hmode
          obtain ⟨y1, y2, y3⟩ := x'
          obtain ⟨hx1, hx2, hx3⟩ := hx
          simp only at hx1 hx2 hx3
          subst hx2 hx3
          refine ⟨_, _, _, .one (step_lone_go (fr' := fr.finish y1) (cs' := { f with mode := .panicking ({ v := y1, recovered := true } :: older') } :: (fs' ++ base)) (w' := w) ?_), B, R, { f with mode := .panicking ({ v := y1, recovered := true } :: older') } :: fs', rfl, k.base, k.heap, k.old, finish_sound k.top k.run e1 hx1, _, _, rfl, ?_, kr⟩
          · rw [hst]
            simp [stepG.apply, Sem.runT_eq, hop, hfr, tryRecover, hkf, hfm]
          · obtain ⟨k1, k2, k3, k4, k5, k6, k7, k8, k9⟩ := kf
            obtain ⟨fn, n, t, td, ds0, mode, kind, round⟩ := c
            simp only at hm; subst hm
            exact ⟨k1, k2, k3, k4, k5, k6, ⟨_, rfl, _, _, rfl, ⟨hx1, rfl, rfl⟩, hold⟩, k8, k9⟩
        · rename_i hno
          obtain ⟨a, e1, rfl⟩ := topM_some e
          have hmode := kf.mode
          have hnone : tryRecover fr (f :: (fs' ++ base)) = none := by
            unfold tryRecover
            rw [hkf]
            simp only []
            cases hm : c.mode with
            | run => rw [hm] at hmode; rw [show f.mode = .run from hmode]
            | returning => rw [hm] at hmode; rw [show f.mode = .returning from hmode]
            | panicking ch =>
              rw [hm] at hmode
              obtain ⟨ch', hfm, hc⟩ := hmode
              rw [hfm]
              cases ch with
              | nil => cases hc; rfl
              | cons x older =>
                obtain ⟨x', older', rfl, hx, hold⟩ := hc
                obtain ⟨x1, x2⟩ := x
                cases x2 with
                | false => exact absurd hm (hno _ _)
                | true =>
                  obtain ⟨y1, y2, y3⟩ := x'
                  obtain ⟨hx1, hx2, hx3⟩ := hx
                  simp only at hx2 hx3
                  subst hx2 hx3
                  rfl
          refine ⟨_, _, _, .one (step_lone_go (fr' := fr.finish .nilIface) (cs' := f :: (fs' ++ base)) (w' := w) ?_), B, R, f :: fs', rfl, k.base, k.heap, k.old, finish_sound k.top k.run e1 rfl, f, fs', rfl, kf, kr⟩
          rw [hst]
          simp [stepG.apply, Sem.runT_eq, hop, hfr, hnone]
    · cases e
theorem oper_sim [XT P] [XTOk P] (k : Wait P w0 base B R af rest h fr fs w) {ops : Array Oper} {i : Nat} {s' : List Nat} {k' : List Item} (ht : fr.todo = .inRegion ops (i :: s') :: k') {o : Oper} (ho : ops[i]? = some o)
    (hops : ∀ x ∈ o.op.operands, ∀ v, ev af.tmps x = some v → VRel R v (fr.eval x))
    (hgu : ∀ g b q u v, o.guard = some (g, b) → ops[g]? = some q → q.dst = some u → af.tmps.get u = some v → ∃ x, fr.tmps[u]? = some x ∧ VRel R v x)
    {m : AM} (e : operA P af rest h ops.toList o = some m) : Goes P w0 base m fr (fs ++ base) w := by
  have hm := wrun k
  unfold operA at e
  split at e
  · cases e
  · rename_i wt hwt
    have hw := wanted_rel hwt hgu
    split at e
    · exact ⟨_, _, _, .one (step_unwanted hm ht ho hw), k.got (v := undefA) (x := undef) ⟨[], rfl, rfl⟩ k.heap (Keeps.refl _ _) e⟩
    · unfold uponO at e
      split at e
      · cases e
      · rename_i r hr
        have hop := opA_at k.heap k.room hops hr
        have hoper : (stepG P true { frame := fr, callers := fs ++ base, status := .running, dying := none } w) = stepG.oper P true fr (fs ++ base) none w := by
          simp only [stepG, stepG.exec, hm, ht, ho, hw, Option.map_some, Option.getD_some, if_true]
        by_cases hdf : ∃ c, o.op = .defer c
        · obtain ⟨c, hc⟩ := hdf
          obtain ⟨d, rfl⟩ := opA_defer (by rw [hc] at hr; exact hr)
          change deferA' P af rest h d = some m at e
          unfold deferA' at e
          split at e
          · rename_i hrd
            have hfr : fr.roundOf = none := by have := k.top.round; rw [hrd] at this; exact this
            obtain ⟨d', r1, r2⟩ := hop
            have hst : (stepG P true { frame := fr, callers := fs ++ base, status := .running, dying := none } w) = stepG.apply P true fr (fs ++ base) none (execOp fr.eval o) w := by
              rw [hoper]
              simp only [stepG.oper, Frame.oper?, ht, ho, hfr]
            obtain ⟨a, e1, rfl⟩ := topM_some e
            refine ⟨_, _, _, .one (step_lone_go (fr' := ({ fr with defers := d' :: fr.defers } : Frame).finish undef) (cs' := fs ++ base) (w' := w) (by rw [hst]; simp [stepG.apply, Sem.runT_eq, r1])), B, R, fs, rfl, k.base, k.heap, k.old, ?_, k.below⟩
            refine finish_sound (h0 := h) (v := undefA) ?_ ?_ e1 ⟨[], rfl, rfl⟩
            · obtain ⟨k1, k2, k3, k4, k5, k6, k7, k8, k9⟩ := k.top
              obtain ⟨fn, n, t, td, ds, mode, kind, round⟩ := af
              exact ⟨k1, k2, k3, k4, k5, ⟨_, _, rfl, r2, k6⟩, k7, k8, k9⟩
            · have := k.run
              obtain ⟨fn, n, t, td, ds, mode, kind, round⟩ := af
              exact this
          · cases e
        · have hst : (stepG P true { frame := fr, callers := fs ++ base, status := .running, dying := none } w) = stepG.apply P true fr (fs ++ base) none (execOp fr.eval o) w := by
            rw [hoper]
            simp only [stepG.oper, Frame.oper?, ht, ho]
            split
            · rename_i _ c _ hc
              exact absurd ⟨c, hc⟩ hdf
            · rfl
          cases r with
          | round l args => exact round_sim k hop (by rw [hst]) e
          | dfr d =>
            exact absurd (opA_dfr hr) hdf
          | recover => exact recover_sim k hop (by rw [hst]) e
          | val v h' => obtain ⟨a, b, c, h1, h2⟩ := upon_sim k hop (by simp) (by simp) (by simp) (by rw [hst]) ⟨_, _, _, _, ht⟩ e; exact ⟨a, b, c, h1, h2⟩
          | skip h' => obtain ⟨a, b, c, h1, h2⟩ := upon_sim k hop (by simp) (by simp) (by simp) (by rw [hst]) ⟨_, _, _, _, ht⟩ e; exact ⟨a, b, c, h1, h2⟩
          | enter f as h' => obtain ⟨a, b, c, h1, h2⟩ := upon_sim k hop (by simp) (by simp) (by simp) (by rw [hst]) ⟨_, _, _, _, ht⟩ e; exact ⟨a, b, c, h1, h2⟩
          | panic v => obtain ⟨a, b, c, h1, h2⟩ := upon_sim k hop (by simp) (by simp) (by simp) (by rw [hst]) ⟨_, _, _, _, ht⟩ e; exact ⟨a, b, c, h1, h2⟩
end
end Go.Proofs.YtdbfpjgnlfejmaaDoor.Ev
end
section
namespace Go.Proofs.YtdbfpjgnlfejmaaDoor.Ev
open Go
section
variable {P : Program} {w0 : Env} {base : List Frame} {B : Base} {R : Bij} {af : AFrame} {rest : List AFrame} {h : AHeap} {fr : Frame} {fs : List Frame} {w : World}
theorem quiet_val {ρ : Operand → Option AV} {o : Oper} {r : AR} (he : isEff P o = false) (e : opA P ρ h o.op = some r) : ∃ v h', r = .val v h' ∧
    ((isFloat o.op = true ∧ ∃ vf ob, FloatAt P ρ o.op vf ob ∧ v = vf h.next ∧ h' = h.new ob) ∨ (isFloat o.op = false ∧ isPure o.op = true ∧ h' = h ∧ ∀ h, opA P ρ h o.op = some (.val v h)) ∨
      (isFloat o.op = false ∧ isPure o.op = false ∧ isRead P o.op = true ∧ h' = h)) := by
  cases hf : isFloat o.op with
  | true =>
    obtain ⟨vf, ob, k⟩ := float_at hf e
    have := k.1 h
    rw [e] at this
    cases this
    exact ⟨_, _, rfl, .inl ⟨rfl, vf, ob, k, rfl, rfl⟩⟩
  | false =>
    cases hp : isPure o.op with
    | true =>
      obtain ⟨v, rfl, k⟩ := opA_pure hp e
      exact ⟨_, _, rfl, .inr (.inl ⟨rfl, rfl, rfl, k⟩)⟩
    | false =>
      have hr : isRead P o.op = true := by
        cases hr : isRead P o.op with
        | true => rfl
        | false =>
          exfalso
          unfold isEff at he
          cases hop : o.op <;> simp [hop] at he <;> simp [hop] at hf hp hr <;> simp [hf, hp, hr] at he
      obtain ⟨v, rfl⟩ := opA_read hr e
      exact ⟨_, _, rfl, .inr (.inr ⟨rfl, rfl, hr, rfl⟩)⟩
theorem fin_drw {fn : FuncId} {n : Nat} {t : T AV} {all : Array Oper} {i : Nat} {l dn : List Nat} {kk : List AItem} {ds : List ADef} {mode : AMode} {kind : CallKind} {round : Option Nat} {o : Oper} {v : AV} {h' : AHeap} {m : AM} (ho : all[i]? = some o) (he : isEff P o = false)
    (e : topM rest h' (finishA P ⟨fn, n, t, .drw all (i :: l) dn :: kk, ds, mode, kind, round⟩ h' v) = some m) :
    ∃ t', putT t n o.dst v = some t' ∧ (isFloat o.op = true → recheck P all.toList 0 t' h' dn = true) ∧ m = ⟨⟨fn, n, t', .drw all l (i :: dn) :: kk, ds, mode, kind, round⟩, rest, h'⟩ := by
  obtain ⟨a, e1, rfl⟩ := topM_some e
  change (match all[i]? with | none => none | some o => finDrw P ⟨fn, n, t, .drw all (i :: l) dn :: kk, ds, mode, kind, round⟩ h' all i o l dn kk (putT t n o.dst v)) = some a at e1
  rw [ho] at e1
  simp only [] at e1
  unfold finDrw at e1
  split at e1
  · cases e1
  · rename_i t' ht
    split at e1
    · cases e1
    · rename_i hre
      cases e1
      exact ⟨t', ht, fun hf => by simpa [hf, he] using hre, rfl⟩
theorem drw_sim [XT P] [XTOk P] (k : Plain P w0 base B R af rest h fr fs w) {all : Array Oper} {l dn : List Nat} {kk : List AItem} (ht : af.todo = .drw all l dn :: kk) {s : List Nat} {k' : List Item} (hfr : fr.todo = .inRegion all s :: k') (hk : All2 (ItemRel R) kk k')
    (hd : Drw P B R rest.length false all l dn af.tmps h fr.tmps s) {m : AM} (e : it_drw P all l dn af rest h kk = some m) : Goes P w0 base m fr (fs ++ base) w := by
  have hm := frun k
  have hroom : B.n ≤ w.heap.size := by show B.env.heap.size ≤ _; rw [k.base]; exact k.old.size
  have hrun := k.run
  obtain ⟨fn, n, t, td, ds, mode, kind, round⟩ := af
  simp only at ht hrun hd; subst ht; subst hrun
  cases l with
  | nil =>
    change toA _ rest h kk = some m at e
    cases e
    obtain ⟨B', R', w', a', g1, g2, g3, g4, g5, g6, g7⟩ := hd.run_out s k.heap hroom hm hfr (fs ++ base)
    have st : step P (lone { fr with tmps := a', todo := .inRegion all [] :: k' } (fs ++ base) w') = .next (lone { fr with tmps := a', todo := k' } (fs ++ base) w') :=
      step_lone_go (by simp [stepG, stepG.exec, hm])
    refine ⟨_, _, _, g1.trans (.one st), B', R', fs, rfl, g3.1.trans k.base, g5, k.old.keeps k.base k.heap g6, ?_, k.below.mono g4 g3 (Nat.le_refl _)⟩
    obtain ⟨k1, k2, k3, k4, k5, k6, k7, k8, k9⟩ := k.top
    exact ⟨k1, k2, k3, k4, k5.mono g4, k6.mono fun _ _ q => q.mono g4, k7.mono g4, g2.trans k8, todo_plain (hk.mono fun _ _ q => q.mono g4) g7⟩
  | cons i l =>
    have hin := hd.facts.2.2.2.1 i List.mem_cons_self
    obtain ⟨o, ho⟩ : ∃ o, all[i]? = some o := ⟨_, Array.getElem?_eq_getElem hin⟩
    change operO P _ rest h all.toList all[i]? = some m at e
    rw [ho] at e
    change operA P _ rest h all.toList o = some m at e
    have hidn : i ∉ dn := fun hi => (List.nodup_append.1 hd.facts.2.2.2.2.1).2.2 i (by simpa using hi) i List.mem_cons_self rfl
    obtain ⟨k1, k2, k3, k4, k5, k6, k7, k8, k9⟩ := k.top
    cases he : isEff P o with
    | true =>
      have hem : (planOf P all.toList).em.testBit i = true := by rw [hd.plan.em i o ho]; exact he
      obtain ⟨B', R', w', a', s', g1, g2, g3, g4, g5, g6, g7⟩ := hd.catch_up hem s k.heap hroom hm hfr (fs ++ base)
      have hw : Wait P w0 base B' R' ⟨fn, n, t, .drw all (i :: l) dn :: kk, ds, .run, kind, round⟩ rest h { fr with tmps := a', todo := .inRegion all (i :: s') :: k' } fs w' :=
        ⟨g5, g3.1.trans k.base, k.old.keeps k.base k.heap g6, ⟨k1, k2, k3, k4, k5.mono g4, k6.mono fun _ _ q => q.mono g4, k7.mono g4, g2.trans k8, i :: s', k', rfl, hk.mono fun _ _ q => q.mono g4, g7.suspend hem⟩, rfl, k.below.mono g4 g3 (Nat.le_refl _)⟩
      have hreads := g7.reads ho hidn
      obtain ⟨fr', cs', w2, s1, s2⟩ := oper_sim hw rfl ho (fun x hx v hv => ev_eval (fun u hu he => hreads u v (by rw [hu] at hx; exact mentions_operand hx) he) hv)
        (fun g b q u v hg hq hu hv => hreads u v (mentions_guard hg (by simpa using hq) hu) hv) e
      exact ⟨fr', cs', w2, g1.trans s1, s2⟩
    | false =>
      have hem : (planOf P all.toList).em.testBit i = false := by rw [hd.plan.em i o ho]; exact he
      have hown := hd.own_dst ho he
      have hap : ∀ p ∈ dn, p ∈ s → ∀ q, all[p]? = some q → ∀ x, o.dst = some x → (mentions all.toList q).contains x = false ∧ q.dst ≠ some x := fun p hp hps q hq x hx =>
        hd.apart ho hx hidn hp hq (by
          cases hb : (planOf P all.toList).em.testBit p with
          | false => rfl
          | true => exact absurd hps (hd.effs p hp hb)) (fun hh => by rw [hem] at hh; cases hh)
      have hop : ∀ {v : AV} {t' : T AV}, t' = setD t o.dst v → ∀ h, opA P (ev t') h o.op = opA P (ev t) h o.op := fun {v t'} ht' h => by
        subst ht'
        unfold setD
        split
        · rfl
        · rename_i u hu; exact opA_set all.toList (hown u hu) h
      have hwg : ∀ {v : AV} {t' : T AV}, t' = setD t o.dst v → wantedA all.toList t' o.guard = wantedA all.toList t o.guard := fun {v t'} ht' => by
        subst ht'
        unfold setD
        split
        · rfl
        · rename_i u hu; exact wantedA_set (hown u hu)
      have hget : ∀ {v : AV} {t' : T AV}, t' = setD t o.dst v → ∀ u, o.dst = some u → t'.get u = some v := fun {v t'} ht' u hu => by
        subst ht'; rw [setT_get, if_pos hu]
      have goes : ∀ {B' : Base} {h' : AHeap} {v : AV}, topM rest h' (finishA P ⟨fn, n, t, .drw all (i :: l) dn :: kk, ds, .run, kind, round⟩ h' v) = some m → HRel P B' R h' w → B.keeps B' rest.length →
          (∀ t', t' = setD t o.dst v → (isFloat o.op = true → recheck P all.toList 0 t' h' dn = true) → (∀ p ∈ dn, p ∈ s → ∀ q, all[p]? = some q → Pend P B rest.length false all t h p q → Pend P B' rest.length false all t' h' p q) ∧ Pend P B' rest.length false all t' h' i o) →
          Goes P w0 base m fr (fs ++ base) w := by
        intro B' h' v e hh hb hp
        obtain ⟨t', f1, f2, rfl⟩ := fin_drw ho he e
        obtain ⟨q1, q2⟩ := hp t' (putT_get f1).1 f2
        exact ⟨_, _, _, Steps.refl _ _, B', R, fs, rfl, hb.1.trans k.base, hh, k.old, ⟨k1, k2, k3, k4, k5, k6, k7, k8, s, k', hfr, hk, hd.ahead ho he k8 f1 q1 q2⟩, k.below.mono R.le_refl hb (Nat.le_refl _)⟩
      unfold operA at e
      split at e
      · cases e
      · rename_i wt hwt
        split at e
        · refine goes e k.heap (B.keeps_refl _) fun t' ht' _ => ⟨fun p hp hps q hq hpe => hpe.other ht' (hap p hp hps q hq), false, by rw [hwg ht']; exact hwt, fun _ u hu => hget ht' u hu, fun hh => (by cases hh)⟩
        · unfold uponO at e
          split at e
          · cases e
          · rename_i r hr
            obtain ⟨v, h', rfl, hcase⟩ := quiet_val he hr
            change topM rest h' (finishA P _ h' v) = some m at e
            rcases hcase with ⟨c1, vf, ob, c2, rfl, rfl⟩ | ⟨c1, c2, rfl, c3⟩ | ⟨c1, c2, c3, rfl⟩
            · refine goes (B' := B.mark h.next ob (rest.length, i)) e (k.heap.mark ob _) ⟨rfl, fun id ob' e1 _ => mark_keeps k.heap ob _ id ob' e1⟩ fun t' ht' hre => ⟨fun p hp hps q hq hpe => ?_, true, by rw [hwg ht']; exact hwt, fun hh => (by cases hh), fun _ => .inl ⟨c1, vf, ob, h.next, ?_, ?_, ?_, fun u hu => hget ht' u hu⟩⟩
              · refine (Pend.base (mark_keeps k.heap ob _) hpe).suspend.again ht' (hap p hp hps q hq) fun h1 h2 h3 => ?_
                have hanc : (0 : Nat).testBit p = false := Nat.zero_testBit p
                have := recheck_get (hre c1) p hp
                rw [show all.toList[p]? = some q by simpa using hq] at this
                simp only [recheckO, h1, hanc, Bool.not_false, Bool.and_self] at this
                exact this
              · subst ht'
                unfold setD
                split
                · exact c2
                · rename_i u hu; exact c2.set all.toList (hown u hu)
              · simp [Base.mark]
              · simp [Base.mark]
            · refine goes e k.heap (B.keeps_refl _) fun t' ht' _ => ⟨fun p hp hps q hq hpe => hpe.other ht' (hap p hp hps q hq), true, by rw [hwg ht']; exact hwt, fun hh => (by cases hh), fun _ => .inr (.inl ⟨c1, c2, v, fun h => by rw [hop ht']; exact c3 h, fun u hu => hget ht' u hu⟩)⟩
            · refine goes e k.heap (B.keeps_refl _) fun t' ht' _ => ⟨fun p hp hps q hq hpe => hpe.other ht' (hap p hp hps q hq), true, by rw [hwg ht']; exact hwt, fun hh => (by cases hh), fun _ => .inr (.inr ⟨c1, c2, c3, .inr ⟨v, by rw [hop ht']; exact hr, fun u hu => hget ht' u hu⟩⟩)⟩
theorem item_sim [XT P] [XTOk P] (hmix : P.follows .mixedOrders = true) (k : Plain P w0 base B R af rest h fr fs w) {it : AItem} {kk : List AItem} (ht : af.todo = it :: kk) {m : AM} (e : itemA P af rest h it kk = some m) : Goes P w0 base m fr (fs ++ base) w := by
  have hm := frun k
  have htop : TodoRel P B R rest.length false h af.todo af.tmps fr.todo fr.tmps := by
    have := k.top.top
    rw [k.run] at this; exact this
  rw [ht] at htop
  cases it with
  | drw all l dn =>
    obtain ⟨s, k', hfr, hk, hd⟩ := htop
    exact drw_sim k ht hfr hk hd e
  | code c =>
    obtain ⟨⟨_, kk', hfr, rfl, hk⟩, hs⟩ := htop
    exact code_sim hmix k hs hfr hk e
  | inBlock i =>
    obtain ⟨⟨_, kk', hfr, rfl, hk⟩, hs⟩ := htop
    exact k.to hs hk e (step_lone_go (by simp [stepG, stepG.exec, hm, hfr]))
  | inLoop b =>
    obtain ⟨⟨_, kk', hfr, rfl, hk⟩, hs⟩ := htop
    exact k.to (todo := .code b :: .inLoop b :: kk) (todo' := .code b :: .inLoop b :: kk') hs ⟨_, _, rfl, rfl, _, _, rfl, rfl, hk⟩ e (step_lone_go (by simp [stepG, stepG.exec, hm, hfr]))
  | inScope b =>
    obtain ⟨⟨_, kk', hfr, rfl, hk⟩, hs⟩ := htop
    exact k.to hs hk e (step_lone_go (by simp [stepG, stepG.exec, hm, hfr]))
  | ops all l =>
    obtain ⟨⟨_, kk', hfr, ⟨ops, todo, rfl, rfl, hmap⟩, hk⟩, hs⟩ := htop
    cases l with
    | nil =>
      have : todo = [] := by simpa using hmap.symm
      subst this
      exact k.to hs hk e (step_lone_go (by simp [stepG, stepG.exec, hm, hfr]))
    | cons o l =>
      cases todo with
      | nil => simp at hmap
      | cons i todo =>
        simp only [List.map_cons, List.cons.injEq] at hmap
        change operA P af rest h ops.toList o = some m at e
        have hw : Wait P w0 base B R af rest h fr fs w := ⟨k.heap, k.base, k.old, by
          obtain ⟨k1, k2, k3, k4, k5, k6, k7, k8, k9⟩ := k.top
          refine ⟨k1, k2, k3, k4, k5, k6, k7, k8, ?_⟩
          have hr := k.run
          obtain ⟨fn, n, t, td, ds, mode, kind, round⟩ := af
          simp only at hr ht; subst hr; subst ht
          exact ⟨⟨_, kk', hfr, ⟨ops, _, rfl, rfl, by simp only [List.map_cons, List.cons.injEq]; exact hmap⟩, hk⟩, hs⟩, k.run, k.below⟩
        exact oper_sim hw hfr hmap.1.symm (fun x _ v hv => ev_eval (fun u _ hu => hs u v hu) hv) (fun g b q u v _ _ _ hv => hs u v hv) e
  | inRange i => cases e
  | endRange i =>
    obtain ⟨⟨_, kk', hfr, ⟨L, hL, rfl⟩, hk⟩, hs⟩ := htop
    exact endRange_sim k hs hL hfr hk e
  | beginRound =>
    obtain ⟨⟨_, kk', hfr, rfl, hk⟩, hs⟩ := htop
    exact begin_sim k hs hfr hk e
def resF (a : Array Value) : ResultVar → Sem Value
  | .tmp t => pure (a.getD t undef)
  | .cell x t => do loadVar t (← asAddr (a.getD x undef))
theorem results_eq (fn : Func) (a : Array Value) : results fn a = (do let vs ← fn.results.mapM (resF a); pure (if h : vs.size = 1 then vs[0] else .tuple vs)) := by
  unfold results
  first
    | rfl
    | (congr 1; done)
    | (congr 1; funext x; cases x <;> rfl)
    | (congr 1; congr 1; funext x; cases x <;> rfl)
theorem resList_sound (kh : HRel P B R h w) {t : T AV} {a : Array Value} (hs : Slots R t a) : ∀ {l : List ResultVar} {vs : List AV}, resListA P h t l = some vs →
    ∃ vs', (l.mapM (resF a)).run P w = .ok vs' w ∧ VRels R vs vs'
  | [], vs, e => by cases e; exact ⟨[], by simp, rfl⟩
  | r :: l, vs, e => by
    have getD : ∀ {u : Nat} {v : AV}, t.get u = some v → VRel R v (a.getD u undef) := fun {u v} hv => by
      obtain ⟨y, h1, h2⟩ := hs u v hv
      rw [show a.getD u undef = y by
        obtain ⟨hl, hg⟩ := Array.getElem?_eq_some_iff.1 h1
        simp [Array.getD, hl, hg]]
      exact h2
    have consO_some : ∀ {x : Option AV} {y : Option (List AV)}, consO x y = some vs → ∃ v r, x = some v ∧ y = some r ∧ vs = v :: r := fun {x y} e => by
      unfold consO at e
      split at e
      · cases e
      · split at e
        · cases e
        · cases e; exact ⟨_, _, rfl, rfl, rfl⟩
    cases r with
    | tmp u =>
      obtain ⟨v, r, h1, h2, rfl⟩ := consO_some e
      obtain ⟨vs', g1, g2⟩ := resList_sound kh hs h2
      exact ⟨a.getD u undef :: vs', by simp only [List.mapM_cons, resF, Sem.run_bind, Sem.run_pure, Result.andThen_ok, g1], _, _, rfl, getD h1, g2⟩
    | cell u ty =>
      obtain ⟨v, r, h1, h2, rfl⟩ := consO_some e
      obtain ⟨vs', g1, g2⟩ := resList_sound kh hs h2
      unfold loadO at h1
      split at h1
      · cases h1
      · rename_i p hp
        have hpv := getD hp
        obtain ⟨v', q1, q2⟩ := loadA_sound kh h1 hpv
        have hpp : ∃ ad, a.getD u undef = .pointer (some ad) := by
          unfold loadA at h1
          split at h1
          · obtain ⟨L, _, _, hh⟩ := hpv; exact ⟨_, hh⟩
          · exact ⟨_, hpv⟩
          · cases h1
        obtain ⟨ad, had⟩ := hpp
        rw [had] at q1
        have q3 : (loadVar ty ad).run P w = .ok v' w := by simpa [Instr.loadAt, Instr.sureAddr] using q1
        exact ⟨v' :: vs', by simp only [List.mapM_cons, resF, Sem.run_bind, Sem.run_pure, Result.andThen_ok, had, asAddr, q3, g1], _, _, rfl, q2, g2⟩
theorem res_sound (kh : HRel P B R h w) (hs : Slots R af.tmps fr.tmps) (hfn : fr.fn = af.fn) {v : AV} (e : resA P af h = some v) : ∃ fn v', P.funcs[fr.fn]? = some fn ∧ (results fn fr.tmps).run P w = .ok v' w ∧ VRel R v v' := by
  unfold resA at e
  split at e
  · cases e
  · rename_i fn hf
    unfold tupOf at e
    split at e
    · cases e
    · rename_i l hl
      obtain ⟨vs, g1, g2⟩ := resList_sound kh hs hl
      refine ⟨fn, if h : vs.toArray.size = 1 then vs.toArray[0] else .tuple vs.toArray, by rw [hfn]; exact hf, ?_, ?_⟩
      · rw [results_eq, Array.mapM_eq_mapM_toList]
        simp only [Sem.run_bind, Sem.run_map, g1, Result.andThen_ok, Sem.run_pure]
      · split at e
        · cases e
          obtain ⟨y, ys, rfl, hy, hr⟩ := g2
          cases hr
          simpa using hy
        · rename_i hn
          cases e
          rw [dif_neg]
          · exact ⟨vs, rfl, g2⟩
          · intro hsz
            have := g2.length
            simp at hsz
            rw [hsz] at this
            match l, this, hn with
            | [x], _, hn => exact hn x rfl
theorem tgt_fn {f : Fn} {cap : List AV} {d' : Deferred} {args : List AV} (k : DefRel R ⟨.fn f cap, args⟩ d') : ∃ c as : List Value, d' = ⟨.fn f c.toArray, as.toArray⟩ ∧ VRels R cap c ∧ VRels R args as := by
  obtain ⟨⟨_, c, h1, h2⟩, h3⟩ := k
  obtain ⟨t, a⟩ := d'
  simp only at h1 h3
  exact ⟨c, a.toList, by rw [h1], h2, h3⟩
theorem unwind_sim (kh : HRel P B R h w) (hb : B.env = w0) (ho : Old0 w0.toWorld w) (kt : FrameRel P B R rest.length false h af fr) (hr : af.mode ≠ .run) (kb : StackRel P B R h rest fs) {m : AM} (e : unwindA P af rest h = some m) : Goes P w0 base m fr (fs ++ base) w := by
  have hslots : Slots R af.tmps fr.tmps := by
    have := kt.top
    unfold TopRel at this
    split at this
    · exact absurd ‹_› hr
    · exact this
  have hst : stepG P true { frame := fr, callers := fs ++ base, status := .running, dying := none } w = unwind P true fr (fs ++ base) none w := by
    have := kt.mode
    cases hm : af.mode with
    | run => exact absurd hm hr
    | returning => rw [hm] at this; have hf : fr.mode = .returning := this; simp only [stepG, hf]
    | panicking c => rw [hm] at this; obtain ⟨c', hf, _⟩ := this; simp only [stepG, hf]
  have hroom : B.n ≤ w.heap.size := by show B.env.heap.size ≤ _; rw [hb]; exact ho.size
  unfold unwindA at e
  split at e
  · rename_i d ds hdef
    have hd := kt.defers
    rw [hdef] at hd
    obtain ⟨d', ds', hfd, hd1, hd2⟩ := hd
    obtain ⟨tgt, args⟩ := d
    unfold deferred1 at e
    simp only at e
    split at e
    · rename_i id
      split at e
      · cases e
      · rename_i cs hcs
        exact collected_sim kh hb ho kt hr kb hslots hdef hst hcs e
    · rename_i f cap
      obtain ⟨c, as, rfl, h1, h2⟩ := tgt_fn hd1
      unfold uponDefer at e
      split at e
      · rename_i g args2 h2' hinv
        obtain ⟨a, e1, rfl⟩ := topM_some e
        have hop := invokeFnA_sound kh hroom hinv h2 h1
        obtain ⟨as2, r1, r2, r3⟩ := hop
        refine ⟨_, _, _, .one (step_lone_go (fr' := Frame.enter P g as2.toArray .deferred) (cs' := { fr with defers := ds' } :: (fs ++ base)) (w' := w) ?_), B, R, { fr with defers := ds' } :: fs, rfl, hb, r3, ho, enter_rel e1 r2 (.inr rfl), _, _, rfl, ?_, kb.mono R.le_refl (B.keeps_refl (rest.length)) (Nat.le_refl _)⟩
        · rw [hst]
          simp [unwind, hfd, callDeferred, Sem.runT_eq, r1]
        · obtain ⟨k1, k2, k3, k4, k5, k6, k7, k8, k9⟩ := kt
          obtain ⟨fn, n, t, td, ds0, mode, kind, round⟩ := af
          cases mode with
          | run => exact absurd rfl hr
          | returning => exact ⟨k1, k2, k3, k4, k5, hd2, k7, k8, hslots⟩
          | panicking c => exact ⟨k1, k2, k3, k4, k5, hd2, k7, k8, hslots⟩
      · cases e
    · cases e
  · rename_i hdef
    have hfd : fr.defers = [] := by have := kt.defers; rw [hdef] at this; exact this
    have hmode := kt.mode
    split at e
    · cases e
    · rename_i chain hm
      rw [hm] at hmode
      obtain ⟨c', hfm, hc⟩ := hmode
      cases rest with
      | nil => cases e
      | cons c r =>
        obtain ⟨f, fs', rfl, kf, kr⟩ := kb
        cases e
        obtain ⟨fn, hfn⟩ := kt.fnOk
        have hcat : fr.catches P = false := by simp only [Frame.catches, kt.fn, hfn]
        exact ⟨_, _, _, .one (step_lone_go (fr' := f.raise c') (cs' := fs' ++ base) (w' := w) (by rw [hst]; simp [unwind, hfd, hfm, hcat])), B, R, fs', rfl, hb, kh, ho, raise_rel kf hc, kr⟩
    · rename_i hm
      rw [hm] at hmode
      have hfm : fr.mode = .returning := hmode
      unfold returnO at e
      split at e
      · cases e
      · rename_i v hv
        obtain ⟨fn, v', r1, r2, r3⟩ := res_sound kh hslots kt.fn hv
        obtain ⟨fr', cs', q1, q2⟩ := returnA_sim (fr := fr) (base := base) kh hb ho kt.kindOk kt.kind kb r3 e
        exact ⟨fr', cs', w, .one (step_lone_go (by rw [hst]; simp only [unwind, hfd, hfm, r1, Sem.runT_eq, r2]; simpa using q1)), q2⟩
theorem step_sim [XT P] [XTOk P] (hmix : P.follows .mixedOrders = true) {m m' : AM} {fr : Frame} {cs : List Frame} {w : World} (k : Sim P w0 base m fr cs w) (e : stepA P m = some m') : Goes P w0 base m' fr cs w := by
  obtain ⟨af, rest, h⟩ := m
  obtain ⟨B, R, fs, rfl, hb, kh, ho, kt, kb⟩ := k
  change (match af.mode with | .run => execA P af rest h af.todo | _ => unwindA P af rest h) = some m' at e
  split at e
  · rename_i hrun
    have hp : Plain P w0 base B R af rest h fr fs w := ⟨kh, hb, ho, kt, hrun, kb⟩
    unfold execA at e
    split at e
    · rename_i hnil
      have htop : TodoRel P B R rest.length false h af.todo af.tmps fr.todo fr.tmps := by
        have := kt.top
        rw [hrun] at this; exact this
      rw [hnil] at htop
      obtain ⟨h1, hs⟩ := htop
      have hfr : fr.todo = [] := h1
      have hm := frun hp
      have hround := kt.round
      unfold leaveA at e
      split at e
      · rename_i hr
        rw [hr] at hround
        exact hp.ends hs e (step_lone_go (by simp [stepG, stepG.exec, hm, hfr, show fr.roundOf = none from hround]))
      · rename_i l hr
        refine leaveRound_sim hp hr e fun b hb => ?_
        simp only [stepG, stepG.exec, hm, hfr, hb, Sem.runT_eq]
        cases (Instr.endRound b none).run P w <;> simp
    · rename_i it kk hcons
      exact item_sim hmix hp hcons e
  · rename_i hr
    exact unwind_sim kh hb ho kt (fun hh => hr hh) kb e
def Globs (G : T (T AV)) (w : World) : Prop := ∀ g c, G.get g = some c → g < w.heap.size ∧ ∃ cs el fz, w.heap[g]? = some (.cells cs el fz) ∧ ∀ k v, c.get k = some v → ∃ x, cs[k]? = some x ∧ VRel (fun _ _ => none) v x
def Env.of (w : World) : Env := { w with own := fun _ => False, rob := fun _ => False, pin := fun _ _ => none }
def Base.of (w : World) : Base := ⟨Env.of w, fun _ => False, fun _ => none, fun _ => (0, 0)⟩
theorem HRel.start {P : Program} {G : T (T AV)} {w : World} (hG : Globs G w) : HRel P (Base.of w) (fun _ _ => none) ⟨.leaf, 0, G⟩ w where
  fresh _ _ _ := rfl
  obj i o e := by cases e
  pend i o e := by cases e
  place i r L e := by cases e
  rd i hi := hi.elim
  low b _ := rfl
  rp i hi := hi.elim
  rol i r L hi := hi.elim
  pin i r L e := by cases e
  apart i r i' r' L L' e := by cases e
  same i r r' L L' e := by cases e
  glob g c e := ⟨fun hm => hm.elim (fun hl => absurd (hG g c e).1 (Nat.not_lt.2 hl)) id, (hG g c e).2⟩
theorem Old0.start (w : World) : Old0 (Env.of w).toWorld w := ⟨rfl, rfl, rfl, Nat.le_refl _, Nat.le_refl _⟩
end
end Go.Proofs.YtdbfpjgnlfejmaaDoor.Ev
end
section
namespace Go.Proofs.YtdbfpjgnlfejmaaDoor.Ev
open Go Go.ChangeShapes Go.WideShapes
theorem Old.kept {w w' : World} (k : Old w w') (may : MemPlace → Prop) : w.keptBut w' may :=
  ⟨k.os, k.output, fun i hi => by rw [k.other i hi]; exact (World.keptBut_refl w may).2.2 i hi⟩
end Go.Proofs.YtdbfpjgnlfejmaaDoor.Ev
end
section
namespace Go.Proofs.YtdbfpjgnlfejmaaDoor.Ev
open Go
noncomputable section
variable (P : Program)
def runN [XT P] : Nat → AM → Option AM
  | 0, m => some m
  | n + 1, m => match stepA P m with
    | none => none
    | some m => runN n m
def keepG {α : Type} (t : T α) : List Nat → T α → T α
  | [], acc => acc
  | i :: r, acc => (acc.set (t.get i) i).seq fun acc => keepG t r acc
def keepF (us : List Nat) (fr : AFrame) : AFrame := match fr with
  | ⟨fn, n, t, todo, ds, mode, kind, round⟩ => ⟨fn, n, keepG t us .leaf, todo, ds, mode, kind, round⟩
def keepFs : List (List Nat) → List AFrame → List AFrame
  | us :: r, f :: fs => keepF us f :: keepFs r fs
  | [], fs => fs
  | _ :: _, [] => []
def keepD (us : List Nat) (fr : AFrame) : AFrame := match fr.todo with
  | .drw _ _ _ :: _ => fr
  | _ => keepF us fr
def keepDs : List (List Nat) → List AFrame → List AFrame
  | us :: r, f :: fs => keepD us f :: keepDs r fs
  | [], fs => fs
  | _ :: _, [] => []
def AV.ref : AV → Option Nat
  | .ptr i _ _ => some i
  | .slc i _ _ _ _ => some i
  | .mp i => some i
  | _ => none
def heldV (objs : T AObj) (v : AV) : Bool := match v.ref with
  | none => true
  | some i => match objs.get i with
    | none => false
    | some _ => true
def heldO (objs : T AObj) (t : T AV) (o : Oper) : Bool := match isFloat o.op with
  | false => true
  | true => match o.dst with
    | none => false
    | some u => match t.get u with
      | none => false
      | some v => heldV objs v
def heldP (objs : T AObj) (t : T AV) (o : Option Oper) : Bool := match o with
  | none => true
  | some o => heldO objs t o
def heldF (objs : T AObj) (fr : AFrame) : Bool := match fr.todo with
  | .drw all _ dn :: _ => dn.all fun p => heldP objs fr.tmps all[p]?
  | _ => true
def dropT : List Nat → T AV → T AV
  | [], t => t
  | u :: r, t => dropT r (t.set none u)
def dropF (us : List Nat) (fr : AFrame) : AFrame := match fr with
  | ⟨fn, n, t, todo, ds, mode, kind, round⟩ => ⟨fn, n, dropT us t, todo, ds, mode, kind, round⟩
def dropFs : List (List Nat) → List AFrame → List AFrame
  | us :: r, f :: fs => dropF us f :: dropFs r fs
  | [], fs => fs
  | _ :: _, [] => []
def plainF (fr : AFrame) : Bool := match fr.todo with
  | .drw _ _ _ :: _ => false
  | _ => true
def subC : List Nat → Code → Code
  | [], c => c
  | d :: p, c => match c with
    | .seq a b => subC p (bif Nat.beq d 0 then a else b)
    | .cond _ a b => subC p (bif Nat.beq d 0 then a else b)
    | .rangeFunc _ _ a b => subC p (bif Nat.beq d 0 then a else b)
    | .block _ b => subC p b
    | .loop b => subC p b
    | .scope b => subC p b
    | c => c
def cd (f : FuncId) (p : List Nat) : Code := match P.funcs[f]? with
  | none => .skip
  | some fn => match fn.body with
    | none => .skip
    | some c => subC p c
def rg (f : FuncId) (p : List Nat) : Array Oper := match cd P f p with
  | .region _ ops _ => ops
  | _ => #[]
end
section
variable {P : Program} {w0 : Env} {base : List Frame}
theorem keepG_le {α : Type} {t : T α} : ∀ {ids : List Nat} {acc : T α}, (∀ i o, acc.get i = some o → t.get i = some o) → ∀ i o, (keepG t ids acc).get i = some o → t.get i = some o
  | [], _, h => h
  | j :: r, acc, h => by
    intro i o e
    rw [keepG, T.seq_eq] at e
    refine keepG_le (acc := acc.set (t.get j) j) (fun i o e => ?_) i o e
    rw [T.get_set] at e
    by_cases hi : i = j
    · subst hi; rwa [if_pos rfl] at e
    · rw [if_neg hi] at e; exact h i o e
noncomputable def Base.only (B : Base) (h : AHeap) : Base := { B with pend := fun i => match h.get i with
  | none => none
  | some _ => B.pend i }
theorem Slots.drop {R : Bij} {a : Array Value} : ∀ {us : List Nat} {t : T AV}, Slots R t a → Slots R (dropT us t) a
  | [], _, k => k
  | u :: r, t, k => Slots.drop (us := r) (t := t.set none u) fun x v e => by
    rw [T.get_set] at e
    split at e
    · cases e
    · exact k x v e
theorem FrameRel.plain {B B' : Base} {R : Bij} {d : Nat} {sus : Bool} {h h' : AHeap} {af : AFrame} {fr : Frame} {us : List Nat} (hp : plainF (dropF us af) = true) (k : FrameRel P B R d sus h af fr) : FrameRel P B' R d sus h' (dropF us af) fr := by
  obtain ⟨fn, n, t, todo, ds, mode, kind, round⟩ := af
  obtain ⟨k1, k2, k3, k4, k5, k6, k7, k8, k9⟩ := k
  refine ⟨k1, k2, k3, k4, k5, k6, k7, k8, ?_⟩
  cases mode with
  | run =>
    have k9 : TodoRel P B R d sus h todo t fr.todo fr.tmps := k9
    show TodoRel P B' R d sus h' todo (dropT us t) fr.todo fr.tmps
    cases todo with
    | nil => exact ⟨k9.1, k9.2.drop⟩
    | cons it kk =>
      cases it with
      | drw a b c => cases hp
      | _ => exact ⟨k9.1, k9.2.drop⟩
  | returning => exact Slots.drop k9
  | panicking c => exact Slots.drop k9
theorem dropF_nil (af : AFrame) : dropF [] af = af := by cases af; rfl
theorem dropFs_length : ∀ (dr : List (List Nat)) (as : List AFrame), (dropFs dr as).length = as.length
  | [], as => by cases as <;> rfl
  | _ :: _, [] => rfl
  | us :: dr, a :: as => by simp [dropFs, dropFs_length dr as]
theorem StackRel.plain {B B' : Base} {R : Bij} {h h' : AHeap} : ∀ {dr : List (List Nat)} {as : List AFrame} {fs : List Frame}, (dropFs dr as).all plainF = true → StackRel P B R h as fs → StackRel P B' R h' (dropFs dr as) fs
  | [], [], _, _, k => k
  | _ :: _, [], _, _, k => k
  | [], a :: as, fs, hp, ⟨f, r, e, k1, k2⟩ => by
    rw [show dropFs [] (a :: as) = a :: as from rfl, List.all_cons, Bool.and_eq_true] at hp
    have g1 : FrameRel P B' R as.length true h' a f := by
      have := k1.plain (B' := B') (h' := h') (us := []) (by rw [dropF_nil]; exact hp.1)
      rwa [dropF_nil] at this
    have g2 := StackRel.plain (B' := B') (h' := h') (dr := []) (as := as) (by rw [show dropFs [] as = as by cases as <;> rfl]; exact hp.2) k2
    rw [show dropFs [] as = as by cases as <;> rfl] at g2
    exact ⟨f, r, e, g1, g2⟩
  | us :: dr, a :: as, fs, hp, ⟨f, r, e, k1, k2⟩ => by
    rw [show dropFs (us :: dr) (a :: as) = dropF us a :: dropFs dr as from rfl, List.all_cons, Bool.and_eq_true] at hp
    exact ⟨f, r, e, by rw [dropFs_length]; exact k1.plain hp.1, StackRel.plain hp.2 k2⟩
theorem Slots.keep {R : Bij} {a : Array Value} {us : List Nat} {t : T AV} (k : Slots R t a) : Slots R (keepG t us .leaf) a := fun u v e =>
  k u v (keepG_le (acc := .leaf) (fun _ _ e => by cases e) u v e)
theorem FrameRel.plainK {B B' : Base} {R : Bij} {d : Nat} {sus : Bool} {h h' : AHeap} {af : AFrame} {fr : Frame} {us : List Nat} (hp : plainF (keepF us af) = true) (k : FrameRel P B R d sus h af fr) : FrameRel P B' R d sus h' (keepF us af) fr := by
  obtain ⟨fn, n, t, todo, ds, mode, kind, round⟩ := af
  obtain ⟨k1, k2, k3, k4, k5, k6, k7, k8, k9⟩ := k
  refine ⟨k1, k2, k3, k4, k5, k6, k7, k8, ?_⟩
  cases mode with
  | run =>
    have k9 : TodoRel P B R d sus h todo t fr.todo fr.tmps := k9
    show TodoRel P B' R d sus h' todo (keepG t us .leaf) fr.todo fr.tmps
    cases todo with
    | nil => exact ⟨k9.1, k9.2.keep⟩
    | cons it kk =>
      cases it with
      | drw a b c => cases hp
      | _ => exact ⟨k9.1, k9.2.keep⟩
  | returning => exact Slots.keep k9
  | panicking c => exact Slots.keep k9
theorem keepFs_length : ∀ (dr : List (List Nat)) (as : List AFrame), (keepFs dr as).length = as.length
  | [], as => by cases as <;> rfl
  | _ :: _, [] => rfl
  | us :: dr, a :: as => by simp [keepFs, keepFs_length dr as]
theorem StackRel.plainK {B B' : Base} {R : Bij} {h h' : AHeap} : ∀ {dr : List (List Nat)} {as : List AFrame} {fs : List Frame}, (keepFs dr as).all plainF = true → StackRel P B R h as fs → StackRel P B' R h' (keepFs dr as) fs
  | [], [], _, _, k => k
  | _ :: _, [], _, _, k => k
  | [], a :: as, fs, hp, ⟨f, r, e, k1, k2⟩ => by
    rw [show keepFs [] (a :: as) = a :: as from rfl, List.all_cons, Bool.and_eq_true] at hp
    have g1 : FrameRel P B' R as.length true h' a f := by
      have := k1.plain (B' := B') (h' := h') (us := []) (by rw [dropF_nil]; exact hp.1)
      rwa [dropF_nil] at this
    have g2 := StackRel.plainK (B' := B') (h' := h') (dr := []) (as := as) (by rw [show keepFs [] as = as by cases as <;> rfl]; exact hp.2) k2
    rw [show keepFs [] as = as by cases as <;> rfl] at g2
    exact ⟨f, r, e, g1, g2⟩
  | us :: dr, a :: as, fs, hp, ⟨f, r, e, k1, k2⟩ => by
    rw [show keepFs (us :: dr) (a :: as) = keepF us a :: keepFs dr as from rfl, List.all_cons, Bool.and_eq_true] at hp
    exact ⟨f, r, e, by rw [keepFs_length]; exact k1.plainK hp.1, StackRel.plainK hp.2 k2⟩
theorem float_ref {ρ : Operand → Option AV} {h h' : AHeap} {op : Op} {v : AV} (hf : isFloat op = true) (e : opA P ρ h op = some (.val v h')) : v.ref = some h.next := by
  cases op with
  | alloc t =>
    change op_alloc P t ρ h = some _ at e
    unfold op_alloc allocA at e
    split at e
    · cases e
    · obtain ⟨v', h2, e1, e2⟩ := valH_inv e
      cases e2
      have := (boxA_float e1).1 h
      rw [e1] at this; cases this; rfl
  | box t x =>
    change op_box P t x ρ h = some _ at e
    obtain ⟨a, ha, e⟩ := one'_inv e
    obtain ⟨v', h2, e1, e2⟩ := valH_inv e
    cases e2
    have := (boxA_float e1).1 h
    rw [e1] at this; cases this; rfl
  | buildSlice t n parts =>
    change op_buildSlice P t n parts ρ h = some _ at e
    unfold op_buildSlice buildSliceE at e
    split at e
    · cases e
    · obtain ⟨v', h2, e1, e2⟩ := valH_inv e
      cases e2
      obtain ⟨el, cells, b1, _⟩ := buildSliceA_float e1
      have := b1 h
      rw [e1] at this; cases this; rfl
  | makeSlice t l c =>
    change op_makeSlice P t l c ρ h = some _ at e
    obtain ⟨a, b, ha, hb, e⟩ := two_inv e
    obtain ⟨v', h2, e1, e2⟩ := valH_inv e
    cases e2
    obtain ⟨el, cells, n, m, b1, _⟩ := makeSliceA_float e1
    have := b1 h
    rw [e1] at this; cases this; rfl
  | makeMap t r' =>
    cases r' with
    | none =>
      change some _ = some _ at e
      cases e; rfl
    | some x => cases hf
  | _ => cases hf
theorem Pend.only {B : Base} {d : Nat} {all : Array Oper} {t : T AV} {h h' h'' : AHeap} {p : Nat} {o : Oper} (hh : heldO h'.objs t o = true) (k : Pend P B d true all t h p o) : Pend P (B.only h') d true all t h'' p o := by
  obtain ⟨wt, k1, k2, k3⟩ := k
  refine ⟨wt, k1, k2, fun hw => ?_⟩
  rcases k3 hw with ⟨f1, vf, ob, id, f2, f3, f4, f5⟩ | ⟨f1, f2, v, f3, f4⟩ | ⟨f1, f2, f3, _⟩
  · refine .inl ⟨f1, vf, ob, id, f2, ?_, f4, f5⟩
    unfold heldO at hh
    rw [f1] at hh
    simp only at hh
    split at hh
    · cases hh
    · rename_i u hu
      have hr : (vf id).ref = some id := by
        have := float_ref f1 (f2.1 ⟨.leaf, id, .leaf⟩)
        exact this
      rw [f5 u hu] at hh
      simp only [heldV, hr] at hh
      simp only [Base.only]
      show (match h'.objs.get id with | none => none | some _ => B.pend id) = some ob
      split at hh
      · cases hh
      · rename_i q hq
        exact f3
  · exact .inr (.inl ⟨f1, f2, v, f3, f4⟩)
  · exact .inr (.inr ⟨f1, f2, f3, .inl rfl⟩)
theorem FrameRel.held {B : Base} {R : Bij} {d : Nat} {h h' h'' : AHeap} {af : AFrame} {fr : Frame} {us : List Nat} (hp : heldF h'.objs (keepD us af) = true) (k : FrameRel P B R d true h af fr) : FrameRel P (B.only h') R d true h'' (keepD us af) fr := by
  obtain ⟨fn, n, t, todo, ds, mode, kind, round⟩ := af
  have plain : plainF (keepF us ⟨fn, n, t, todo, ds, mode, kind, round⟩) = true → FrameRel P (B.only h') R d true h'' (keepF us ⟨fn, n, t, todo, ds, mode, kind, round⟩) fr := fun hp => k.plainK hp
  cases todo with
  | nil => exact plain rfl
  | cons it kk =>
    cases it with
    | drw all l dn =>
      obtain ⟨k1, k2, k3, k4, k5, k6, k7, k8, k9⟩ := k
      refine ⟨k1, k2, k3, k4, k5, k6, k7, k8, ?_⟩
      cases mode with
      | run =>
        obtain ⟨s, k', e1, e2, e3⟩ := (show ∃ s k', fr.todo = .inRegion all s :: k' ∧ All2 (ItemRel R) kk k' ∧ Drw P B R d true all l dn t h fr.tmps s from k9)
        refine ⟨s, k', e1, e2, ⟨e3.plan, e3.split, e3.topo, e3.rest, e3.own, e3.effs, e3.head, e3.slots, fun p h1 h2 o ho => ?_, e3.bound⟩⟩
        refine (e3.pend p h1 h2 o ho).only ?_
        have := List.all_eq_true.1 (show (dn.all fun p => heldP h'.objs t all[p]?) = true from hp) p h1
        rw [ho] at this
        exact this
      | returning => exact k9
      | panicking c => exact k9
    | _ => exact plain rfl
theorem keepDs_length : ∀ (dr : List (List Nat)) (as : List AFrame), (keepDs dr as).length = as.length
  | [], as => by cases as <;> rfl
  | _ :: _, [] => rfl
  | us :: dr, a :: as => by simp [keepDs, keepDs_length dr as]
theorem StackRel.held {B : Base} {R : Bij} {h h' h'' : AHeap} : ∀ {dr : List (List Nat)} {as : List AFrame} {fs : List Frame}, dr.length = as.length → (keepDs dr as).all (heldF h'.objs) = true → StackRel P B R h as fs → StackRel P (B.only h') R h'' (keepDs dr as) fs
  | [], [], _, _, _, k => k
  | _ :: _, [], _, e, _, _ => by cases e
  | [], _ :: _, _, e, _, _ => by cases e
  | us :: dr, a :: as, fs, hl, hp, ⟨f, r, e, k1, k2⟩ => by
    rw [show keepDs (us :: dr) (a :: as) = keepD us a :: keepDs dr as from rfl, List.all_cons, Bool.and_eq_true] at hp
    exact ⟨f, r, e, by rw [keepDs_length]; exact k1.held hp.1, StackRel.held (by simpa using hl) hp.2 k2⟩
end
end Go.Proofs.YtdbfpjgnlfejmaaDoor.Ev
end
section
namespace Go.Proofs.YtdbfpjgnlfejmaaDoor.Ev
open Go
noncomputable section
variable (P : Program)
abbrev Tab := List (Nat × Option Nat)
def tabGo (j : Nat) : Tab → Nat → Option (Nat × Option Nat)
  | [], _ => none
  | (k, t) :: r, i => bif Nat.beq k j then some (i, t) else tabGo j r (i + 1)
def Tab.find (tb : Tab) (j : Nat) : Option (Nat × Option Nat) := tabGo j tb 0
def Tab.ver (tb : Tab) (j s : Nat) : Option (Nat × Nat) := match tb.find j with
  | none => none
  | some (i, none) => some (i, s)
  | some (i, some t) => bif Nat.beq t s then some (i, 0) else none
def Tab.re (tb : Tab) (R : Bij) : Bij := fun i r => match tb[i]? with
  | none => none
  | some (j, none) => R j r
  | some (j, some t) => if r = 0 then R j t else none
def idG (g : Nat → Nat → Option (Nat × Nat)) (j : Nat) : Option Nat := match g j 0 with
  | none => none
  | some (i, r) => bif Nat.beq r 0 then some i else none
mutual
def canV (g : Nat → Nat → Option (Nat × Nat)) : Nat → AV → Option AV
  | 0, _ => none
  | n + 1, v => match v with
    | .ptr i r o => match g i r with
      | none => none
      | some (j, s) => some (.ptr j s o)
    | .slc i r o l c => match g i r with
      | none => none
      | some (j, s) => some (.slc j s o l c)
    | .slg i r o l c => match g i r with
      | none => none
      | some (j, s) => some (.slg j s o l c)
    | .mp i => match idG g i with
      | none => none
      | some j => some (.mp j)
    | .yld i => match idG g i with
      | none => none
      | some j => some (.yld j)
    | .fn f a b => match canL g n a, canL g n b with
      | some a, some b => some (.fn f a b)
      | _, _ => none
    | .ifc t v => match canV g n v with
      | none => none
      | some v => some (.ifc t v)
    | .agg l => match canL g n l with
      | none => none
      | some l => some (.agg l)
    | .tup l => match canL g n l with
      | none => none
      | some l => some (.tup l)
    | v => some v
def canL (g : Nat → Nat → Option (Nat × Nat)) : Nat → List AV → Option (List AV)
  | 0, _ => none
  | n + 1, l => match l with
    | [] => some []
    | v :: r => match canV g n v with
      | none => none
      | some v => match canL g n r with
        | none => none
        | some r => some (v :: r)
end
mutual
def plainV : Nat → AV → Bool
  | 0, _ => false
  | n + 1, v => match v with
    | .ptr .. | .slc .. | .slg .. | .mp _ | .yld _ => false
    | .fn _ a b => plainL n a && plainL n b
    | .ifc _ v => plainV n v
    | .agg l | .tup l => plainL n l
    | _ => true
def plainL : Nat → List AV → Bool
  | 0, _ => false
  | n + 1, l => match l with
    | [] => true
    | v :: r => plainV n v && plainL n r
end
def PlainFn (f : Nat → Option AV) : Prop := ∀ k v, f k = some v → plainV 99 v = true
def fnsT {α : Type} (t : T α) : List (Nat → Option α) :=
  T.rec (motive := fun _ => List (Nat → Option α)) [] (fun _ _ _ l r => l ++ r) (fun f => [f]) t
def canNode (g : Nat → Nat → Option (Nat × Nat)) (v : Option AV) (l r : Option (T AV)) : Option (T AV) := match l with
  | none => none
  | some l => match r with
    | none => none
    | some r => match v with
      | none => some (.node l none r)
      | some v => match canV g 99 v with
        | none => none
        | some v => some (.node l (some v) r)
def canT (g : Nat → Nat → Option (Nat × Nat)) (t : T AV) : Option (T AV) :=
  T.rec (motive := fun _ => Option (T AV)) (some .leaf) (fun _ v _ l r => canNode g v l r) (fun f => some (.fn f)) t
def keepT (g : Nat → Nat → Option (Nat × Nat)) (t : T AV) : List Nat → T AV → Option (T AV)
  | [], acc => some acc
  | u :: r, acc => match t.get u with
    | none => none
    | some v => match canV g 99 v with
      | none => none
      | some v => (acc.set (some v) u).seq fun acc => keepT g t r acc
def canTgt (g : Nat → Nat → Option (Nat × Nat)) : ATgt → Option ATgt
  | .fn f c => match canL g 99 c with
    | none => none
    | some c => some (.fn f c)
  | .nil => some .nil
  | .collected i => match idG g i with
    | none => none
    | some j => some (.collected j)
def canDef (g : Nat → Nat → Option (Nat × Nat)) (d : ADef) : Option ADef := match canTgt g d.tgt with
  | none => none
  | some t => match canL g 99 d.args with
    | none => none
    | some a => some ⟨t, a⟩
def allO {α β : Type} (f : α → Option β) : List α → Option (List β)
  | [] => some []
  | a :: r => match f a with
    | none => none
    | some b => match allO f r with
      | none => none
      | some r => some (b :: r)
def canEnt (g : Nat → Nat → Option (Nat × Nat)) (e : AEntry) : Option AEntry := match canV g 99 e.key with
  | none => none
  | some k => match canV g 99 e.val with
    | none => none
    | some v => some ⟨k, v, e.born⟩
def canO (g : Nat → Nat → Option (Nat × Nat)) (t : Option Nat) : AObj → Option AObj
  | .cells c n el lo hi nv fz sg ex => match canT g c with
    | none => none
    | some c => match t with
      | none => some (.cells c n el lo hi nv fz sg ex)
      | some h => bif Nat.beq h hi && Nat.ble lo hi then some (.cells c n el 0 0 1 fz sg .leaf) else none
  | o => match t with
    | some _ => none
    | none => match o with
      | .map es clock => match allO (canEnt g) es with
        | none => none
        | some es => some (.map es clock)
      | .iter s p => some (.iter s p)
      | .ro c lo n => some (.ro c lo n)
      | .dfrd none => some (.dfrd none)
      | .dfrd (some ds) => match allO (canDef g) ds with
        | none => none
        | some ds => some (.dfrd (some ds))
      | .loop ⟨st, pe, fn, n, tmps, ps, asg, body, df⟩ => match canT g tmps with
        | none => none
        | some tmps => match idG g df with
          | none => none
          | some df => some (.loop ⟨st, pe, fn, n, tmps, ps, asg, body, df⟩)
      | _ => none
def fnsO : AObj → List (Nat → Option AV)
  | .cells c .. => fnsT c
  | .loop l => fnsT l.tmps
  | _ => []
def canObjs (tb : Tab) (objs : T AObj) : Tab → Nat → T AObj → Option (T AObj)
  | [], _, acc => some acc
  | (j, t) :: r, i, acc => match objs.get j with
    | none => none
    | some o => match canO tb.ver t o with
      | none => none
      | some o => (acc.set (some o) i).seq fun acc => canObjs tb objs r (i + 1) acc
def fnsH (objs : T AObj) : Tab → List (Nat → Option AV)
  | [] => []
  | (j, _) :: r => match objs.get j with
    | none => []
    | some o => fnsO o ++ fnsH objs r
def canHeap (tb : Tab) (h : AHeap) : Option AHeap := match h with
  | ⟨objs, next, glob⟩ => bif tb.all (fun p => Nat.blt p.1 next) then match canObjs tb objs tb 0 .leaf with
    | none => none
    | some objs => some ⟨objs, tb.length, glob⟩ else none
def canItem (g : Nat → Nat → Option (Nat × Nat)) : AItem → Option AItem
  | .inRange i => match idG g i with
    | none => none
    | some j => some (.inRange j)
  | .endRange i => match idG g i with
    | none => none
    | some j => some (.endRange j)
  | .drw .. => none
  | it => some it
def canMode (g : Nat → Nat → Option (Nat × Nat)) : AMode → Option AMode
  | .run => some .run
  | .returning => some .returning
  | .panicking c => match allO (fun (p : AV × Bool) => match canV g 99 p.1 with
    | none => none
    | some v => some (v, p.2)) c with
    | none => none
    | some c => some (.panicking c)
def canRound (g : Nat → Nat → Option (Nat × Nat)) : Option Nat → Option (Option Nat)
  | none => some none
  | some l => match idG g l with
    | none => none
    | some j => some (some j)
def canF (g : Nat → Nat → Option (Nat × Nat)) (us : List Nat) (fr : AFrame) : Option AFrame := match fr with
  | ⟨fn, n, t, todo, ds, mode, kind, round⟩ => match keepT g t us .leaf with
    | none => none
    | some t => match allO (canItem g) todo with
      | none => none
      | some todo => match allO (canDef g) ds with
        | none => none
        | some ds => match canMode g mode with
          | none => none
          | some mode => match canRound g round with
            | none => none
            | some round => some ⟨fn, n, t, todo, ds, mode, kind, round⟩
def canFs (g : Nat → Nat → Option (Nat × Nat)) : List (List Nat) → List AFrame → Option (List AFrame)
  | us :: r, f :: fs => match canF g us f with
    | none => none
    | some f => match canFs g r fs with
      | none => none
      | some fs => some (f :: fs)
  | [], [] => some []
  | _, _ => none
def tabOf (keep : Nat) (objs : T AObj) : List Nat → Nat → Tab
  | [], _ => []
  | j :: r, i => (j, bif Nat.blt i keep then none else match objs.get j with
    | some (.cells _ _ _ lo hi ..) => bif Nat.beq lo hi then some hi else none
    | _ => none) :: tabOf keep objs r (i + 1)
def nodup : List Nat → Bool
  | [] => true
  | i :: r => !(r.any fun j => Nat.beq i j) && nodup r
def stays : List Nat → Nat → Nat → Bool
  | _, 0, _ => true
  | [], _ + 1, _ => false
  | j :: r, k + 1, i => Nat.beq j i && stays r k (i + 1)
def canM (keep : Nat) (ids : List Nat) (us : List Nat) (uss : List (List Nat)) (m : AM) : Option AM := match m with
  | ⟨top, rest, heap⟩ => bif nodup ids && stays ids keep 0 then
      match canHeap (tabOf keep heap.objs ids 0) heap with
      | none => none
      | some h => match canF (tabOf keep heap.objs ids 0).ver us top with
        | none => none
        | some top => match canFs (tabOf keep heap.objs ids 0).ver uss rest with
          | none => none
          | some rest => some ⟨top, rest, h⟩
    else none
def PlainFns : List (Nat → Option AV) → Prop → Prop
  | [], K => K
  | f :: r, K => PlainFn f ∧ PlainFns r K
def CanP (keep : Nat) (ids us : List Nat) (uss : List (List Nat)) (m : AM) (K : AM → Prop) : Prop := match canM keep ids us uss m with
  | none => False
  | some m' => PlainFns (fnsH m.heap.objs (tabOf keep m.heap.objs ids 0)) (K m')
end
section
variable {P : Program} {tb : Tab} {R : Bij}
theorem tabGo_some {j : Nat} : ∀ {l : Tab} {i i' : Nat} {t : Option Nat}, tabGo j l i = some (i', t) → i ≤ i' ∧ l[i' - i]? = some (j, t)
  | [], _, _, _, e => by cases e
  | (k, t0) :: r, i, i', t, e => by
    unfold tabGo at e
    cases hb : Nat.beq k j with
    | true =>
      rw [hb] at e; cases e
      rw [Nat.eq_of_beq_eq_true hb]
      exact ⟨Nat.le_refl _, by simp⟩
    | false =>
      rw [hb] at e
      obtain ⟨h1, h2⟩ := tabGo_some (l := r) e
      refine ⟨by omega, ?_⟩
      rw [show i' - i = (i' - (i + 1)) + 1 by omega, List.getElem?_cons_succ]
      exact h2
theorem Tab.ver_some {j s i r : Nat} (e : tb.ver j s = some (i, r)) : ∀ L, R j s = some L → tb.re R i r = some L := by
  intro L hL
  unfold Tab.ver at e
  split at e
  · cases e
  · rename_i i' hf
    cases e
    have := (tabGo_some hf).2
    simp only [Nat.sub_zero] at this
    simp only [Tab.re, this]
    exact hL
  · rename_i i' t hf
    have := (tabGo_some hf).2
    simp only [Nat.sub_zero] at this
    cases hb : Nat.beq t s with
    | false => rw [hb] at e; cases e
    | true =>
      rw [hb] at e; cases e
      have := Nat.eq_of_beq_eq_true hb
      simp only [Tab.re, *, if_true]
mutual
theorem plainV_rel {R' : Bij} : ∀ (n : Nat) (v : AV) (x : Value), plainV n v = true → VRel R v x → VRel R' v x
  | 0, _, _, e, _ => by simp [plainV] at e
  | n + 1, v, x, e, k => by
    cases v <;> simp only [plainV, Bool.and_eq_true, Bool.false_eq_true] at e
    case fn f a b =>
      obtain ⟨h0, p, q, h1, h2, h3⟩ := k
      exact ⟨h0, p, q, h1, plainL_rel n _ _ e.1 h2, plainL_rel n _ _ e.2 h3⟩
    case ifc t y =>
      obtain ⟨z, h1, h2⟩ := k
      exact ⟨z, h1, plainV_rel n _ _ e h2⟩
    case agg l =>
      obtain ⟨z, h1, h2⟩ := k
      exact ⟨z, h1, plainL_rel n _ _ e h2⟩
    case tup l =>
      obtain ⟨z, h1, h2⟩ := k
      exact ⟨z, h1, plainL_rel n _ _ e h2⟩
    all_goals exact k
theorem plainL_rel {R' : Bij} : ∀ (n : Nat) (l : List AV) (x : List Value), plainL n l = true → VRels R l x → VRels R' l x
  | 0, _, _, e, _ => by simp [plainL] at e
  | n + 1, l, x, e, k => by
    cases l with
    | nil => exact k
    | cons v r =>
      simp only [plainL, Bool.and_eq_true] at e
      obtain ⟨y, ys, h1, h2, h3⟩ := k
      exact ⟨y, ys, h1, plainV_rel n _ _ e.1 h2, plainL_rel n _ _ e.2 h3⟩
end
def RenOk (g : Nat → Nat → Option (Nat × Nat)) (R R' : Bij) : Prop := ∀ j s i r, g j s = some (i, r) → ∀ L, R j s = some L → R' i r = some L
theorem Tab.ok (tb : Tab) (R : Bij) : RenOk tb.ver R (tb.re R) := fun _ _ _ _ e => Tab.ver_some e
end
section
variable {P : Program} {g : Nat → Nat → Option (Nat × Nat)} {R R' : Bij} (hg : RenOk g R R')
include hg
theorem RenOk.id {j i : Nat} (e : idG g j = some i) : ∀ L, R j 0 = some L → R' i 0 = some L := by
  unfold idG at e
  split at e
  · cases e
  · rename_i i' r hv
    cases hb : Nat.beq r 0 with
    | false => rw [hb] at e; cases e
    | true =>
      rw [hb] at e; cases e
      have := Nat.eq_of_beq_eq_true hb
      subst this
      exact hg _ _ _ _ hv
mutual
theorem canV_rel : ∀ (n : Nat) (v v' : AV) (x : Value), canV g n v = some v' → VRel R v x → VRel R' v' x
  | 0, _, _, _, e, _ => by simp [canV] at e
  | n + 1, v, v', x, e, k => by
    cases v <;> simp only [canV] at e
    case ptr i r o =>
      split at e
      · cases e
      · rename_i j s hv; cases e
        obtain ⟨L, h1, h2⟩ := k
        exact ⟨L, hg _ _ _ _ hv L h1, h2⟩
    case slc i r o l c =>
      split at e
      · cases e
      · rename_i j s hv; cases e
        obtain ⟨L, h1, h2⟩ := k
        exact ⟨L, hg _ _ _ _ hv L h1, h2⟩
    case slg i r o l c =>
      split at e
      · cases e
      · rename_i j s hv; cases e
        obtain ⟨L, a, h1, h2⟩ := k
        exact ⟨L, a, hg _ _ _ _ hv L h1, h2⟩
    case mp i =>
      split at e
      · cases e
      · rename_i j hv; cases e
        obtain ⟨L, h1, h2⟩ := k
        exact ⟨L, hg.id hv L h1, h2⟩
    case yld i =>
      split at e
      · cases e
      · rename_i j hv; cases e
        obtain ⟨L, h1, h2⟩ := k
        exact ⟨L, hg.id hv L h1, h2⟩
    case fn f a b =>
      split at e
      · rename_i a' b' ha hb
        cases e
        obtain ⟨h0, p, q, h1, h2, h3⟩ := k
        exact ⟨h0, p, q, h1, canL_rel n _ _ _ ha h2, canL_rel n _ _ _ hb h3⟩
      · cases e
    case ifc t y =>
      split at e
      · cases e
      · rename_i y' hy; cases e
        obtain ⟨z, h1, h2⟩ := k
        exact ⟨z, h1, canV_rel n _ _ _ hy h2⟩
    case agg l =>
      split at e
      · cases e
      · rename_i y' hy; cases e
        obtain ⟨z, h1, h2⟩ := k
        exact ⟨z, h1, canL_rel n _ _ _ hy h2⟩
    case tup l =>
      split at e
      · cases e
      · rename_i y' hy; cases e
        obtain ⟨z, h1, h2⟩ := k
        exact ⟨z, h1, canL_rel n _ _ _ hy h2⟩
    all_goals (cases e; exact k)
theorem canL_rel : ∀ (n : Nat) (l l' : List AV) (x : List Value), canL g n l = some l' → VRels R l x → VRels R' l' x
  | 0, _, _, _, e, _ => by simp [canL] at e
  | n + 1, l, l', x, e, k => by
    have _ := hg
    cases l with
    | nil => simp only [canL] at e; cases e; exact k
    | cons v r =>
      simp only [canL] at e
      split at e
      · cases e
      · rename_i v' hv
        split at e
        · cases e
        · rename_i r' hr
          cases e
          obtain ⟨y, ys, h1, h2, h3⟩ := k
          exact ⟨y, ys, h1, canV_rel n _ _ _ hv h2, canL_rel n _ _ _ hr h3⟩
end
omit hg in
theorem fnsT_node {α : Type} (l : T α) (v : Option α) (r : T α) : fnsT (.node l v r) = fnsT l ++ fnsT r := rfl
omit hg in
theorem canT_get : ∀ {t t' : T AV}, canT g t = some t' → (∀ f ∈ fnsT t, PlainFn f) → ∀ u v', t'.get u = some v' → ∃ v, t.get u = some v ∧ (canV g 99 v = some v' ∨ v' = v ∧ plainV 99 v = true)
  | .leaf, t', e, _, u, v', gg => by cases e; cases gg
  | .fn f, t', e, hp, u, v', gg => by cases e; exact ⟨v', gg, .inr ⟨rfl, hp f (by simp [fnsT]) u v' gg⟩⟩
  | .node l v r, t', e, hp, u, v', gg => by
    change canNode g v (canT g l) (canT g r) = some t' at e
    unfold canNode at e
    rw [fnsT_node] at hp
    split at e
    · cases e
    · rename_i l' hl
      split at e
      · cases e
      · rename_i r' hr
        have step : ∀ {w w' : Option AV}, t' = .node l' w' r' → (∀ x, w' = some x → ∃ y, w = some y ∧ canV g 99 y = some x) → v = w → ∃ v, (T.node l w r).get u = some v ∧ (canV g 99 v = some v' ∨ v' = v ∧ plainV 99 v = true) := by
          intro w w' ht hw _
          subst ht
          rw [T.get_node] at gg ⊢
          split at gg
          · obtain ⟨y, h1, h2⟩ := hw v' gg
            subst h1
            exact ⟨y, by rw [if_pos (by assumption)], .inl h2⟩
          · rename_i h0
            rw [if_neg h0]
            split at gg
            · rename_i h1
              rw [if_pos h1]
              exact canT_get hl (fun f hf => hp f (List.mem_append_left _ hf)) _ v' gg
            · rename_i h1
              rw [if_neg h1]
              exact canT_get hr (fun f hf => hp f (List.mem_append_right _ hf)) _ v' gg
        split at e
        · cases e
          exact step rfl (fun x hx => by cases hx) rfl
        · rename_i y
          split at e
          · cases e
          · rename_i y' hy
            cases e
            exact step rfl (fun x hx => by cases hx; exact ⟨y, rfl, hy⟩) rfl
theorem canT_rel {t t' : T AV} (e : canT g t = some t') (hp : ∀ f ∈ fnsT t, PlainFn f) {u : Nat} {v' : AV} (g : t'.get u = some v') : ∃ v, t.get u = some v ∧ ∀ x, VRel R v x → VRel R' v' x := by
  obtain ⟨v, h1, h2⟩ := canT_get e hp u v' g
  refine ⟨v, h1, fun x k => ?_⟩
  rcases h2 with h2 | ⟨rfl, h2⟩
  · exact canV_rel hg 99 _ _ _ h2 k
  · exact plainV_rel 99 _ _ h2 k
omit hg in
theorem keepT_rel {t : T AV} : ∀ {us : List Nat} {acc t' : T AV}, keepT g t us acc = some t' → (∀ u v', acc.get u = some v' → ∃ v, t.get u = some v ∧ canV g 99 v = some v') → ∀ u v', t'.get u = some v' → ∃ v, t.get u = some v ∧ canV g 99 v = some v'
  | [], acc, t', e, h => by cases e; exact h
  | u0 :: r, acc, t', e, h => by
    unfold keepT at e
    split at e
    · cases e
    · rename_i v0 h0
      split at e
      · cases e
      · rename_i v1 h1
        rw [T.seq_eq] at e
        refine keepT_rel e fun u v' g => ?_
        rw [T.get_set] at g
        split at g
        · rename_i hu
          cases g
          rw [hu]
          exact ⟨v0, h0, h1⟩
        · exact h u v' g
omit hg in
theorem allO_rel {α β γ : Type} {f : α → Option β} {r : α → γ → Prop} {r' : β → γ → Prop} (h : ∀ a b c, f a = some b → r a c → r' b c) : ∀ {l : List α} {l' : List β} {m : List γ}, allO f l = some l' → All2 r l m → All2 r' l' m
  | [], _, _, e, k => by cases e; exact k
  | a :: l, l', m, e, k => by
    unfold allO at e
    split at e
    · cases e
    · rename_i b hb
      split at e
      · cases e
      · rename_i r0 hr0
        cases e
        obtain ⟨c, cs, h1, h2, h3⟩ := k
        exact ⟨c, cs, h1, h _ _ _ hb h2, allO_rel h hr0 h3⟩
theorem canTgt_rel {t t' : ATgt} {x : Target} (e : canTgt g t = some t') (k : TgtRel R t x) : TgtRel R' t' x := by
  cases t with
  | fn f c =>
    simp only [canTgt] at e
    split at e
    · cases e
    · rename_i c' hc
      cases e
      obtain ⟨h0, l, h1, h2⟩ := k
      exact ⟨h0, l, h1, canL_rel hg 99 _ _ _ hc h2⟩
  | nil => cases e; exact k
  | collected i =>
    simp only [canTgt] at e
    split at e
    · cases e
    · rename_i j hj
      cases e
      obtain ⟨L, h1, h2⟩ := k
      exact ⟨L, hg.id hj L h1, h2⟩
theorem canDef_rel {d d' : ADef} {x : Deferred} (e : canDef g d = some d') (k : DefRel R d x) : DefRel R' d' x := by
  unfold canDef at e
  split at e
  · cases e
  · rename_i t ht
    split at e
    · cases e
    · rename_i a ha
      cases e
      exact ⟨canTgt_rel hg ht k.1, canL_rel hg 99 _ _ _ ha k.2⟩
theorem canEnt_rel {d d' : AEntry} {x : MapEntry} (e : canEnt g d = some d') (k : ERel R d x) : ERel R' d' x := by
  unfold canEnt at e
  split at e
  · cases e
  · rename_i t ht
    split at e
    · cases e
    · rename_i a ha
      cases e
      exact ⟨canV_rel hg 99 _ _ _ ht k.1, canV_rel hg 99 _ _ _ ha k.2.1, k.2.2⟩
theorem canItem_rel {d d' : AItem} {x : Item} (e : canItem g d = some d') (k : ItemRel R d x) : ItemRel R' d' x := by
  cases d <;> simp only [canItem] at e
  case inRange i =>
    split at e
    · cases e
    · rename_i j hj
      cases e
      obtain ⟨L, h1, h2⟩ := k
      exact ⟨L, hg.id hj L h1, h2⟩
  case endRange i =>
    split at e
    · cases e
    · rename_i j hj
      cases e
      obtain ⟨L, h1, h2⟩ := k
      exact ⟨L, hg.id hj L h1, h2⟩
  case drw => cases e
  all_goals (cases e; exact k)
theorem canMode_rel {d d' : AMode} {x : FrameMode} (e : canMode g d = some d') (k : ModeRel R d x) : ModeRel R' d' x := by
  cases d <;> simp only [canMode] at e
  case panicking c =>
    split at e
    · cases e
    · rename_i c' hc
      cases e
      obtain ⟨l, h1, h2⟩ := k
      refine ⟨l, h1, allO_rel (fun a b z hab hz => ?_) hc h2⟩
      split at hab
      · cases hab
      · rename_i v hv
        cases hab
        exact ⟨canV_rel hg 99 _ _ _ hv hz.1, hz.2⟩
  all_goals (cases e; exact k)
theorem canRound_rel {d d' : Option Nat} {x : Option Nat} (e : canRound g d = some d') (k : RoundRel R d x) : RoundRel R' d' x := by
  cases d <;> simp only [canRound] at e
  · cases e; exact k
  · split at e
    · cases e
    · rename_i j hj
      cases e
      obtain ⟨L, h1, h2⟩ := k
      exact ⟨L, hg.id hj L h1, h2⟩
theorem keepT_slots {t t' : T AV} {us : List Nat} {a : Array Value} (e : keepT g t us .leaf = some t') (k : Slots R t a) : Slots R' t' a := fun u v' g => by
  obtain ⟨v, h1, h2⟩ := keepT_rel e (fun u v' g => by cases g) u v' g
  obtain ⟨x, h3, h4⟩ := k u v h1
  exact ⟨x, h3, canV_rel hg 99 _ _ _ h2 h4⟩
omit hg in
theorem allO_items : ∀ {l l' : List AItem}, allO (canItem g) l = some l' → ∀ it ∈ l, ∀ a b c, it ≠ .drw a b c
  | [], _, _, _, h => absurd h List.not_mem_nil
  | a :: l, l', e, it, hm => by
    unfold allO at e
    split at e
    · cases e
    · rename_i b hb
      split at e
      · cases e
      · rename_i r0 hr0
        rcases List.mem_cons.1 hm with h | h
        · subst h
          intro a b c h
          subst h; cases hb
        · exact allO_items hr0 it h
omit hg in
theorem canItem_plain {d d' : AItem} (e : canItem g d = some d') : ∀ a b c, d' ≠ .drw a b c := by
  intro a b c h
  subst h
  cases d <;> simp only [canItem] at e
  case inRange i => split at e <;> cases e
  case endRange i => split at e <;> cases e
  all_goals cases e
theorem canF_rel {B B' : Base} {d d' : Nat} {sus sus' : Bool} {h h' : AHeap} {af af' : AFrame} {fr : Frame} {us : List Nat} (e : canF g us af = some af') (k : FrameRel P B R d sus h af fr) : FrameRel P B' R' d' sus' h' af' fr := by
  obtain ⟨fn, n, t, todo, ds, mode, kind, round⟩ := af
  simp only [canF] at e
  split at e
  · cases e
  rename_i t' ht
  split at e
  · cases e
  rename_i todo' htodo
  split at e
  · cases e
  rename_i ds' hds
  split at e
  · cases e
  rename_i mode' hmode
  split at e
  · cases e
  rename_i round' hround
  cases e
  obtain ⟨k1, k2, k3, k4, k5, k6, k7, k8, k9⟩ := k
  refine ⟨k1, k2, k3, k4, canRound_rel hg hround k5, allO_rel (r := DefRel R) (r' := DefRel R') (fun _ _ _ => canDef_rel hg) hds k6, canMode_rel hg hmode k7, k8, ?_⟩
  have htr : ∀ {a : Array Value} {ct : List Item}, TodoRel P B R d sus h todo t ct a → TodoRel P B' R' d' sus' h' todo' t' ct a := by
    intro a ct q
    have q' : All2 (ItemRel R) todo ct ∧ Slots R t a := by
      cases todo with
      | nil => exact q
      | cons it kk =>
        cases it with
        | drw a b c => exact absurd rfl (allO_items htodo _ List.mem_cons_self a b c)
        | _ => exact q
    have g : All2 (ItemRel R') todo' ct ∧ Slots R' t' a := ⟨allO_rel (r := ItemRel R) (r' := ItemRel R') (fun _ _ _ => canItem_rel hg) htodo q'.1, keepT_slots hg ht q'.2⟩
    cases todo' with
    | nil => exact g
    | cons it kk =>
      cases it with
      | drw a b c =>
        exfalso
        cases todo with
        | nil => cases htodo
        | cons i0 k0 =>
          unfold allO at htodo
          split at htodo
          · cases htodo
          · rename_i b0 hb0
            split at htodo
            · cases htodo
            · cases htodo
              exact canItem_plain hb0 a b c rfl
      | _ => exact g
  cases mode with
  | run => cases hmode; exact htr k9
  | returning => cases hmode; exact keepT_slots hg ht k9
  | panicking c =>
    simp only [canMode] at hmode
    split at hmode
    · cases hmode
    · cases hmode; exact keepT_slots hg ht k9
theorem canFs_rel {B B' : Base} {h h' : AHeap} : ∀ {uss : List (List Nat)} {as as' : List AFrame} {fs : List Frame}, canFs g uss as = some as' → StackRel P B R h as fs → StackRel P B' R' h' as' fs ∧ as'.length = as.length
  | [], [], _, _, e, k => by cases e; exact ⟨k, rfl⟩
  | [], _ :: _, _, _, e, _ => by cases e
  | _ :: _, [], _, _, e, _ => by cases e
  | us :: uss, a :: as, as', fs, e, ⟨f, r, e1, k1, k2⟩ => by
    simp only [canFs] at e
    split at e
    · cases e
    · rename_i a' ha
      split at e
      · cases e
      · rename_i r' hr
        cases e
        obtain ⟨g1, g2⟩ := canFs_rel (B' := B') (h' := h') hr k2
        exact ⟨⟨f, r, e1, by rw [g2]; exact canF_rel hg ha k1, g1⟩, by simp [g2]⟩
theorem canO_rel {w : World} {i j : Nat} {t : Option Nat} {o o' : AObj} (hre : t = none → ∀ r, R' i r = R j r) (hve : ∀ t0, t = some t0 → ∀ r, R' i r = if r = 0 then R j t0 else none) (e : canO g t o = some o') (hp : ∀ f ∈ fnsO o, PlainFn f) (k : ObjRel P R w j o) : ObjRel P R' w i o' := by
  cases o with
  | cells c n el lo hi' nv fz sg ex =>
    simp only [canO] at e
    split at e
    · cases e
    · rename_i c' hc
      obtain ⟨a1, a2, a3, a4, a5⟩ := k
      have hv : ∀ {e L}, VerRel P R w c el fz sg e L → VerRel P R' w c' el fz sg e L := by
        intro e L ⟨cs, a, b, h1, h2, h3, h4, h5⟩
        refine ⟨cs, a, b, h1, h2, h3, h4, fun q v g1 g2 g3 => ?_⟩
        obtain ⟨v0, q1, q2⟩ := canT_rel hg hc hp g3
        obtain ⟨x, q3, q4⟩ := h5 q v0 g1 g2 q1
        exact ⟨x, q3, q2 x q4⟩
      split at e
      · cases e
        refine ⟨a1, a2, fun r hr => by rw [hre rfl]; exact a3 r hr, fun r e b1 b2 b3 => ?_, a5⟩
        obtain ⟨L, h1, h2⟩ := a4 r e b1 b2 b3
        exact ⟨L, by rw [hre rfl]; exact h1, hv h2⟩
      · rename_i t0
        cases hb : (Nat.beq t0 hi' && Nat.ble lo hi') with
        | false => rw [hb] at e; cases e
        | true =>
          rw [hb] at e; cases e
          rw [Bool.and_eq_true] at hb
          have ht := Nat.eq_of_beq_eq_true hb.1
          subst ht
          refine ⟨Nat.le_refl _, by omega, fun r hr => ?_, fun r e b1 b2 b3 => ?_, fun r e b1 b2 b3 => ?_⟩
          · rw [hve _ rfl, if_neg (by omega)]
          · obtain rfl : r = 0 := by omega
            simp only [extOf, if_true, Option.some.injEq] at b3
            subst b3
            obtain ⟨L, h1, h2⟩ := a4 t0 n a1 (Nat.le_refl _) (by simp [extOf])
            exact ⟨L, by rw [hve _ rfl, if_pos rfl]; exact h1, hv h2⟩
          · obtain rfl : r = 0 := by omega
            simp only [extOf, if_true, Option.some.injEq] at b3
            omega
  | map es clock =>
    simp only [canO] at e
    split at e
    · cases e
    · split at e
      · cases e
      · rename_i es' hes
        cases e
        obtain ⟨L, es0, h1, h2, h3⟩ := k
        exact ⟨L, es0, by rw [hre rfl]; exact h1, h2, allO_rel (r := ERel R) (r' := ERel R') (fun _ _ _ => canEnt_rel hg) hes h3⟩
  | iter s p =>
    simp only [canO] at e
    split at e
    · cases e
    · cases e
      obtain ⟨L, h1, h2⟩ := k
      exact ⟨L, by rw [hre rfl]; exact h1, h2⟩
  | ro c lo n =>
    simp only [canO] at e
    split at e
    · cases e
    · cases e
      obtain ⟨L, cs, el, fz, h1, h2, h3, h4, h5⟩ := k
      exact ⟨L, cs, el, fz, by rw [hre rfl]; exact h1, h2, h3, h4, h5⟩
  | dfrd ds =>
    simp only [canO] at e
    split at e
    · cases e
    · obtain ⟨L, ds', h1, h2, h3⟩ := k
      cases ds with
      | none => cases e; exact ⟨L, ds', by rw [hre rfl]; exact h1, h2, h3⟩
      | some ds =>
        simp only at e
        split at e
        · cases e
        · rename_i ds0 hds
          cases e
          obtain ⟨l, h4, h5⟩ := h3
          exact ⟨L, ds', by rw [hre rfl]; exact h1, h2, l, h4, allO_rel (r := DefRel R) (r' := DefRel R') (fun _ _ _ => canDef_rel hg) hds h5⟩
  | loop lp =>
    obtain ⟨st, pe, fn, n, tmps, ps, asg, body, df⟩ := lp
    simp only [canO] at e
    split at e
    · cases e
    · split at e
      · cases e
      · rename_i tmps' ht
        split at e
        · cases e
        · rename_i df' hdf
          cases e
          obtain ⟨L, lp', h1, h2, h3⟩ := k
          refine ⟨L, lp', by rw [hre rfl]; exact h1, h2, h3.state, h3.pending, h3.fn, ⟨h3.tmps.1, fun u v' g => ?_⟩, h3.params, h3.assign, h3.body, ?_⟩
          · obtain ⟨v, q1, q2⟩ := canT_rel hg ht hp g
            obtain ⟨x, q3, q4⟩ := h3.tmps.2 u v q1
            exact ⟨x, q3, q2 x q4⟩
          · obtain ⟨M, q1, q2⟩ := h3.defers
            exact ⟨M, hg.id hdf M q1, q2⟩
end
section
variable {P : Program} {tb : Tab} {R : Bij}
theorem canObjs_get {objs : T AObj} {n : Nat} : ∀ {l : Tab} {i : Nat} {acc objs' : T AObj}, canObjs tb objs l i acc = some objs' → (∀ q o', acc.get q = some o' → ∃ j t o, tb[q]? = some (j, t) ∧ objs.get j = some o ∧ canO tb.ver t o = some o') →
    (∀ q, l[q]? = tb[i + q]?) → ∀ q o', objs'.get q = some o' → ∃ j t o, tb[q]? = some (j, t) ∧ objs.get j = some o ∧ canO tb.ver t o = some o'
  | [], i, acc, objs', e, h, _ => by cases e; exact h
  | (j, t) :: r, i, acc, objs', e, h, hl => by
    unfold canObjs at e
    split at e
    · cases e
    · rename_i o ho
      split at e
      · cases e
      · rename_i o1 ho1
        rw [T.seq_eq] at e
        refine canObjs_get (n := n) e (fun q o' g => ?_) (fun q => ?_)
        · rw [T.get_set] at g
          split at g
          · rename_i hq
            cases g
            subst hq
            exact ⟨j, t, o, by have := hl 0; simpa using this.symm, ho, ho1⟩
          · exact h q o' g
        · have := hl (q + 1)
          rw [List.getElem?_cons_succ] at this
          rw [this]; congr 1; omega
theorem fnsH_mem {objs : T AObj} : ∀ {l : Tab} {i j : Nat} {t : Option Nat} {o : AObj} {f : Nat → Option AV}, (∀ (q j : Nat) (t : Option Nat), l[q]? = some (j, t) → (objs.get j).isSome = true) → l[i]? = some (j, t) → objs.get j = some o → f ∈ fnsO o → f ∈ fnsH objs l
  | [], _, _, _, _, _, _, e, _, _ => by simp at e
  | (j0, t0) :: r, i, j, t, o, f, hs, e, ho, hf => by
    have h0 := hs 0 j0 t0 (by simp)
    unfold fnsH
    cases hj : objs.get j0 with
    | none => rw [hj] at h0; cases h0
    | some o0 =>
      simp only []
      cases i with
      | zero =>
        simp at e
        obtain ⟨rfl, rfl⟩ := e
        rw [hj] at ho; cases ho
        exact List.mem_append_left _ hf
      | succ i =>
        exact List.mem_append_right _ (fnsH_mem (fun q j t h => hs (q + 1) j t (by simpa using h)) (by simpa using e) ho hf)
theorem canObjs_some {objs : T AObj} : ∀ {l : Tab} {i : Nat} {acc objs' : T AObj}, canObjs tb objs l i acc = some objs' → ∀ (q j : Nat) (t : Option Nat), l[q]? = some (j, t) → (objs.get j).isSome = true
  | [], _, _, _, _, _, _, _, h => by simp at h
  | (j0, t0) :: r, i, acc, objs', e, q, j, t, h => by
    unfold canObjs at e
    split at e
    · cases e
    · rename_i o ho
      split at e
      · cases e
      · rw [T.seq_eq] at e
        cases q with
        | zero => simp at h; obtain ⟨rfl, rfl⟩ := h; rw [ho]; rfl
        | succ q => exact canObjs_some e q j t (by simpa using h)
theorem tabOf_get {keep : Nat} {objs : T AObj} : ∀ {ids : List Nat} {i q j : Nat} {t : Option Nat}, (tabOf keep objs ids i)[q]? = some (j, t) → ids[q]? = some j ∧ (i + q < keep → t = none)
  | [], _, _, _, _, h => by simp [tabOf] at h
  | j0 :: r, i, q, j, t, h => by
    unfold tabOf at h
    cases q with
    | zero =>
      simp only [List.getElem?_cons_zero, Option.some.injEq, Prod.mk.injEq] at h
      obtain ⟨rfl, h⟩ := h
      refine ⟨by simp, fun hk => ?_⟩
      have : Nat.blt i keep = true := by rw [Nat.blt_eq]; omega
      rw [this] at h
      exact h.symm
    | succ q =>
      rw [List.getElem?_cons_succ] at h
      obtain ⟨g1, g2⟩ := tabOf_get h
      exact ⟨by simpa using g1, fun hk => g2 (by omega)⟩
theorem nodup_inj : ∀ {ids : List Nat}, nodup ids = true → ∀ {p q j : Nat}, ids[p]? = some j → ids[q]? = some j → p = q
  | [], _, _, _, _, h, _ => by simp at h
  | i :: r, hn, p, q, j, hp, hq => by
    simp only [nodup, Bool.and_eq_true, Bool.not_eq_true', List.any_eq_false] at hn
    have hno : ∀ k, r[k]? = some i → False := fun k hk => hn.1 i (List.mem_of_getElem? hk) (Nat.beq_refl i)
    cases p with
    | zero =>
      cases q with
      | zero => rfl
      | succ q => simp at hp hq; subst hp; exact absurd (hno q hq) id
    | succ p =>
      cases q with
      | zero => simp at hp hq; subst hq; exact absurd (hno p hp) id
      | succ q => simp at hp hq; rw [nodup_inj hn.2 hp hq]
theorem stays_get : ∀ {ids : List Nat} {k i : Nat}, stays ids k i = true → ∀ q, q < k → ids[q]? = some (i + q)
  | _, 0, _, _, q, hq => absurd hq (Nat.not_lt_zero _)
  | [], _ + 1, _, h, _, _ => by cases h
  | j :: r, k + 1, i, h, q, hq => by
    simp only [stays, Bool.and_eq_true] at h
    cases q with
    | zero => simp; exact Nat.eq_of_beq_eq_true h.1
    | succ q =>
      rw [List.getElem?_cons_succ, stays_get h.2 q (by omega)]
      congr 1; omega
theorem tabOf_length {keep : Nat} {objs : T AObj} : ∀ {ids : List Nat} {i : Nat}, (tabOf keep objs ids i).length = ids.length
  | [], _ => rfl
  | _ :: r, i => by simp [tabOf, tabOf_length (ids := r)]
theorem PlainFns_mem {K : Prop} : ∀ {l : List (Nat → Option AV)}, PlainFns l K → (∀ f ∈ l, PlainFn f) ∧ K
  | [], h => ⟨fun _ hf => absurd hf List.not_mem_nil, h⟩
  | f :: r, h => by
    obtain ⟨g1, g2⟩ := PlainFns_mem (l := r) h.2
    exact ⟨fun f' hf => by
      rcases List.mem_cons.1 hf with e | e
      · rw [e]; exact h.1
      · exact g1 f' e, g2⟩
noncomputable def Base.re (B : Base) (tb : Tab) (h : AHeap) : Base := { B with
  pend := fun i => match tb[i]? with
    | none => none
    | some (j, _) => match B.pend j with
      | none => none
      | some _ => h.get i
  ro := fun i => ∃ j t, tb[i]? = some (j, t) ∧ B.ro j }
theorem Sim.can {w0 : Env} {base : List Frame} {keep : Nat} {ids us : List Nat} {uss : List (List Nat)} {m m' : AM} {fr : Frame} {cs : List Frame} {w : World} (hk : ∀ i r L, w0.pin i r = some L → i < keep)
    (e : canM keep ids us uss m = some m') (hp : ∀ f ∈ fnsH m.heap.objs (tabOf keep m.heap.objs ids 0), PlainFn f) (k : Sim P w0 base m fr cs w) : Sim P w0 base m' fr cs w := by
  obtain ⟨top, rest, h⟩ := m
  obtain ⟨B, R, fs, hc, hb, kh, ho, kt, kb⟩ := k
  simp only [canM] at e
  cases hn : (nodup ids && stays ids keep 0) with
  | false => rw [hn] at e; cases e
  | true =>
    rw [hn] at e
    rw [Bool.and_eq_true] at hn
    simp only [cond_true] at e
    generalize htb : tabOf keep h.objs ids 0 = tb at e hp
    split at e
    · cases e
    rename_i h' hh
    split at e
    · cases e
    rename_i top' htop
    split at e
    · cases e
    rename_i rest' hrest
    cases e
    obtain ⟨g1, g2⟩ := canFs_rel (tb.ok R) (B' := B.re tb h') (h' := h') hrest kb
    refine ⟨B.re tb h', tb.re R, fs, hc, hb, ?_, ho, ?_, g1⟩
    · obtain ⟨objs, next, glob⟩ := h
      simp only [canHeap] at hh
      cases hlt : (tb.all fun p => Nat.blt p.1 next) with
      | false => rw [hlt] at hh; cases hh
      | true =>
        rw [hlt] at hh
        simp only [cond_true] at hh
        split at hh
        · cases hh
        rename_i objs' hobjs
        cases hh
        have hget := canObjs_get (n := 0) hobjs (fun q o' g => by cases g) (fun q => by rw [Nat.zero_add])
        have hsome := canObjs_some hobjs
        have htlt : ∀ {q j : Nat} {t : Option Nat}, tb[q]? = some (j, t) → q < tb.length := fun h => (List.getElem?_eq_some_iff.1 h).1
        have hre : ∀ {i r L}, tb.re R i r = some L → ∃ j t s, tb[i]? = some (j, t) ∧ R j s = some L ∧ (t = none → s = r) ∧ (∀ t0, t = some t0 → s = t0 ∧ r = 0) := by
          intro i r L e
          unfold Tab.re at e
          split at e
          · cases e
          · rename_i j hi; exact ⟨j, none, r, hi, e, (fun _ => rfl), (fun _ h => by cases h)⟩
          · rename_i j t0 hi
            split at e
            · rename_i hr; exact ⟨j, some t0, t0, hi, e, (fun h => by cases h), (fun _ h => by cases h; exact ⟨rfl, hr⟩)⟩
            · cases e
        have hinj : ∀ {p q j : Nat} {t t' : Option Nat}, tb[p]? = some (j, t) → tb[q]? = some (j, t') → p = q := by
          intro p q j t t' h1 h2
          rw [← htb] at h1 h2
          exact nodup_inj hn.1 (tabOf_get h1).1 (tabOf_get h2).1
        refine ⟨fun i hi r => ?_, fun i o' eo hpe => ?_, fun i o' e => ?_, fun i r L e => ?_, fun i hi => ?_, fun i hi => ?_, fun i r L hi e => ?_, kh.low, fun i r L e => ?_, fun i r i' r' L L' e e' hbl hor => ?_, fun i r r' L L' e e' hbl => ?_, fun g c e => ?_⟩
        · have : tb[i]? = none := List.getElem?_eq_none hi
          simp only [Tab.re, this]
        · obtain ⟨j, t, o, q1, q2, q3⟩ := hget i o' eo
          have hpend : B.pend j = none := by
            simp only [Base.re, q1] at hpe
            cases hb : B.pend j with
            | none => rfl
            | some o0 => rw [hb] at hpe; simp only at hpe; rw [hpe] at eo; cases eo
          exact canO_rel (tb.ok R) (fun ht r => by subst ht; simp only [Tab.re, q1]) (fun t0 ht r => by subst ht; simp only [Tab.re, q1]) q3 (fun f hf => hp f (fnsH_mem hsome q1 q2 hf)) (kh.obj j o q2 hpend)
        · simp only [Base.re] at e
          split at e
          · cases e
          · rename_i j t hj
            split at e
            · cases e
            · rename_i o0 hb0
              refine ⟨htlt hj, e, fun r => ?_⟩
              have hno := (kh.pend j o0 hb0).2.2
              cases hr : tb.re R i r with
              | none => rfl
              | some L =>
                obtain ⟨j', t', s, q1, q2, _, _⟩ := hre hr
                rw [hj] at q1; cases q1
                rw [hno s] at q2; cases q2
        · obtain ⟨j, t, s, q1, q2, q3, q4⟩ := hre e
          exact ⟨(kh.place j s L q2).1.elim .inl fun hr => .inr ⟨j, t, q1, hr⟩, (kh.place j s L q2).2⟩
        · obtain ⟨j, t, q1, q2⟩ := hi
          refine ⟨htlt q1, fun o' eo => ?_⟩
          obtain ⟨j', t', o, p1, p2, p3⟩ := hget i o' eo
          rw [q1] at p1; cases p1
          have := (kh.rd j q2).2 o p2
          cases o with
          | ro c lo n =>
            cases t with
            | none => simp only [canO] at p3; cases p3; rfl
            | some t0 => simp only [canO] at p3; cases p3
          | _ => cases this
        · obtain ⟨j, t, q1, q2⟩ := hi
          simp only [Base.re, q1, kh.rp j q2]
        · obtain ⟨j, t, s, q1, q2, q3, q4⟩ := hre e
          obtain ⟨j', t', p1, p2⟩ := hi
          rw [q1] at p1; cases p1
          exact kh.rol j s L p2 q2
        · have hik := hk i r L (by have e' : B.env.pin i r = some L := e; rw [hb] at e'; exact e')
          have hst := stays_get hn.2 i hik
          have hlen : i < tb.length := by
            rw [← htb, tabOf_length]; exact (List.getElem?_eq_some_iff.1 hst).1
          obtain ⟨⟨j, t⟩, hjt⟩ : ∃ p, tb[i]? = some p := ⟨_, List.getElem?_eq_getElem hlen⟩
          have := hjt
          rw [← htb] at this
          obtain ⟨a1, a2⟩ := tabOf_get this
          rw [a1] at hst
          simp only [Nat.zero_add, Option.some.injEq] at hst a2
          have ht := a2 hik
          subst hst ht
          simp only [Tab.re, hjt]
          exact kh.pin _ r L e
        · obtain ⟨j, t, s, q1, q2, _, _⟩ := hre e
          obtain ⟨j', t', s', q1', q2', _, _⟩ := hre e'
          have := kh.apart j s j' s' L L' q2 q2' hbl (hor.imp (fun hn hr => hn ⟨j, t, q1, hr⟩) (fun hn hr => hn ⟨j', t', q1', hr⟩))
          subst this
          exact hinj q1 q1'
        · obtain ⟨j, t, s, q1, q2, _, _⟩ := hre e
          obtain ⟨j', t', s', q1', q2', _, _⟩ := hre e'
          rw [q1] at q1'; cases q1'
          exact kh.same j s s' L L' q2 q2' hbl
        · exact kh.glob g c e
    · show FrameRel P _ _ rest'.length false _ top' fr
      rw [g2]
      exact canF_rel (tb.ok R) htop kt
end
end Go.Proofs.YtdbfpjgnlfejmaaDoor.Ev
end
section
namespace Go.Proofs.YtdbfpjgnlfejmaaDoor.Ev
open Go
def Goal (P : Program) (keep : Nat) (f0 : FuncId) (Q : AV → AHeap → Prop) (m : AM) : Prop :=
  ∀ (w0 : Env) (base : List Frame) (fr : Frame) (cs : List Frame) (w : World), (∀ i r L, w0.pin i r = some L → i < keep) → Sim P w0 base m fr cs w →
    ∃ (fr' : Frame) (w' : World) (B : Base) (R : Bij) (v : AV) (v' : Value) (h' : AHeap), Steps P (lone fr cs w) (lone fr' base w') ∧ fr'.leaving P w' (.returned v') ∧ fr'.fn = f0 ∧
      VRel R v v' ∧ B.env = w0 ∧ HRel P B R h' w' ∧ Old0 w0.toWorld w' ∧ Q v h'
noncomputable section
variable (P : Program)
mutual
def okD : Nat → AV → Bool
  | 0, _ => false
  | n + 1, v => match v with
    | .fn _ a b => okDL n a && okDL n b
    | .ifc _ v => okD n v
    | .agg l | .tup l => okDL n l
    | _ => true
def okDL : Nat → List AV → Bool
  | 0, _ => false
  | n + 1, l => match l with
    | [] => true
    | v :: r => okD n v && okDL n r
end
def andIf (b : Bool) (K : Prop) : Prop := match b with
  | true => K
  | false => False
def atP (p : AV) (size : Nat) (i : Int) (len : Nat) : Option (AV × Prop) := match p with
  | .ptr id ver off => some (.ptr id ver (off + i.toNat * size), 0 ≤ i ∧ i < len)
  | .gp g off => some (.gp g (off + i.toNat * size), 0 ≤ i ∧ i < len)
  | _ => none
def elemS (size : Nat) (x : AV) (i : Int) : Option (AV × Prop) := match x with
  | .slc id ver off len _ => atP (.ptr id ver off) size i len
  | .slg id ver off len _ => atP (.ptr id ver off) size i len
  | _ => none
def indexAddrS (t : TypeId) (x ix : AV) : Option (AV × Prop) := match ix with
  | .int _ i => match P.underlying t with
    | some (.array len el) => match sizeT P el with
      | none => none
      | some s => atP x s i len
    | some (.slice el) => match sizeT P el with
      | none => none
      | some s => elemS s x i
    | _ => none
  | _ => none
def isOneT (t : TypeId) : Bool := match aggT P t with
  | some b => !b
  | none => false
def indexS (t : TypeId) (x ix : AV) : Option (AV × Prop) := match ix with
  | .int _ i => match P.underlying t with
    | some .string => match x with
      | .str s => some (.int .u8 (s.getD i.toNat 0).toNat, 0 ≤ i ∧ i < s.length)
      | _ => none
    | some (.array len el) => match x with
      | .agg cs => match isOneT P el with
        | false => none
        | true => match sizeT P el with
          | none => none
          | some s => some (cs.getD (i.toNat * s) undefA, (0 ≤ i ∧ i < len) ∧ i.toNat * s < cs.length)
      | _ => none
    | _ => none
  | _ => none
def boundsS (len cap : Nat) (lo hi mx : Option Int) : Nat × Nat × Nat × Prop :=
  let m : Nat := match mx with
    | none => cap
    | some v => v.toNat
  let mp : Prop := match mx with
    | none => True
    | some v => 0 ≤ v ∧ v ≤ (cap : Int)
  let h : Nat := match hi with
    | none => len
    | some v => v.toNat
  let hp : Prop := match hi with
    | none => match mx with
      | none => mp
      | some _ => False
    | some v => match mx with
      | none => 0 ≤ v ∧ v ≤ (m : Int)
      | some _ => mp ∧ 0 ≤ v ∧ v ≤ (m : Int)
  match lo with
  | none => (0, h, m, hp)
  | some v => (v.toNat, h, m, match hi with
    | none => match mx with
      | none => 0 ≤ v ∧ v ≤ (h : Int)
      | some _ => False
    | some _ => hp ∧ 0 ≤ v ∧ v ≤ (h : Int))
def sliceS (t : TypeId) (x : AV) (lo hi mx : Option Int) : Option (AV × Prop) := match P.underlying t with
  | some .string => match x with
    | .str s => match mx with
      | some _ => none
      | none => match boundsS s.length s.length lo hi none with
        | (l, h, _, p) => some (.str ((s.drop l).take (h - l)), p)
    | _ => none
  | some (.slice el) => match sizeT P el with
    | none => none
    | some sz => match x with
      | .nils len cap => match boundsS len cap lo hi mx with
        | (l, h, m, p) => some (.nils (h - l) (m - l), p)
      | .slc id ver off len cap => match boundsS len cap lo hi mx with
        | (l, h, m, p) => some (.slc id ver (if m = l then off else off + l * sz) (h - l) (m - l), p)
      | .slg id ver off len st => match mx with
        | some _ => match len with
          | 0 => none
          | _ + 1 => match boundsS len len lo hi mx with
            | (l, h, m, p) => some (.slc id ver (if m = l then off else off + l * sz) (h - l) (m - l), p)
        | none => match boundsS len len lo hi none with
          | (l, h, _, p) => some (.slg id ver (off + l * sz) (h - l) (st + l), p)
      | _ => none
  | _ => none
def binS (op : BinOp) (x y : AV) : Option (AV × Prop) := match x with
  | .str a => match y with
    | .str b => match op with
      | .add => some (.str (a ++ b), a.length + b.length < 2 ^ 40)
      | _ => none
    | _ => none
  | .int k a => match y with
    | .int k' b => match op with
      | .quo => if k = k' then some (.int k (k.wrap (a.tdiv b)), b ≠ 0) else none
      | .rem => if k = k' then some (.int k (a.tmod b), b ≠ 0) else none
      | .shl => some (.int k (k.wrap (a * 2 ^ (min b.toNat k.bits))), 0 ≤ b)
      | .shr => some (.int k (a.fdiv (2 ^ (min b.toNat k.bits))), 0 ≤ b)
      | _ => none
    | _ => none
  | _ => none
def cellsS (h : AHeap) (id ver off k : Nat) : Option (List AV × Prop) := match h.get id with
  | some (.ro c lo n) => bif Nat.beq ver 0 then match loadList c off k with
    | none => none
    | some l => some (l, lo ≤ off ∧ off + k ≤ n) else none
  | some (.cells c n _ lo hi _ _ _ ex) => match extOf ex n hi ver with
    | none => none
    | some e => bif Nat.ble lo ver && Nat.ble ver hi then match loadList c off k with
      | none => none
      | some l => some (l, off + k ≤ e) else none
  | _ => none
def loadS (h : AHeap) (t : TypeId) (p : AV) : Option (AV × Prop) := match p with
  | .ptr id ver off => match aggT P t with
    | none => none
    | some true => match P.info? t with
      | none => none
      | some i => match cellsS h id ver off i.size with
        | none => none
        | some (l, p) => some (.agg l, p)
    | some false => match cellsS h id ver off 1 with
      | some ([v], p) => some (v, p)
      | _ => none
  | _ => none
def liftP (h : AHeap) (r : Option (AV × Prop)) : Option (AR × Prop) := match r with
  | none => none
  | some (v, p) => some (.val v h, p)
def two' (ρ : Operand → Option AV) (x y : Operand) (f : AV → AV → Option (AR × Prop)) : Option (AR × Prop) := match ρ x with
  | none => none
  | some a => match ρ y with
    | none => none
    | some b => f a b
def opS (ρ : Operand → Option AV) (h : AHeap) (o : Op) : Option (AR × Prop) := match o with
  | .indexAddr t x ix => two' ρ x ix fun a b => liftP h (indexAddrS P t a b)
  | .index t x ix => two' ρ x ix fun a b => liftP h (indexS P t a b)
  | .binOp op _ x y _ => two' ρ x y fun a b => liftP h (binS op a b)
  | .slice t x lo hi mx => match ρ x with
    | none => none
    | some v => match optEv ρ lo with
      | none => none
      | some l => match optEv ρ hi with
        | none => none
        | some hh => match optEv ρ mx with
          | none => none
          | some m => liftP h (sliceS P t v l hh m)
  | .load t a => match ρ a with
    | none => none
    | some p => liftP h (loadS P h t p)
  | _ => none
def toldBy (h : AHeap) (id : Nat) : Bool := match h.get id with
  | some (.ro ..) => true
  | some (.cells (.fn _) ..) => true
  | _ => false
def ReadsAt (h : AHeap) (t : TypeId) (p v : AV) (K : Prop) : Prop := match loadS P h t p with
  | none => False
  | some (x, q) => q ∧ x = v ∧ K
def Reads (ρ : Operand → Option AV) (h : AHeap) (o : Op) (v : AV) (K : Prop) : Prop := match o with
  | .load t a => match ρ a with
    | some (.ptr id ver off) => match toldBy h id with
      | true => ReadsAt P h t (.ptr id ver off) v K
      | false => readA P ρ h (.load t a) = some v ∧ K
    | _ => readA P ρ h (.load t a) = some v ∧ K
  | o => readA P ρ h o = some v ∧ K
def Same1 (all : List Oper) (t : T AV) (h : AHeap) (o : Oper) (K : Prop) : Prop := match wantedA all t o.guard with
  | none => False
  | some w => match w with
    | false => K
    | true => match o.dst with
      | none => (readA P (ev t) h o.op).isSome = true ∧ K
      | some d => match t.get d with
        | none => False
        | some v => Reads P (ev t) h o.op v (andIf (okD 300 v) K)
def Same (all : List Oper) (anc : Nat) (t : T AV) (h : AHeap) : List Nat → Prop → Prop
  | [], K => K
  | p :: r, K => match all[p]? with
    | none => Same all anc t h r K
    | some o => match isRead P o.op && !(anc.testBit p) with
      | false => Same all anc t h r K
      | true => Same1 P all t h o (Same all anc t h r K)
def FinDrw (fr : AFrame) (h : AHeap) (all : Array Oper) (i : Nat) (o : Oper) (l dn : List Nat) (k : List AItem) (t : Option (T AV)) (K : AFrame → Prop) : Prop := match t with
  | none => False
  | some t => match fr with
    | ⟨fn, n, _, _, ds, mode, kind, round⟩ => match isEff P o || isFloat o.op with
      | false => K ⟨fn, n, t, .drw all l (i :: dn) :: k, ds, mode, kind, round⟩
      | true => Same P all.toList (bif isEff P o then (planOf P all.toList).anc.getD i 0 else 0) t h dn (K ⟨fn, n, t, .drw all l (i :: dn) :: k, ds, mode, kind, round⟩)
def optK {α : Type} (o : Option α) (K : α → Prop) : Prop := match o with
  | none => False
  | some a => K a
def Fin (fr : AFrame) (h : AHeap) (v : AV) (K : AFrame → Prop) : Prop := match fr.todo with
  | .drw all (i :: l) dn :: k => match all[i]? with
    | none => False
    | some o => FinDrw P fr h all i o l dn k (putT fr.tmps fr.n o.dst v) K
  | _ => optK (finishA P fr h v) K
def Upon [XT P] (fr : AFrame) (rest : List AFrame) (heap : AHeap) (r : AR) (K : AM → Prop) : Prop := match r with
  | .val v h => Fin P fr h v fun fr => K ⟨fr, rest, h⟩
  | .skip h => Fin P fr h undefA fun fr => K ⟨fr, rest, h⟩
  | r => optK (upon P fr rest heap r) K
def topOp (fr : AFrame) : Option (List Oper × Oper) := match fr.todo with
  | .ops all (o :: _) :: _ => some (all, o)
  | .drw all (i :: _) _ :: _ => match all[i]? with
    | none => none
    | some o => some (all.toList, o)
  | _ => none
def Br (b : Bool) (m : AM) (K : AM → Prop) : Prop := match m with
  | ⟨fr, rest, h⟩ => match fr.mode with
    | .run => match fr.todo with
      | .code (.cond c x y) :: k => match ev fr.tmps c with
        | some (.bool t) => t = b ∧ K ⟨fr.withTodo (.code (bif b then x else y) :: k), rest, h⟩
        | _ => False
      | _ => False
    | _ => False
def Know (u : Nat) (b : Bool) (m : AM) (K : AM → Prop) : Prop := match m with
  | ⟨⟨fn, n, t, todo, ds, mode, kind, round⟩, rest, h⟩ => match t.get u with
    | some (.bool c) => c = b ∧ K ⟨⟨fn, n, t.set (some (.bool b)) u, todo, ds, mode, kind, round⟩, rest, h⟩
    | _ => False
def Slot (u : Nat) (v : AV) (m : AM) (K : AM → Prop) : Prop := match m with
  | ⟨⟨fn, n, t, todo, ds, mode, kind, round⟩, rest, h⟩ => match t.get u with
    | some x => x = v ∧ K ⟨⟨fn, n, t.set (some v) u, todo, ds, mode, kind, round⟩, rest, h⟩
    | _ => False
def OpK [XT P] (m : AM) (K : AM → Prop) : Prop := match m with
  | ⟨fr, rest, h⟩ => match fr.mode with
    | .run => match topOp fr with
      | none => False
      | some (all, o) => match wantedA all fr.tmps o.guard with
        | some true => match opS P (ev fr.tmps) h o.op with
          | none => False
          | some (r, p) => p ∧ Upon P fr rest h r K
        | _ => False
    | _ => False
def ResK [XT P] (r : AR) (m : AM) (K : AM → Prop) : Prop := match m with
  | ⟨fr, rest, h⟩ => match fr.mode with
    | .run => match topOp fr with
      | none => False
      | some (all, o) => match wantedA all fr.tmps o.guard with
        | some true => opA P (ev fr.tmps) h o.op = some r ∧ Upon P fr rest h r K
        | _ => False
    | _ => False
def StepK [XT P] (m : AM) (K : AM → Prop) : Prop := match m with
  | ⟨fr, rest, h⟩ => match fr.mode with
    | .run => match topOp fr with
      | none => False
      | some (all, o) => match wantedA all fr.tmps o.guard with
        | some true => optK (opA P (ev fr.tmps) h o.op) fun r => Upon P fr rest h r K
        | _ => False
    | .returning => match fr.defers with
      | [] => match fr.kind with
        | .normal => match rest with
          | [] => False
          | c :: r => match c.mode with
            | .run => optK (resA P fr h) fun v => Fin P c h v fun c => K ⟨c, r, h⟩
            | _ => False
        | _ => False
      | _ :: _ => False
    | _ => False
def CallK (us : List Nat) (Q : AV → Prop) (m : AM) (K : AM → Prop) : Prop := match m with
  | ⟨fr, rest, h⟩ => match rest with
    | [] => False
    | c :: r => match fr.kind with
      | .normal => match c.mode with
        | .run => match canM 0 [] us [] ⟨fr, [], h⟩ with
          | none => False
          | some m' => Goal P 0 fr.fn (fun v _ => Q v ∧ plainV 99 v = true) m' ∧ ∀ v, Q v → Fin P c h v fun c => K ⟨c, r, h⟩
        | _ => False
      | _ => False
def startM (f : FuncId) (args : List AV) (G : T (T AV)) : AM := match enterA P f args .normal with
  | some a => ⟨a, [], ⟨.leaf, 0, G⟩⟩
  | none => ⟨⟨0, 0, .leaf, [], [], .run, .normal, none⟩, [], ⟨.leaf, 0, G⟩⟩
def CallV (us : List Nat) (v : AV) (m : AM) (K : AM → Prop) : Prop := match m with
  | ⟨fr, rest, h⟩ => match rest with
    | [] => False
    | c :: r => match fr.kind with
      | .normal => match c.mode with
        | .run => match canM 0 [] us [] ⟨fr, [], h⟩ with
          | none => False
          | some m' => andIf (plainV 99 v) (Goal P 0 fr.fn (fun x _ => x = v) m' ∧ Fin P c h v fun c => K ⟨c, r, h⟩)
        | _ => False
      | _ => False
def keepS (t : T AV) : List Nat → T AV → T AV
  | [], acc => acc
  | u :: r, acc => (acc.set (t.get u) u).seq fun acc => keepS t r acc
def KeepK (us : List Nat) (m : AM) (K : AM → Prop) : Prop := match m with
  | ⟨⟨fn, n, t, todo, ds, mode, kind, round⟩, rest, h⟩ => match todo with
    | .drw _ _ _ :: _ => False
    | todo => K ⟨⟨fn, n, keepS t us .leaf, todo, ds, mode, kind, round⟩, rest, h⟩
def DoneK (f0 : FuncId) (Q : AV → AHeap → Prop) (m : AM) : Prop := optK (doneA P f0 m) fun v => Q v m.heap
end
section
variable {P : Program}
theorem optK_some {α : Type} {o : Option α} {K : α → Prop} (h : optK o K) : ∃ a, o = some a ∧ K a := by
  unfold optK at h
  split at h
  · exact h.elim
  · exact ⟨_, rfl, h⟩
theorem T.set_same' {α : Type} : ∀ {t : T α} {n : Nat} {v : α}, t.get n = some v → t.set (some v) n = t
  | .leaf, _, _, e => by cases e
  | .fn f, n, v, e => by
    show T.fn (fun m => bif Nat.beq m n then some v else f m) = _
    congr 1
    funext m
    cases hb : Nat.beq m n with
    | false => rfl
    | true => rw [Nat.eq_of_beq_eq_true hb]; exact e.symm
  | .node l x r, n, v, e => by
    rw [T.get_node] at e
    show (bif Nat.beq n 0 then T.node l (some v) r else bif Nat.beq (Nat.mod n 2) 1 then T.seq (l.set (some v) (Nat.div n 2)) (fun l => T.node l x r) else T.seq (r.set (some v) (Nat.sub (Nat.div n 2) 1)) (fun r => T.node l x r)) = _
    rw [T.seq_eq, T.seq_eq]
    split at e
    · rename_i h0
      subst h0; subst e; rfl
    · rename_i h0
      have e0 : Nat.beq n 0 = false := by cases n <;> simp_all [Nat.beq]
      rw [e0]
      split at e
      · rename_i h1
        have e1 : Nat.beq (Nat.mod n 2) 1 = true := by rw [show Nat.mod n 2 = 1 from h1]; rfl
        rw [e1]
        show T.node (l.set (some v) (n / 2)) x r = _
        rw [T.set_same' e]
      · rename_i h1
        have e1 : Nat.beq (Nat.mod n 2) 1 = false := by
          rw [show Nat.mod n 2 = 0 from by show n % 2 = 0; omega]; rfl
        rw [e1]
        show T.node l x (r.set (some v) (n / 2 - 1)) = _
        rw [T.set_same' e]
mutual
theorem okD_same : ∀ (n : Nat) (v : AV), okD n v = true → sameAV n v v = true
  | 0, _, h => by simp [okD] at h
  | n + 1, v, h => by
    cases v <;> simp only [okD, Bool.and_eq_true] at h <;> simp only [sameAV, Bool.and_eq_true, decide_eq_true_eq, Nat.beq_refl, and_self, beq_self_eq_true]
    case fn f a b => exact ⟨⟨trivial, okDL_same n _ h.1⟩, okDL_same n _ h.2⟩
    case ifc t v => exact ⟨trivial, okD_same n _ h⟩
    case agg l => exact okDL_same n _ h
    case tup l => exact okDL_same n _ h
theorem okDL_same : ∀ (n : Nat) (v : List AV), okDL n v = true → sameAL n v v = true
  | 0, _, h => by simp [okDL] at h
  | n + 1, l, h => by
    cases l with
    | nil => rfl
    | cons v r =>
      simp only [okDL, Bool.and_eq_true] at h
      simp only [sameAL, Bool.and_eq_true]
      exact ⟨okD_same n _ h.1, okDL_same n _ h.2⟩
end
theorem andIf_true {b : Bool} {K : Prop} (h : andIf b K) : b = true ∧ K := by
  cases b with
  | true => exact ⟨rfl, h⟩
  | false => exact h.elim
theorem atP_ptr {p : AV} {size len : Nat} {i : Int} {v : AV} {q : Prop} (e : atP p size i len = some (v, q)) (hq : q) : ∀ el : Option Nat, el = some size → elemArr len el p i = some v := by
  rintro el rfl
  unfold atP at e
  split at e
  · cases e; simp only [elemArr, elemPtr, if_pos hq]
  · cases e; simp only [elemArr, if_pos hq]
  · cases e
theorem elemS_sl {x : AV} {size : Nat} {i : Int} {v : AV} {q : Prop} (e : elemS size x i = some (v, q)) (hq : q) : elemSl (some size) x i = some v := by
  unfold elemS at e
  split at e
  · cases e; simp only [elemSl, elemPtr, if_pos hq]
  · cases e; simp only [elemSl, elemPtr, if_pos hq]
  · cases e
theorem indexAddrS_ok {t : TypeId} {x ix v : AV} {q : Prop} (e : indexAddrS P t x ix = some (v, q)) (hq : q) : indexAddrA P t x ix = some v := by
  unfold indexAddrS at e
  unfold indexAddrA
  split at e
  · split at e
    · rename_i len el hu
      split at e
      · cases e
      · rename_i s hs
        simp only [hu]
        exact atP_ptr e hq _ hs
    · rename_i el hu
      split at e
      · cases e
      · rename_i s hs
        simp only [hu, hs]
        exact elemS_sl e hq
    · cases e
  · cases e
theorem indexS_ok {t : TypeId} {x ix v : AV} {q : Prop} (e : indexS P t x ix = some (v, q)) (hq : q) : indexA P t x ix = some v := by
  unfold indexS at e
  unfold indexA
  split at e
  · rename_i k i
    split at e
    · rename_i hu
      split at e
      · rename_i s
        cases e
        simp only [hu, indexStr, if_pos hq.1]
        have : i.toNat < s.length := by omega
        rw [List.getElem?_eq_getElem this, List.getD_eq_getElem?_getD, List.getElem?_eq_getElem this]
        rfl
      · cases e
    · rename_i len el hu
      split at e
      · rename_i cs
        split at e
        · cases e
        rename_i ha
        split at e
        · cases e
        rename_i s hs
        cases e
        have hagg : aggT P el = some false := by
          unfold isOneT at ha
          split at ha
          · rename_i b hb
            rw [hb]
            cases b
            · rfl
            · cases ha
          · cases ha
        simp only [hu, indexArr, hs]
        rw [if_pos hq.1]
        simp only [partA, hagg]
        rw [List.getD_eq_getElem?_getD, List.getElem?_eq_getElem hq.2]
        rfl
      · cases e
    · cases e
  · cases e
theorem boundsS_ok {len cap : Nat} {lo hi mx : Option Int} {l h m : Nat} {p : Prop} (e : boundsS len cap lo hi mx = (l, h, m, p)) (hp : p) : boundsA len cap lo hi mx = some (l, h, m) := by
  unfold boundsS at e
  cases lo <;> cases hi <;> cases mx <;> simp only [Prod.mk.injEq] at e <;> obtain ⟨rfl, rfl, rfl, rfl⟩ := e <;>
    simp only [boundsA, boundsMx, boundsHi, boundsLo, boundA, Option.isSome_none, Option.isSome_some] <;> first | rfl | exact (hp : False).elim | (simp_all; done)
theorem sliceS_ok {t : TypeId} {x v : AV} {lo hi mx : Option Int} {q : Prop} (e : sliceS P t x lo hi mx = some (v, q)) (hq : q) : sliceA P t x lo hi mx = some v := by
  unfold sliceS at e
  unfold sliceA
  split at e
  · rename_i hu
    split at e
    · split at e
      · cases e
      · generalize hb : boundsS _ _ _ _ _ = b at e
        obtain ⟨l, h, m, p⟩ := b
        cases e
        simp only [hu, sliceStr, boundsS_ok hb hq, strOf]
    · cases e
  · rename_i el hu
    split at e
    · cases e
    · rename_i sz hs
      simp only [hu, hs, sliceSl]
      split at e
      · generalize hb : boundsS _ _ _ _ _ = b at e
        obtain ⟨l, h, m, p⟩ := b
        cases e
        simp only [boundsS_ok hb hq, nilsOf]
      · generalize hb : boundsS _ _ _ _ _ = b at e
        obtain ⟨l, h, m, p⟩ := b
        cases e
        simp only [boundsS_ok hb hq, slcOf]
      · split at e
        · split at e
          · cases e
          · generalize hb : boundsS _ _ _ _ _ = b at e
            obtain ⟨l, h, m, p⟩ := b
            cases e
            simp only [boundsS_ok hb hq, slgOf, slcOf]
        · generalize hb : boundsS _ _ _ _ _ = b at e
          obtain ⟨l, h, m, p⟩ := b
          cases e
          simp only [boundsS_ok hb hq, slgOf]
      · cases e
  · cases e
theorem binS_ok {h : AHeap} {op : BinOp} {t : TypeId} {lit : Bool} {x y v : AV} {q : Prop} (e : binS op x y = some (v, q)) (hq : q) : binA P h op t lit x y = some v := by
  unfold binS at e
  split at e
  · split at e
    · split at e
      · cases e
        show catA _ _ = _
        unfold catA
        rw [if_pos hq]
      · cases e
    · cases e
  · split at e
    · split at e
      · split at e
        · rename_i hk
          cases e
          simp only [binA, isUnk, Bool.or_self, binB, binIntA, hk, true_or, if_true]
          show quoA _ _ _ = _
          simp only [quoA, if_neg hq]
        · cases e
      · split at e
        · rename_i hk
          cases e
          simp only [binA, isUnk, Bool.or_self, binB, binIntA, hk, true_or, if_true]
          show remA _ _ _ = _
          simp only [remA, if_neg hq]
        · cases e
      · cases e
        simp only [binA, isUnk, Bool.or_self, binB, binIntA, isShift, or_true, if_true]
        show shlA _ _ _ = _
        simp only [shlA, if_neg (Int.not_lt.2 hq)]
      · cases e
        simp only [binA, isUnk, Bool.or_self, binB, binIntA, isShift, or_true, if_true]
        show shrA _ _ _ = _
        simp only [shrA, if_neg (Int.not_lt.2 hq)]
      · cases e
    · cases e
  · cases e
theorem cellsS_ok {h : AHeap} {id ver off k : Nat} {l : List AV} {q : Prop} (e : cellsS h id ver off k = some (l, q)) (hq : q) : loadCellsA h id ver off k = some l := by
  unfold cellsS at e
  unfold loadCellsA
  split at e
  · rename_i c lo n ho
    cases hb : Nat.beq ver 0 with
    | false => rw [hb] at e; cases e
    | true =>
      rw [hb] at e
      simp only [cond_true] at e
      split at e
      · cases e
      · rename_i l' hl
        cases e
        simp only [ho, hl]
        rw [if_pos ⟨Nat.eq_of_beq_eq_true hb, hq⟩]
  · rename_i c n el lo hi nv fz sg ex ho
    split at e
    · cases e
    · rename_i e0 he
      cases hb : (Nat.ble lo ver && Nat.ble ver hi) with
      | false => rw [hb] at e; cases e
      | true =>
        rw [hb] at e
        simp only [cond_true] at e
        rw [Bool.and_eq_true] at hb
        split at e
        · cases e
        · rename_i l' hl
          cases e
          simp only [ho, he, hl]
          rw [if_pos ⟨Nat.le_of_ble_eq_true hb.1, Nat.le_of_ble_eq_true hb.2, hq⟩]
  · cases e
theorem loadS_ok {h : AHeap} {t : TypeId} {p v : AV} {q : Prop} (e : loadS P h t p = some (v, q)) (hq : q) : loadA P h t p = some v := by
  unfold loadS at e
  unfold loadA
  split at e
  · split at e
    · cases e
    · rename_i ha
      split at e
      · cases e
      · rename_i i hi
        split at e
        · cases e
        · rename_i l p' hl
          cases e
          simp only [ha, hi, cellsS_ok hl hq]
    · rename_i ha
      split at e
      · rename_i v' p' hl
        cases e
        simp only [ha, cellsS_ok hl hq]
      · cases e
  · cases e
theorem Reads_ok {ρ : Operand → Option AV} {h : AHeap} {o : Op} {v : AV} {K : Prop} (e : Reads P ρ h o v K) : readA P ρ h o = some v ∧ K := by
  unfold Reads at e
  split at e
  · rename_i t a
    split at e
    · rename_i id ver off ha
      split at e
      · unfold ReadsAt at e
        split at e
        · exact e.elim
        · rename_i x q hx
          obtain ⟨hq, rfl, hk⟩ := e
          refine ⟨?_, hk⟩
          unfold readA
          show (match op_load P t a ρ h with | some (.val v _) => some v | _ => none) = _
          simp only [op_load, one', ha, loadS_ok hx hq, valE]
      · exact e
    · exact e
  · exact e
theorem Same1_ok {all : List Oper} {t : T AV} {h : AHeap} {o : Oper} {K : Prop} (e : Same1 P all t h o K) : recheck1 P all t h o = true ∧ K := by
  unfold Same1 at e
  unfold recheck1
  split at e
  · exact e.elim
  · rename_i w hw
    rw [hw]
    split at e
    · exact ⟨rfl, e⟩
    · split at e
      · rename_i hd; simp only [hd]; exact e
      · rename_i d hd
        simp only [hd]
        split at e
        · exact e.elim
        · rename_i v hv
          obtain ⟨h1, h2⟩ := Reads_ok e
          obtain ⟨h3, h4⟩ := andIf_true h2
          rw [hv, h1]
          exact ⟨okD_same 300 v h3, h4⟩
theorem Same_ok {all : List Oper} {anc : Nat} {t : T AV} {h : AHeap} : ∀ {dn : List Nat} {K : Prop}, Same P all anc t h dn K → recheck P all anc t h dn = true ∧ K
  | [], K, e => ⟨rfl, e⟩
  | p :: r, K, e => by
    unfold Same at e
    unfold recheck
    rw [Bool.and_eq_true]
    split at e
    · rename_i hp
      obtain ⟨g1, g2⟩ := Same_ok e
      rw [hp]
      exact ⟨⟨rfl, g1⟩, g2⟩
    · rename_i o hp
      rw [hp]
      unfold recheckO
      simp only
      split at e
      · rename_i hr
        obtain ⟨g1, g2⟩ := Same_ok e
        rw [hr]
        exact ⟨⟨rfl, g1⟩, g2⟩
      · rename_i hr
        obtain ⟨q1, q2⟩ := Same1_ok e
        obtain ⟨g1, g2⟩ := Same_ok q2
        rw [hr]
        exact ⟨⟨q1, g1⟩, g2⟩
theorem Fin_some {fr : AFrame} {h : AHeap} {v : AV} {K : AFrame → Prop} (e : Fin P fr h v K) : ∃ a, finishA P fr h v = some a ∧ K a := by
  unfold Fin at e
  split at e
  · rename_i all i l dn k htodo
    split at e
    · exact e.elim
    · rename_i o ho
      unfold finishA
      rw [htodo]
      simp only [ho]
      unfold FinDrw at e
      unfold finDrw
      split at e
      · exact e.elim
      · rename_i t ht
        rw [ht]
        obtain ⟨fn, n, t0, td, ds, mode, kind, round⟩ := fr
        simp only at e ⊢
        split at e
        · rename_i hf
          rw [hf]
          exact ⟨_, rfl, e⟩
        · rename_i hf
          obtain ⟨g1, g2⟩ := Same_ok e
          rw [hf, g1]
          exact ⟨_, rfl, g2⟩
  · exact optK_some e
theorem Upon_some [XT P] [XTOk P] {fr : AFrame} {rest : List AFrame} {heap : AHeap} {r : AR} {K : AM → Prop} (e : Upon P fr rest heap r K) : ∃ m, upon P fr rest heap r = some m ∧ K m := by
  unfold Upon at e
  split at e
  · obtain ⟨a, h1, h2⟩ := Fin_some e
    exact ⟨_, by simp only [upon, h1, topM], h2⟩
  · obtain ⟨a, h1, h2⟩ := Fin_some e
    exact ⟨_, by simp only [upon, h1, topM], h2⟩
  · exact optK_some e
theorem topOp_step [XT P] [XTOk P] {fr : AFrame} {rest : List AFrame} {h : AHeap} {all : List Oper} {o : Oper} (hm : fr.mode = .run) (ht : topOp fr = some (all, o)) : stepA P ⟨fr, rest, h⟩ = operA P fr rest h all o := by
  unfold topOp at ht
  simp only [stepA, hm, execA]
  split at ht
  · rename_i all' o' l k htodo
    cases ht
    rw [htodo]
    rfl
  · rename_i all' i l dn k htodo
    split at ht
    · cases ht
    · rename_i o' ho
      cases ht
      rw [htodo]
      show operO P fr rest h all'.toList all'[i]? = _
      rw [ho]; rfl
  · cases ht
theorem opS_ok {ρ : Operand → Option AV} {h : AHeap} {o : Op} {r : AR} {p : Prop} (e : opS P ρ h o = some (r, p)) (hp : p) : opA P ρ h o = some r := by
  have lift : ∀ {x : Option (AV × Prop)} {y : Option AV}, liftP h x = some (r, p) → (∀ v q, x = some (v, q) → q → y = some v) → valE h y = some r := by
    intro x y e g
    unfold liftP at e
    split at e
    · cases e
    · rename_i v q
      cases e
      rw [g v _ rfl hp]; rfl
  cases o <;> simp only [opS] at e
  case binOp op t x y t' =>
    unfold two' at e
    split at e
    · cases e
    · rename_i a ha
      split at e
      · cases e
      · rename_i b hb
        show op_binOp P op t x y t' ρ h = _
        simp only [op_binOp, two, ha, hb]
        exact lift e fun v q e hq => binS_ok e hq
  case slice t x lo hi mx =>
    split at e
    · cases e
    rename_i a ha
    split at e
    · cases e
    rename_i l hl
    split at e
    · cases e
    rename_i hh hhh
    split at e
    · cases e
    rename_i m hm
    show op_slice P t x lo hi mx ρ h = _
    simp only [op_slice, sliceOp, ha, hl, hhh, hm]
    exact lift e fun v q e hq => by simp only [sliceH, sliceS_ok e hq]
  case indexAddr t x y =>
    unfold two' at e
    split at e
    · cases e
    · rename_i a ha
      split at e
      · cases e
      · rename_i b hb
        show op_indexAddr P t x y ρ h = _
        simp only [op_indexAddr, two, ha, hb]
        exact lift e fun v q e hq => indexAddrS_ok e hq
  case index t x y =>
    unfold two' at e
    split at e
    · cases e
    · rename_i a ha
      split at e
      · cases e
      · rename_i b hb
        show op_index P t x y ρ h = _
        simp only [op_index, two, ha, hb]
        exact lift e fun v q e hq => indexS_ok e hq
  case load t x =>
    split at e
    · cases e
    · rename_i a ha
      show op_load P t x ρ h = _
      simp only [op_load, one', ha]
      exact lift e fun v q e hq => loadS_ok e hq
  all_goals cases e
theorem Goal.step [XT P] [XTOk P] (hmix : P.follows .mixedOrders = true) {keep : Nat} {f0 : FuncId} {Q : AV → AHeap → Prop} {m m' : AM} (e : stepA P m = some m') (k : Goal P keep f0 Q m') : Goal P keep f0 Q m := by
  intro w0 base fr cs w hk s
  obtain ⟨fr1, cs1, w1, s1, k1⟩ := step_sim hmix s e
  obtain ⟨fr', w', B, R, v, v', h', s2, g⟩ := k w0 base fr1 cs1 w1 hk k1
  exact ⟨fr', w', B, R, v, v', h', s1.trans s2, g⟩
theorem Goal.runN [XT P] [XTOk P] (hmix : P.follows .mixedOrders = true) {keep : Nat} {f0 : FuncId} {Q : AV → AHeap → Prop} : ∀ {n : Nat} {m m' : AM}, runN P n m = some m' → Goal P keep f0 Q m' → Goal P keep f0 Q m
  | 0, m, m', e, k => by cases e; exact k
  | n + 1, m, m', e, k => by
    unfold Ev.runN at e
    split at e
    · cases e
    · rename_i m1 h1
      exact .step hmix h1 (Goal.runN hmix e k)
theorem HRel.grow {B : Base} {R : Bij} {h : AHeap} {w w' : World} (k : HRel P B R h w) (hB : B.n ≤ w.heap.size) (hs : w.heap.size ≤ w'.heap.size) (ho : ∀ b, b < w.heap.size → w'.heap[b]? = w.heap[b]?) : HRel P B R h w' where
  fresh := k.fresh
  pend := k.pend
  obj i o e hp := (k.obj i o e hp).mono R.le_refl (fun _ => rfl) (fun r L hL => ho _ (k.place i r L hL).2)
  place i r L hL := ⟨(k.place i r L hL).1, Nat.lt_of_lt_of_le (k.place i r L hL).2 hs⟩
  rd := k.rd
  low b hb := (ho b (Nat.lt_of_lt_of_le (Base.low_lt hb) hB)).trans (k.low b hb)
  rp := k.rp
  rol := k.rol
  pin := k.pin
  apart := k.apart
  same := k.same
  glob g c e := by
    obtain ⟨e1, cs, el, fz, e2, e3⟩ := k.glob g c e
    exact ⟨e1, cs, el, fz, (ho g (Nat.lt_of_lt_of_le (Base.low_lt e1) hB)).trans e2, e3⟩
theorem leaves {fr f : Frame} {cs : List Frame} {w : World} {v : Value} (hl : fr.leaving P w (.returned v)) : step P (lone fr (f :: cs) w) = .next (lone (f.finish v) cs w) := by
  obtain ⟨h1, h2, h3, fn, h4, h5⟩ := hl
  refine step_lone_go (fr' := f.finish v) (cs' := cs) (w' := w) ?_
  have hst : stepG P true { frame := fr, callers := f :: cs, status := .running, dying := none } w = unwind P true fr (f :: cs) none w := by
    simp only [stepG, h1]
  rw [hst]
  simp only [unwind, h2, h1, h4, Sem.runT_eq, h5]
  simp [doReturn, h3]
theorem CallK_goal {keep : Nat} {f0 : FuncId} {Q : AV → AHeap → Prop} {us : List Nat} {q : AV → Prop} {m : AM} {K : AM → Prop} (e : CallK P us q m K) (hK : ∀ m, K m → Goal P keep f0 Q m) : Goal P keep f0 Q m := by
  intro w0 base fr cs w hk s
  obtain ⟨a, rest, h⟩ := m
  unfold CallK at e
  simp only at e
  split at e
  · exact e.elim
  rename_i c r
  split at e
  rotate_left
  · exact e.elim
  rename_i hkind
  split at e
  rotate_left
  · exact e.elim
  rename_i hcm
  split at e
  · exact e.elim
  rename_i m' hm'
  obtain ⟨hspec, hgo⟩ := e
  obtain ⟨B, R, fs, rfl, hb, kh, ho, kt, kb⟩ := s
  obtain ⟨f, fs', rfl, kf, kr⟩ := kb
  have hroom : B.n ≤ w.heap.size := by show B.env.heap.size ≤ _; rw [hb]; exact ho.size
  have hloc : Sim P (Env.of w) (f :: fs' ++ base) m' fr (f :: fs' ++ base) w := by
    simp only [canM, nodup, stays, Bool.and_self, cond_true, tabOf] at hm'
    split at hm'
    · cases hm'
    rename_i h2 hh2
    split at hm'
    · cases hm'
    rename_i top htop
    simp only [canFs] at hm'
    cases hm'
    obtain ⟨objs, next, glob⟩ := h
    simp only [canHeap, List.all_nil, cond_true, canObjs, List.length_nil] at hh2
    cases hh2
    have hR : Tab.re [] R = fun _ _ => none := by
      funext i r
      simp only [Tab.re, List.getElem?_nil]
    refine ⟨Base.of w, fun _ _ => none, [], rfl, rfl, .start fun g c e => ?_, .start w, ?_, rfl⟩
    · obtain ⟨_, cs, el, fz, e2, e3⟩ := kh.glob g c e
      exact ⟨heap_lt e2, cs, el, fz, e2, e3⟩
    · rw [← hR]
      exact canF_rel (Tab.ok [] R) htop kt
  obtain ⟨fr', w', B', R', v, v', h', s1, s2, s3, s4, s5, s6, s7, s8, s9⟩ := hspec (Env.of w) (f :: fs' ++ base) fr (f :: fs' ++ base) w (fun i r L e => by cases e) hloc
  have hold : OldX (Env.of w) w' := s7.all s5 s6
  have hsame : ∀ b, b < w.heap.size → w'.heap[b]? = w.heap[b]? := fun b hb => hold.other b hb id
  obtain ⟨c', q1, q2⟩ := Fin_some (hgo v s8)
  have hsim : Sim P w0 base ⟨c', r, h⟩ (f.finish v') (fs' ++ base) w' :=
    ⟨B, R, fs', rfl, hb, kh.grow hroom s7.size hsame, ⟨s7.os.trans ho.os, s7.tape.trans ho.tape, s7.output.trans ho.output, Nat.le_trans ho.size s7.size, Nat.le_trans ho.drawn s7.drawn⟩, finish_sound kf hcm q1 (plainV_rel 99 _ _ s9 s4), kr⟩
  obtain ⟨fr2, w2, B2, R2, v2, v2', h2, t1, t2⟩ := hK _ q2 w0 base _ _ w' hk hsim
  exact ⟨fr2, w2, B2, R2, v2, v2', h2, s1.trans (.head (leaves s2) t1), t2⟩
theorem Goal.mono {keep : Nat} {f0 : FuncId} {Q Q' : AV → AHeap → Prop} {m : AM} (h : ∀ v k, Q v k → Q' v k) (g : Goal P keep f0 Q m) : Goal P keep f0 Q' m := by
  intro w0 base fr cs w hk s
  obtain ⟨fr', w', B, R, v, v', h', a1, a2, a3, a4, a5, a6, a7, a8⟩ := g w0 base fr cs w hk s
  exact ⟨fr', w', B, R, v, v', h', a1, a2, a3, a4, a5, a6, a7, h _ _ a8⟩
theorem CallV_call {us : List Nat} {v : AV} {m : AM} {K : AM → Prop} (e : CallV P us v m K) : CallK P us (fun x => x = v) m K := by
  obtain ⟨a, rest, h⟩ := m
  unfold CallV at e
  unfold CallK
  simp only at e
  split at e
  · exact e.elim
  split at e
  rotate_left
  · exact e.elim
  rename_i hkind
  split at e
  rotate_left
  · exact e.elim
  rename_i hcm
  split at e
  · exact e.elim
  rename_i m' hm'
  obtain ⟨hp, g1, g2⟩ := andIf_true e
  simp only [hkind, hcm, hm']
  exact ⟨g1.mono fun x _ hx => ⟨hx, by rw [hx]; exact hp⟩, fun x hx => by rw [hx]; exact g2⟩
theorem DoneK_goal {keep : Nat} {f0 : FuncId} {Q : AV → AHeap → Prop} {m : AM} (e : DoneK P f0 Q m) : Goal P keep f0 Q m := by
  intro w0 base fr cs w hk s
  obtain ⟨v, hd, hq⟩ := optK_some e
  obtain ⟨af, rest, h⟩ := m
  obtain ⟨B, R, fs, rfl, hb, kh, ho, kt, kb⟩ := s
  unfold doneA at hd
  simp only at hd
  split at hd
  · cases hd
  split at hd
  rotate_left
  · cases hd
  rename_i hmode
  split at hd
  · cases hd
  rename_i hdef
  split at hd
  rotate_left
  · cases hd
  rename_i hkind
  split at hd
  rotate_left
  · cases hd
  rename_i hf0
  have hfs : fs = [] := kb
  subst hfs
  have hs : Slots R af.tmps fr.tmps := by have := kt.top; rw [hmode] at this; exact this
  obtain ⟨fn, v', r1, r2, r3⟩ := res_sound kh hs kt.fn hd
  have hm : fr.mode = .returning := by have := kt.mode; rw [hmode] at this; exact this
  have hdf : fr.defers = [] := by have := kt.defers; rw [hdef] at this; exact this
  exact ⟨fr, w, B, R, v, v', h, Steps.refl _ _, ⟨hm, hdf, by rw [kt.kind, hkind], fn, r1, r2⟩, kt.fn.trans (Nat.eq_of_beq_eq_true hf0), r3, hb, kh, ho, hq⟩
theorem Goal.ofRun [XT P] [XTOk P] (hmix : P.follows .mixedOrders = true) {keep : Nat} {f0 : FuncId} {Q : AV → AHeap → Prop} : ∀ {n : Nat} {m : AM} {v : AV}, runA P f0 n m = some v → (∀ h, Q v h) → Goal P keep f0 Q m
  | 0, m, v, e, _ => by cases e
  | n + 1, m, v, e, hq => by
    unfold runA at e
    split at e
    · rename_i v' hd
      cases e
      exact DoneK_goal (m := m) (show optK (doneA P f0 m) _ by rw [hd]; exact hq _)
    · split at e
      · cases e
      · rename_i m1 h1
        exact .step hmix h1 (Goal.ofRun hmix e hq)
theorem keepS_get {t : T AV} : ∀ {us : List Nat} {acc : T AV}, (∀ u v, acc.get u = some v → t.get u = some v) → ∀ u v, (keepS t us acc).get u = some v → t.get u = some v
  | [], _, h, u, v, e => h u v e
  | u0 :: r, acc, h, u, v, e => by
    rw [keepS, T.seq_eq] at e
    refine keepS_get (us := r) (fun u v e => ?_) u v e
    rw [T.get_set] at e
    split at e
    · rename_i hu; rw [hu]; exact e
    · exact h u v e
theorem KeepK_goal {keep : Nat} {f0 : FuncId} {Q : AV → AHeap → Prop} {us : List Nat} {m : AM} {K : AM → Prop} (e : KeepK us m K) (hK : ∀ m, K m → Goal P keep f0 Q m) : Goal P keep f0 Q m := by
  intro w0 base fr cs w hk s
  obtain ⟨⟨fn, n, t, todo, ds, mode, kind, round⟩, rest, h⟩ := m
  obtain ⟨B, R, fs, hc, hb, kh, ho, kt, kb⟩ := s
  unfold KeepK at e
  simp only at e
  have hkeep : ∀ {a : Array Value}, Slots R t a → Slots R (keepS t us .leaf) a := fun hs u v e => hs u v (keepS_get (fun u v e => by cases e) u v e)
  split at e
  · exact e.elim
  · rename_i hn
    refine hK _ e w0 base fr cs w hk ⟨B, R, fs, hc, hb, kh, ho, ?_, kb⟩
    obtain ⟨k1, k2, k3, k4, k5, k6, k7, k8, k9⟩ := kt
    refine ⟨k1, k2, k3, k4, k5, k6, k7, k8, ?_⟩
    cases mode with
    | run =>
      change TodoRel P B R rest.length false h todo t fr.todo fr.tmps at k9
      show TodoRel P B R rest.length false h todo (keepS t us .leaf) fr.todo fr.tmps
      cases todo with
      | nil => exact ⟨k9.1, hkeep k9.2⟩
      | cons it kk =>
        cases it with
        | drw a b c => exact absurd rfl (hn a b c kk)
        | _ => exact ⟨k9.1, hkeep k9.2⟩
    | returning => exact hkeep k9
    | panicking c => exact hkeep k9
theorem CanP_goal {keep k : Nat} {f0 : FuncId} {Q : AV → AHeap → Prop} {ids us : List Nat} {uss : List (List Nat)} {m : AM} {K : AM → Prop} (hkk : keep ≤ k) (e : CanP k ids us uss m K) (hK : ∀ m, K m → Goal P keep f0 Q m) : Goal P keep f0 Q m := by
  intro w0 base fr cs w hk s
  unfold CanP at e
  split at e
  · exact e.elim
  rename_i m' hm'
  obtain ⟨g1, g2⟩ := PlainFns_mem e
  exact hK _ g2 w0 base fr cs w hk (Sim.can (fun i r L h => Nat.lt_of_lt_of_le (hk i r L h) hkk) hm' g1 s)
end
end Go.Proofs.YtdbfpjgnlfejmaaDoor.Ev
end
