/- A step of the evaluator's machine is steps of the model's: code. -/
import Derived.Test.YtcdpmiebmhjmpaaEvWdr
namespace Go.Proofs.Ytcdpmiebmhjmpaa.Ev
open Go

section
variable {P : Program} {w0 : Env} {base : List Frame} {B : Base} {R : Bij} {af : AFrame} {rest : List AFrame} {h : AHeap} {fr : Frame} {fs : List Frame} {w : World}

/-- The frame's own end. -/
theorem Plain.ends (k : Plain P w0 base B R af rest h fr fs w) (hs : Slots R af.tmps fr.tmps) {m : AM} (e : (some ⟨af.withMode .returning, rest, h⟩ : Option AM) = some m)
    (hst : step P (lone fr (fs ++ base) w) = .next (lone { fr with mode := .returning } (fs ++ base) w)) : Goes P w0 base m fr (fs ++ base) w := by
  cases e
  refine ⟨_, _, _, .one hst, B, R, fs, rfl, k.base, k.heap, k.old, ?_, k.below⟩
  obtain ⟨k1, k2, k3, k4, k5, k6, k7, k8, k9⟩ := k.top
  obtain ⟨fn, n, t, td, ds, mode, kind, round⟩ := af
  exact ⟨k1, k2, k3, k4, k5, k6, rfl, k8, hs⟩

theorem code_sim (hmix : P.follows .mixedOrders = true) (k : Plain P w0 base B R af rest h fr fs w) (hs : Slots R af.tmps fr.tmps) {c : Code} {kk : List AItem} {kk' : List Item} (hfr : fr.todo = .code c :: kk') (hk : All2 (ItemRel R) kk kk')
    {m : AM} (e : codeA P af rest h c kk = some m) : Goes P w0 base m fr (fs ++ base) w := by
  have hm := frun k
  have cons : ∀ {a : AItem} {b : Item} {as : List AItem} {bs : List Item}, ItemRel R a b → All2 (ItemRel R) as bs → All2 (ItemRel R) (a :: as) (b :: bs) := fun h1 h2 => ⟨_, _, rfl, h1, h2⟩
  have hround := k.top.round
  have leave : ∀ {jump : Option Code}, leaveA P af rest h jump = some m →
      (fr.roundOf = none → (jump = none ∨ jump = some .ret) → (stepG P true { frame := fr, callers := fs ++ base, status := .running, dying := none } w).bare = .go { frame := { fr with mode := .returning }, callers := fs ++ base, status := .running, dying := none } w) →
      (∀ l, fr.roundOf = some l → (stepG P true { frame := fr, callers := fs ++ base, status := .running, dying := none } w).bare = (match (Instr.endRound l jump).run P w with
        | .ok v w => (doReturn P true fr (fs ++ base) none v w).bare
        | .halt _ w => (GStep.ended (.stuck "range over a function: no such loop" (fr.pos P)) w).bare)) → Goes P w0 base m fr (fs ++ base) w := by
    intro jump e h1 h2
    unfold leaveA at e
    split at e
    · rename_i hr
      rw [hr] at hround
      split at e
      · exact k.ends hs e (step_lone_go (h1 hround (.inl rfl)))
      · exact k.ends hs e (step_lone_go (h1 hround (.inr rfl)))
      · cases e
    · rename_i l hr
      exact leaveRound_sim k hr e h2
  cases c with
  | skip => exact k.to hs hk e (step_lone_go (by simp [stepG, stepG.exec, hm, hfr]))
  | label l => exact k.to hs hk e (step_lone_go (by simp [stepG, stepG.exec, hm, hfr]))
  | seq a b => exact k.to (todo := .code a :: .code b :: kk) (todo' := .code a :: .code b :: kk') hs (cons rfl (cons rfl hk)) e (step_lone_go (by simp [stepG, stepG.exec, hm, hfr]))
  | cond c a b =>
    change condA af rest h a b kk (ev af.tmps c) = some m at e
    unfold condA at e
    split at e
    · rename_i t hc
      have hv : fr.eval c = .bool t := ev_eval (R := R) (fun u _ hu => hs u _ hu) hc
      cases t with
      | true => exact k.to (todo := .code a :: kk) (todo' := .code a :: kk') hs (cons rfl hk) e (step_lone_go (by simp [stepG, stepG.exec, hm, hfr, hv]))
      | false => exact k.to (todo := .code b :: kk) (todo' := .code b :: kk') hs (cons rfl hk) e (step_lone_go (by simp [stepG, stepG.exec, hm, hfr, hv]))
    · cases e
  | block id b => exact k.to (todo := .code b :: .inBlock id :: kk) (todo' := .code b :: .inBlock id :: kk') hs (cons rfl (cons rfl hk)) e (step_lone_go (by simp [stepG, stepG.exec, hm, hfr]))
  | loop b => exact k.to (todo := .code b :: .inLoop b :: kk) (todo' := .code b :: .inLoop b :: kk') hs (cons rfl (cons rfl hk)) e (step_lone_go (by simp [stepG, stepG.exec, hm, hfr]))
  | scope b => exact k.to (todo := .code b :: .inScope b :: kk) (todo' := .code b :: .inScope b :: kk') hs (cons rfl (cons rfl hk)) e (step_lone_go (by simp [stepG, stepG.exec, hm, hfr]))
  | ret =>
    change leaveA P af rest h (some .ret) = some m at e
    refine leave e (fun hr _ => by simp [stepG, stepG.exec, hm, hfr, hr]) fun l hr => ?_
    simp only [stepG, stepG.exec, hm, hfr, hr, Sem.runT_eq]
    cases (Instr.endRound l (some .ret)).run P w <;> simp
  | exit id =>
    change (match exitA id kk with | some k => toA af rest h k | none => leaveA P af rest h (some (.exit id))) = some m at e
    obtain ⟨x1, x2⟩ := exit_rel (id := id) hk
    cases hx : exitA id kk with
    | some q =>
      rw [hx] at e
      obtain ⟨q', g1, g2⟩ := x1 q hx
      exact k.to hs g2 e (step_lone_go (by simp [stepG, stepG.exec, hm, hfr, g1]))
    | none =>
      rw [hx] at e
      have g := x2 hx
      refine leave e (fun hr hj => by rcases hj with hj | hj <;> cases hj) fun l hr => ?_
      simp only [stepG, stepG.exec, hm, hfr, hr, Sem.runT_eq, g, Option.elim_none]
      cases (Instr.endRound l (some (.exit id))).run P w <;> simp
  | goto l =>
    change (match gotoA l kk with | some k => toA af rest h k | none => leaveA P af rest h (some (.goto l))) = some m at e
    obtain ⟨x1, x2⟩ := goto_rel (l := l) hk
    cases hx : gotoA l kk with
    | some q =>
      rw [hx] at e
      obtain ⟨q', g1, g2⟩ := x1 q hx
      exact k.to hs g2 e (step_lone_go (by simp [stepG, stepG.exec, hm, hfr, g1]))
    | none =>
      rw [hx] at e
      have g := x2 hx
      refine leave e (fun hr hj => by rcases hj with hj | hj <;> cases hj) fun l' hr => ?_
      simp only [stepG, stepG.exec, hm, hfr, hr, Sem.runT_eq, g, Option.elim_none]
      cases (Instr.endRound l' (some (.goto l))).run P w <;> simp
  | region id ops draw =>
    change regionA P af rest h ops draw kk = some m at e
    cases draw with
    | false =>
      refine k.to (todo := .ops ops.toList ops.toList :: kk) (todo' := .inRegion ops (List.range ops.size) :: kk') hs (cons ⟨ops, _, rfl, rfl, ?_⟩ hk) e (step_lone_go (by simp [stepG, stepG.exec, hm, hfr]))
      apply List.ext_getElem?
      intro i
      simp only [List.getElem?_map]
      by_cases hi : i < ops.size
      · rw [List.getElem?_range hi]; simp [hi]
      · rw [List.getElem?_eq_none (by simpa using hi), List.getElem?_eq_none (by simpa using hi)]; rfl
    | true =>
      change (match planOk P ops.toList (planOf P ops.toList) with | false => none | true => toA af rest h (.drw ops (planOf P ops.toList).ord [] :: kk)) = some m at e
      split at e
      · cases e
      · rename_i hp
        cases e
        have pi := planOk_is hp
        obtain ⟨g1, g2⟩ := linearise_topo pi (w.tape w.drawn (.order fr.fn id))
        refine ⟨_, _, _, .one (step_lone_go (fr' := { fr with todo := .inRegion ops (Region.linearise .any ops (w.tape w.drawn (.order fr.fn id))) :: kk' }) (cs' := fs ++ base) (w' := w.drew) ?_), B, R, fs, rfl, k.base, k.heap.heap_eq rfl, ⟨k.old.os, k.old.tape, k.old.output, k.old.size, Nat.le_succ_of_le k.old.drawn⟩, ?_, k.below⟩
        · simp [stepG, stepG.exec, hm, hfr, choose, Sem.run, Question.forced, Question.cut, Region.schedule, hmix]
        · obtain ⟨k1, k2, k3, k4, k5, k6, k7, k8, k9⟩ := k.top
          have hrun := k.run
          obtain ⟨fn, n, t, td, ds, mode, kind, round⟩ := af
          simp only at hrun; subst hrun
          obtain ⟨a1, a2, a3⟩ := orderOk_all pi.ord
          exact ⟨k1, k2, k3, k4, k5, k6, k7, k8, _, kk', rfl, hk, ⟨pi, rfl, g1, fun i hi => (g2 i).2 (by have := (a2 i hi).1; simpa using this), fun i hi => (g2 i).1 hi, fun i hi => absurd hi List.not_mem_nil, fun hh => (by cases hh), fun u v hv => .inr (hs u v hv), fun p hp => absurd hp List.not_mem_nil, fun p hp => absurd hp List.not_mem_nil⟩⟩
  | rangeFunc f params assign body => exact rangeFunc_sim k hs hfr hk e
  | refuse why => cases e

end

end Go.Proofs.Ytcdpmiebmhjmpaa.Ev
