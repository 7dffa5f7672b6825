/- The model does what the evaluator has done ahead of it. -/
import Derived.Test.YtcdpmiebmhjmpaaEvW
namespace Go.Proofs.Ytcdpmiebmhjmpaa.Ev
open Go

section
variable {P : Program} {B : Base} {R : Bij} {d : Nat} {h : AHeap} {w : World}

theorem ord_chain {ops : List Oper} {anc : List Nat} {em i p : Nat} : ∀ {l : List Nat} {done : Nat}, orderOk ops anc em l done = true → done.testBit i = true → em.testBit i = true → p ∈ l → em.testBit p = true → (anc.getD p 0).testBit i = true
  | [], _, _, _, _, hp, _ => absurd hp List.not_mem_nil
  | j :: r, done, ho, hd, hi, hp, hpe => by
    obtain ⟨h1, h2, h3, h4, h5⟩ := orderOk_cons ho
    rcases List.mem_cons.1 hp with e | e
    · rw [e] at hpe ⊢
      exact (h4 hpe).1 i hi hd
    · exact ord_chain h5 (by rw [lor_bit, hd]; rfl) hi e hpe

theorem wanted_rel {ops : Array Oper} {t : T AV} {a : Array Value} {o : Oper} {wt : Bool} (e : wantedA ops.toList t o.guard = some wt)
    (hs : ∀ g b q u v, o.guard = some (g, b) → ops[g]? = some q → q.dst = some u → t.get u = some v → ∃ x, a[u]? = some x ∧ VRel R v x) : Region.wanted o (yielded ops a) = wt := by
  unfold wantedA at e
  unfold Region.wanted
  cases hg : o.guard with
  | none => rw [hg] at e; cases e; rfl
  | some gb =>
    obtain ⟨g, b⟩ := gb
    rw [hg] at e
    simp only [] at e ⊢
    rw [show ops.toList[g]? = ops[g]? by simp] at e
    cases hq : ops[g]? with
    | none => rw [hq] at e; cases e
    | some q =>
      rw [hq] at e
      cases hu : q.dst with
      | none => simp only [dstOf, hu, slotOf] at e; cases e
      | some u =>
        simp only [dstOf, hu, slotOf] at e
        cases hv : t.get u with
        | none => rw [hv] at e; cases e
        | some v =>
          obtain ⟨x, hx, hxr⟩ := hs g b q u v hg hq hu hv
          rw [hv] at e
          cases v with
          | bool c =>
            cases hxr
            have hy : yielded ops a g = some c := by simp only [yielded, hq, Option.bind_some, hu, hx]
            rw [hy]
            simp only [asBoolA, wantIt, Option.some.injEq] at e
            rw [← e]
            cases c <;> cases b <;> rfl
          | tup l =>
            cases l with
            | nil =>
              obtain ⟨as, rfl, hn⟩ := hxr
              cases hn
              have hy : yielded ops a g = none := by simp only [yielded, hq, Option.bind_some, hu, hx]
              rw [hy]
              simp only [asBoolA, wantIt, Option.some.injEq] at e
              rw [← e]
              rfl
            | cons y ys => cases e
          | _ => cases e

theorem step_unwanted {fr : Frame} {cs : List Frame} {ops : Array Oper} {i : Nat} {s : List Nat} {k : List Item} {o : Oper} (hm : fr.mode = .run) (ht : fr.todo = .inRegion ops (i :: s) :: k) (ho : ops[i]? = some o)
    (hw : Region.wanted o (yielded ops fr.tmps) = false) : step P (lone fr cs w) = .next (lone (fr.finish undef) cs w) :=
  step_lone_go (by simp [stepG, stepG.exec, hm, ht, ho, hw])

theorem step_value {fr : Frame} {cs : List Frame} {ops : Array Oper} {i : Nat} {s : List Nat} {k : List Item} {o : Oper} {v : Value} {w' : World} (hm : fr.mode = .run) (ht : fr.todo = .inRegion ops (i :: s) :: k) (ho : ops[i]? = some o)
    (hw : Region.wanted o (yielded ops fr.tmps) = true) (hd : ∀ c, o.op ≠ .defer c) (hr : (execOp fr.eval o).run P w = .ok (.value v) w') : step P (lone fr cs w) = .next (lone (fr.finish v) cs w') := by
  have : stepG P true { frame := fr, callers := cs, status := .running, dying := none } w = stepG.apply P true fr cs none (execOp fr.eval o) w := by
    simp only [stepG, stepG.exec, hm, ht, ho, hw, Option.map_some, Option.getD_some, if_true, stepG.oper, Frame.oper?]
    split
    · rename_i c _ _ hc
      exact absurd hc (hd _)
    · rfl
  refine step_lone_go ?_
  rw [this]
  simp [stepG.apply, Sem.runT_eq, hr]

theorem ev_eval {fr : Frame} {t : T AV} {x : Operand} {v : AV} (hs : ∀ u, x = .tmp u → t.get u = some v → ∃ y, fr.tmps[u]? = some y ∧ VRel R v y) (e : ev t x = some v) : VRel R v (fr.eval x) := by
  cases x with
  | tmp u =>
    obtain ⟨y, h1, h2⟩ := hs u rfl e
    show VRel R v (fr.tmps.getD u undef)
    rw [show fr.tmps.getD u undef = y by
      obtain ⟨hl, hg⟩ := Array.getElem?_eq_some_iff.1 h1
      simp [Array.getD, hl, hg]]
    exact h2
  | const c => exact absV_rel R 9 c v e
  | global g => cases e; rfl
  | func f => cases e; exact ⟨fun l hl => (by cases hl), [], [], rfl, rfl, rfl⟩

theorem Base.keeps_refl (B : Base) (D : Nat) : B.keeps B D := ⟨rfl, fun _ _ h _ => ⟨h, rfl⟩⟩
theorem Base.keeps_drop {B : Base} {id : Nat} {D p : Nat} (h : B.tag id = (D, p)) : B.keeps (B.drop id) D :=
  ⟨rfl, fun j ob hj hd => ⟨by
    simp only [Base.drop]
    rw [if_neg]; exact hj
    intro e; rw [e, h] at hd; exact Nat.lt_irrefl _ hd, rfl⟩⟩
theorem Base.keeps_trans {B B' B'' : Base} {D : Nat} (h : B.keeps B' D) (k : B'.keeps B'' D) : B.keeps B'' D :=
  ⟨k.1.trans h.1, fun id ob e hd => by
    obtain ⟨e1, e2⟩ := h.2 id ob e hd
    obtain ⟨e3, e4⟩ := k.2 id ob e1 (by rw [e2]; exact hd)
    exact ⟨e3, e4.trans e2⟩⟩

/-- An operation that the evaluator has done, done by the model. -/
theorem Drw.catch1 (kh : HRel P B R h w) (hB : B.n ≤ w.heap.size) {fr : Frame} (hm : fr.mode = .run) {all : Array Oper} {p : Nat} {s' todo dn : List Nat} {k' : List Item} {t : T AV} (hf : fr.todo = .inRegion all (p :: s') :: k')
    (k : Drw P B R d false all todo dn t h fr.tmps (p :: s')) (hp : p ∈ dn) (cs : List Frame) :
    ∃ B' R' w' a', step P (lone fr cs w) = .next (lone { fr with tmps := a', todo := .inRegion all s' :: k' } cs w') ∧ a'.size = fr.tmps.size ∧ B.keeps B' d ∧ R.le R' ∧ HRel P B' R' h w' ∧ Keeps R w R' w' ∧
      Drw P B' R' d false all todo dn t h a' s' := by
  obtain ⟨f1, f2, f3, f4, f5, _⟩ := k.facts
  obtain ⟨t1, t2, t3⟩ := k.topo
  have hpa := f3 p hp
  obtain ⟨o, ho⟩ : ∃ o, all[p]? = some o := ⟨_, Array.getElem?_eq_getElem hpa⟩
  have hpe : isEff P o = false := by
    rw [← k.plan.em p o ho]
    cases hb : (planOf P all.toList).em.testBit p with
    | false => rfl
    | true => exact absurd List.mem_cons_self (k.effs p hp hb)
  have hfin : ∀ x, fr.finish x = { fr with tmps := putS fr.tmps o.dst x, todo := .inRegion all s' :: k' } := fun x => by
    simp only [Frame.finish, hf, ho, Option.bind_some, putS]
    cases o.dst <;> rfl
  -- the slots that it reads are there
  have hslot : ∀ u v, (mentions all.toList o).contains u = true → t.get u = some v → ∃ y, fr.tmps[u]? = some y ∧ VRel R v y := by
    intro u v hu hv
    rcases k.slots u v hv with ⟨q, g1, g2, g3⟩ | g
    · exfalso
      cases hq : all[q]? with
      | none => rw [hq] at g3; cases g3
      | some oq =>
        rw [hq] at g3
        simp only [Option.bind_some] at g3
        have hs := k.plan.slots q oq p o hq ho
        have hqe : isEff P oq = false := by
          rw [← k.plan.em q oq hq]
          cases hb : (planOf P all.toList).em.testBit q with
          | false => rfl
          | true => exact absurd g2 (k.effs q g1 hb)
        by_cases hqp : q = p
        · subst hqp
          rw [ho] at hq; cases hq
          simp only [slotsOk, g3, Nat.beq_refl, if_true, hpe, Bool.false_or, hu, Bool.not_true] at hs
          cases hs
        · have hbe : Nat.beq q p = false := by
            cases hb : Nat.beq q p with
            | false => rfl
            | true => exact absurd (Nat.eq_of_beq_eq_true hb) hqp
          simp only [slotsOk, g3, hbe, hqe, Bool.false_eq_true, if_false, hu, if_true, Bool.and_eq_true] at hs
          have := t1 q g2
          rw [this] at hs; cases hs.2
    · exact g
  have hops : ∀ x ∈ o.op.operands, ∀ v, ev t x = some v → VRel R v (fr.eval x) := fun x hx v hv =>
    ev_eval (fun u hu he => hslot u v (by rw [hu] at hx; exact mentions_operand hx) he) hv
  have hgu : ∀ g b q u v, o.guard = some (g, b) → all[g]? = some q → q.dst = some u → t.get u = some v → ∃ x, fr.tmps[u]? = some x ∧ VRel R v x := fun g b q u v hg hq hu hv =>
    hslot u v (mentions_guard hg (by simpa using hq) hu) hv
  -- what it leaves
  have fin : ∀ {B' : Base} {R' : Bij} {w' : World} {x : Value}, step P (lone fr cs w) = .next (lone (fr.finish x) cs w') → B.keeps B' d → R.le R' → HRel P B' R' h w' → Keeps R w R' w' →
      (∀ u, o.dst = some u → ∃ v, t.get u = some v ∧ VRel R' v x) → (∀ q ∈ dn, q ∈ s' → ∀ oq, all[q]? = some oq → Pend P B' d false all t h q oq) →
      ∃ B' R' w' a', step P (lone fr cs w) = .next (lone { fr with tmps := a', todo := .inRegion all s' :: k' } cs w') ∧ a'.size = fr.tmps.size ∧ B.keeps B' d ∧ R.le R' ∧ HRel P B' R' h w' ∧ Keeps R w R' w' ∧
        Drw P B' R' d false all todo dn t h a' s' := by
    intro B' R' w' x hst hb hle hh hk hdst hpend
    refine ⟨B', R', w', putS fr.tmps o.dst x, by rw [hst, hfin], putS_size _ _ _, hb, hle, hh, hk, ⟨k.plan, k.split, t3, fun j hj => ?_, fun j hj => k.own j (List.mem_cons_of_mem _ hj), fun j hj hje hh => k.effs j hj hje (List.mem_cons_of_mem _ hh),
      fun hh => (by cases hh), fun u v hv => ?_, hpend, fun q hq oq u hoq hu => by rw [putS_size]; exact k.bound q hq oq u hoq hu⟩⟩
    · rcases List.mem_cons.1 (k.rest j hj) with e | e
      · rw [e] at hj
        exact absurd rfl ((List.nodup_append.1 f5).2.2 p (by simpa using hp) p hj)
      · exact e
    · rw [putS_get u (fun y hy => k.bound p hp o y ho hy)]
      by_cases hu : o.dst = some u
      · rw [if_pos hu]
        obtain ⟨v', hv', hr⟩ := hdst u hu
        rw [hv] at hv'; cases hv'
        exact .inr ⟨x, rfl, hr⟩
      · rw [if_neg hu]
        rcases k.slots u v hv with ⟨q, g1, g2, g3⟩ | ⟨y, g1, g2⟩
        · refine .inl ⟨q, g1, ?_, g3⟩
          rcases List.mem_cons.1 g2 with e | e
          · rw [e, ho] at g3; exact absurd g3 hu
          · exact e
        · exact .inr ⟨y, g1, VRel.mono hle _ _ g2⟩
  obtain ⟨wt, k1, k2, k3⟩ := k.pend p hp List.mem_cons_self o ho
  have hwant := wanted_rel k1 hgu
  have hdef : ∀ c, o.op ≠ .defer c := fun c hc => by
    simp [isEff, hc, isPure, isRead, isFloat] at hpe
  cases wt with
  | false =>
    refine fin (step_unwanted hm hf ho hwant) (B.keeps_refl d) R.le_refl kh (Keeps.refl _ _) (fun u hu => ⟨undefA, k2 rfl u hu, ⟨[], rfl, rfl⟩⟩) fun q hq hqs oq hoq => k.pend q hq (List.mem_cons_of_mem _ hqs) oq hoq
  | true =>
    rcases k3 rfl with ⟨g1, vf, ob, id, g2, g3, g4, g5⟩ | ⟨g1, g2, v, g3, g4⟩ | ⟨g1, g2, g3, g4⟩
    · obtain ⟨sm, e1, e2⟩ := g2.2 R w fr.eval o rfl hops
      obtain ⟨R', v', w', r1, r2, r3, r4⟩ := kh.adopt hB g3 e2
      refine fin (step_value (v := v') (w' := w') hm hf ho hwant hdef (by rw [e1]; simp [r1])) (Base.keeps_drop g4) r4.le r3 r4 (fun u hu => ⟨_, g5 u hu, r2⟩) fun q hq hqs oq hoq => ?_
      obtain ⟨wt, q1, q2, q3⟩ := k.pend q hq (List.mem_cons_of_mem _ hqs) oq hoq
      refine ⟨wt, q1, q2, fun hw => ?_⟩
      rcases q3 hw with ⟨a1, vf', ob', id', a2, a3, a4, a5⟩ | a | a
      · refine .inl ⟨a1, vf', ob', id', a2, ?_, a4, a5⟩
        simp only [Base.drop]
        rw [if_neg]
        · exact a3
        · intro e
          rw [e, g4] at a4
          cases a4
          exact t2 hqs
      · exact .inr (.inl a)
      · exact .inr (.inr a)
    · obtain ⟨R', v', w', r1, r2, r3, r4⟩ := opA_at kh hB hops (g3 h)
      refine fin (step_value (v := v') (w' := w') hm hf ho hwant hdef r1) (B.keeps_refl d) r4.le r3 r4 (fun u hu => ⟨v, g4 u hu, r2⟩) fun q hq hqs oq hoq => k.pend q hq (List.mem_cons_of_mem _ hqs) oq hoq
    · rcases g4 with g4 | ⟨v, g4, g5⟩
      · cases g4
      · obtain ⟨R', v', w', r1, r2, r3, r4⟩ := opA_at kh hB hops g4
        refine fin (step_value (v := v') (w' := w') hm hf ho hwant hdef r1) (B.keeps_refl d) r4.le r3 r4 (fun u hu => ⟨v, g5 u hu, r2⟩) fun q hq hqs oq hoq => k.pend q hq (List.mem_cons_of_mem _ hqs) oq hoq

/-- The model does all that the evaluator has done, up to what acts. -/
theorem Drw.catch_up {all : Array Oper} {i : Nat} {l dn : List Nat} {k' : List Item} {t : T AV} (hem : (planOf P all.toList).em.testBit i = true) : ∀ (s : List Nat) {B : Base} {R : Bij} {w : World} {fr : Frame}, HRel P B R h w → B.n ≤ w.heap.size → fr.mode = .run → fr.todo = .inRegion all s :: k' →
    Drw P B R d false all (i :: l) dn t h fr.tmps s → ∀ (cs : List Frame),
    ∃ B' R' w' a' s', Steps P (lone fr cs w) (lone { fr with tmps := a', todo := .inRegion all (i :: s') :: k' } cs w') ∧ a'.size = fr.tmps.size ∧ B.keeps B' d ∧ R.le R' ∧ HRel P B' R' h w' ∧ Keeps R w R' w' ∧
      Drw P B' R' d false all (i :: l) dn t h a' (i :: s') := by
  intro s
  induction s with
  | nil => intro B R w fr kh hB hm hf k cs; exact absurd (k.rest i List.mem_cons_self) List.not_mem_nil
  | cons p s ih =>
    intro B R w fr kh hB hm hf k cs
    by_cases hpi : p = i
    · subst hpi
      exact ⟨B, R, w, fr.tmps, s, by rw [show ({ fr with tmps := fr.tmps, todo := .inRegion all (p :: s) :: k' } : Frame) = fr by rw [← hf]]; exact Steps.refl _ _, rfl, B.keeps_refl d, R.le_refl, kh, Keeps.refl _ _, k⟩
    · obtain ⟨f1, f2, f3, f4, f5, done, f6, f7⟩ := k.facts
      obtain ⟨t1, t2, t3⟩ := k.topo
      have hord := k.plan.ord
      rw [← k.split] at hord
      have hpa := k.own p List.mem_cons_self
      have his : i ∈ p :: s := k.rest i List.mem_cons_self
      have hpanc : ((planOf P all.toList).anc.getD p 0).testBit i = false := t1 i his
      obtain ⟨h1, h2, h3, h4, h5⟩ := orderOk_cons f6
      have hp : p ∈ dn := by
        rcases f2 p hpa with e | e
        · exact e
        · exfalso
          have hpl : p ∈ l := by
            rcases List.mem_cons.1 e with e | e
            · exact absurd e hpi
            · exact e
          have hpd : p ∉ dn := fun hh => (List.nodup_append.1 f5).2.2 p (by simpa using hh) p e rfl
          cases hpe : (planOf P all.toList).em.testBit p with
          | true =>
            have := ord_chain h5 (by rw [lor_bit, Nat.testBit_two_pow]; simp) hem hpl hpe
            rw [this] at hpanc; cases hpanc
          | false =>
            obtain ⟨q, q1, q2, q3⟩ := (h4 hem).2 p (by simpa using hpa) hpe (by
              cases hb : done.testBit p with
              | false => rfl
              | true => exact absurd ((f7 p).1 hb) hpd) hpanc
            have hqd : q ∉ dn := fun hh => by rw [(f7 q).2 hh] at q3; cases q3
            obtain ⟨d', g1, g2, g3⟩ := orderOk_split (l1 := dn.reverse ++ i :: l) (l2 := []) (by rw [List.append_nil]; exact hord)
            have hq : q ∈ i :: l := by
              rcases g3 p (List.mem_append_right _ e) q q1 with e' | e'
              · simp at e'
              · rcases List.mem_append.1 e' with e' | e'
                · exact absurd (by simpa using e') hqd
                · exact e'
            have := t1 q (k.rest q hq)
            rw [this] at q1; cases q1
      obtain ⟨B1, R1, w1, a1, g1, g2, g3, g4, g5, g6, g7⟩ := k.catch1 kh hB hm hf hp cs
      obtain ⟨B2, R2, w2, a2, s2, j1, j2, j3, j4, j5, j6, j7⟩ := ih (fr := { fr with tmps := a1, todo := .inRegion all s :: k' }) g5 (by show B1.env.heap.size ≤ _; rw [g3.1]; exact Nat.le_trans hB g6.size) hm rfl g7 cs
      exact ⟨B2, R2, w2, a2, s2, .head g1 j1, j2.trans g2, Base.keeps_trans g3 j3, Bij.le_trans g4 j4, j5, g6.trans j6, j7⟩

/-- The model does all that is left of a region. -/
theorem Drw.run_out {all : Array Oper} {dn : List Nat} {k' : List Item} {t : T AV} : ∀ (s : List Nat) {B : Base} {R : Bij} {w : World} {fr : Frame}, HRel P B R h w → B.n ≤ w.heap.size → fr.mode = .run → fr.todo = .inRegion all s :: k' →
    Drw P B R d false all [] dn t h fr.tmps s → ∀ (cs : List Frame),
    ∃ B' R' w' a', Steps P (lone fr cs w) (lone { fr with tmps := a', todo := .inRegion all [] :: k' } cs w') ∧ a'.size = fr.tmps.size ∧ B.keeps B' d ∧ R.le R' ∧ HRel P B' R' h w' ∧ Keeps R w R' w' ∧ Slots R' t a' := by
  intro s
  induction s with
  | nil =>
    intro B R w fr kh hB hm hf k cs
    refine ⟨B, R, w, fr.tmps, by rw [show ({ fr with tmps := fr.tmps, todo := .inRegion all [] :: k' } : Frame) = fr by rw [← hf]]; exact Steps.refl _ _, rfl, B.keeps_refl d, R.le_refl, kh, Keeps.refl _ _, fun u v hv => ?_⟩
    rcases k.slots u v hv with ⟨q, _, g, _⟩ | g
    · exact absurd g List.not_mem_nil
    · exact g
  | cons p s ih =>
    intro B R w fr kh hB hm hf k cs
    have hp : p ∈ dn := by
      rcases k.facts.2.1 p (k.own p List.mem_cons_self) with e | e
      · exact e
      · exact absurd e List.not_mem_nil
    obtain ⟨B1, R1, w1, a1, g1, g2, g3, g4, g5, g6, g7⟩ := k.catch1 kh hB hm hf hp cs
    obtain ⟨B2, R2, w2, a2, j1, j2, j3, j4, j5, j6, j7⟩ := ih (fr := { fr with tmps := a1, todo := .inRegion all s :: k' }) g5 (by show B1.env.heap.size ≤ _; rw [g3.1]; exact Nat.le_trans hB g6.size) hm rfl g7 cs
    exact ⟨B2, R2, w2, a2, .head g1 j1, j2.trans g2, Base.keeps_trans g3 j3, Bij.le_trans g4 j4, j5, g6.trans j6, j7⟩

end

end Go.Proofs.Ytcdpmiebmhjmpaa.Ev
