/- The evaluator goes ahead in a region whose order is drawn. -/
import Derived.Test.YtcdpmiebmhjmpaaEvWa
namespace Go.Proofs.Ytcdpmiebmhjmpaa.Ev
open Go

section
variable {P : Program} {B : Base} {R : Bij} {d : Nat} {h : AHeap} {w : World}

/-- An operation that does not act, done by the evaluator alone. -/
theorem Drw.ahead {all : Array Oper} {i : Nat} {l dn : List Nat} {t t' : T AV} {a : Array Value} {s : List Nat} {n : Nat} {o : Oper} {v : AV} {B' : Base} {h' : AHeap} (k : Drw P B R d false all (i :: l) dn t h a s) (ho : all[i]? = some o)
    (hem : isEff P o = false) (hs : a.size = n) (e : putT t n o.dst v = some t')
    (hold : ∀ p ∈ dn, p ∈ s → ∀ q, all[p]? = some q → Pend P B d false all t h p q → Pend P B' d false all t' h' p q) (hnew : Pend P B' d false all t' h' i o) :
    Drw P B' R d false all l (i :: dn) t' h' a s := by
  obtain ⟨f1, f2, f3, f4, f5, _⟩ := k.facts
  have hidn : i ∉ dn := fun hi => (List.nodup_append.1 f5).2.2 i (by simpa using hi) i List.mem_cons_self rfl
  obtain ⟨rfl, hu⟩ := putT_get e
  have heb : (planOf P all.toList).em.testBit i = false := by rw [k.plan.em i o ho]; exact hem
  refine ⟨k.plan, ?_, k.topo, fun j hj => k.rest j (List.mem_cons_of_mem _ hj), k.own, fun j hj hje => ?_, fun hh => (by cases hh), fun u y hy => ?_, fun p hp hps q hq => ?_, fun p hp q u hq hqu => ?_⟩
  · rw [← k.split]; simp
  · rcases List.mem_cons.1 hj with e | e
    · rw [e, heb] at hje; cases hje
    · exact k.effs j e hje
  · rw [setT_get] at hy
    split at hy
    · rename_i hi
      exact .inl ⟨i, List.mem_cons_self, k.rest i List.mem_cons_self, by rw [ho]; exact hi⟩
    · rcases k.slots u y hy with ⟨q, g1, g2, g3⟩ | g
      · exact .inl ⟨q, List.mem_cons_of_mem _ g1, g2, g3⟩
      · exact .inr g
  · rcases List.mem_cons.1 hp with e | hp
    · rw [e, ho] at hq; cases hq; rw [e]; exact hnew
    · exact hold p hp hps q hq (k.pend p hp hps q hq)
  · rcases List.mem_cons.1 hp with e | hp
    · rw [e, ho] at hq; cases hq; rw [hs]; exact hu u hqu
    · exact k.bound p hp q u hq hqu

/-- What is pending stays so when a slot of another one is written, and the heap stays. -/
theorem Pend.other {all : Array Oper} {t t' : T AV} {p : Nat} {o : Oper} {u : Option Nat} {v : AV} (k : Pend P B d false all t h p o) (ht : t' = setD t u v) (hm : ∀ x, u = some x → (mentions all.toList o).contains x = false ∧ o.dst ≠ some x) :
    Pend P B d false all t' h p o := by
  have hop : ∀ h, opA P (ev t') h o.op = opA P (ev t) h o.op := fun h => by
    subst ht
    cases u with
    | none => rfl
    | some u => exact opA_set all.toList (hm u rfl).1 h
  have hw : wantedA all.toList t' o.guard = wantedA all.toList t o.guard := by
    subst ht
    cases u with
    | none => rfl
    | some u => exact wantedA_set (hm u rfl).1
  have hd : ∀ x, o.dst = some x → t'.get x = t.get x := fun x hx => by
    subst ht
    cases u with
    | none => rfl
    | some u => exact T.get_set_other _ _ fun e => (hm u rfl).2 (by rw [hx, e])
  have hfl : ∀ {vf ob}, FloatAt P (ev t) o.op vf ob → FloatAt P (ev t') o.op vf ob := fun k => by
    subst ht
    cases u with
    | none => exact k
    | some u => exact k.set all.toList (hm u rfl).1
  obtain ⟨wt, k1, k2, k3⟩ := k
  refine ⟨wt, by rw [hw]; exact k1, fun hf x hx => by rw [hd x hx]; exact k2 hf x hx, fun ht' => ?_⟩
  rcases k3 ht' with ⟨f1, vf, ob, id, f2, f3, f4, f5⟩ | ⟨f1, f2, v', f3, f4⟩ | ⟨f1, f2, f3, f4⟩
  · exact .inl ⟨f1, vf, ob, id, hfl f2, f3, f4, fun x hx => by rw [hd x hx]; exact f5 x hx⟩
  · exact .inr (.inl ⟨f1, f2, v', fun h => by rw [hop]; exact f3 h, fun x hx => by rw [hd x hx]; exact f4 x hx⟩)
  · rcases f4 with f4 | ⟨v', g1, g2⟩
    · cases f4
    · exact .inr (.inr ⟨f1, f2, f3, .inr ⟨v', by rw [hop]; exact g1, fun x hx => by rw [hd x hx]; exact g2 x hx⟩⟩)

/-- The same where something has been made ahead; the tags of what was pending are as they were. -/
theorem Pend.base {B' : Base} {sus : Bool} {all : Array Oper} {t : T AV} {p : Nat} {o : Oper} (hb : ∀ id ob, B.pend id = some ob → B'.pend id = some ob ∧ B'.tag id = B.tag id) (k : Pend P B d sus all t h p o) : Pend P B' d sus all t h p o := by
  obtain ⟨wt, k1, k2, k3⟩ := k
  refine ⟨wt, k1, k2, fun hw => ?_⟩
  rcases k3 hw with ⟨f1, vf, ob, id, f2, f3, f4, f5⟩ | f | f
  · obtain ⟨g1, g2⟩ := hb id ob f3
    exact .inl ⟨f1, vf, ob, id, f2, g1, g2.trans f4, f5⟩
  · exact .inr (.inl f)
  · exact .inr (.inr f)

theorem Pend.suspend {sus : Bool} {all : Array Oper} {t : T AV} {p : Nat} {o : Oper} (k : Pend P B d sus all t h p o) : Pend P B d true all t h p o := by
  obtain ⟨wt, k1, k2, k3⟩ := k
  refine ⟨wt, k1, k2, fun hw => ?_⟩
  rcases k3 hw with f | f | ⟨f1, f2, f3, _⟩
  · exact .inl f
  · exact .inr (.inl f)
  · exact .inr (.inr ⟨f1, f2, f3, .inl rfl⟩)

/-- It waits for what acts. -/
theorem Drw.suspend {all : Array Oper} {i : Nat} {l dn : List Nat} {t : T AV} {a : Array Value} {s : List Nat} (k : Drw P B R d false all (i :: l) dn t h a (i :: s)) (hem : (planOf P all.toList).em.testBit i = true) :
    Drw P B R d true all (i :: l) dn t h a (i :: s) where
  plan := k.plan
  split := k.split
  topo := k.topo
  rest := k.rest
  own := k.own
  effs := k.effs
  head _ j l' e := by cases e; exact ⟨⟨s, rfl⟩, hem⟩
  slots := k.slots
  pend p h1 h2 o ho := (k.pend p h1 h2 o ho).suspend
  bound := k.bound

/-- The base, with one more that is pending. -/
def Base.mark (B : Base) (id : Nat) (o : AObj) (g : Nat × Nat) : Base := { B with pend := fun j => if j = id then some o else B.pend j, tag := fun j => if j = id then g else B.tag j }

theorem HRel.mark (k : HRel P B R h w) (o : AObj) (g : Nat × Nat) : HRel P (B.mark h.next o g) R (h.new o) w := by
  have := k.ahead o
  exact ⟨this.fresh, this.obj, this.pend, this.place, this.rd, this.rp, this.rol, this.low, this.pin, this.apart, this.same, this.glob⟩

theorem mark_keeps (k : HRel P B R h w) (o : AObj) (g : Nat × Nat) : ∀ id ob, B.pend id = some ob → (B.mark h.next o g).pend id = some ob ∧ (B.mark h.next o g).tag id = B.tag id := fun id ob e => by
  have := (k.pend id ob e).1
  simp only [Base.mark]
  rw [if_neg (by omega), if_neg (by omega)]
  exact ⟨e, rfl⟩

/-- The slots that the next operation reads are there. -/
theorem Drw.reads {sus : Bool} {all : Array Oper} {p : Nat} {s' todo dn : List Nat} {t : T AV} {a : Array Value} {o : Oper} (k : Drw P B R d sus all todo dn t h a (p :: s')) (ho : all[p]? = some o) (hp : p ∉ dn) :
    ∀ u v, (mentions all.toList o).contains u = true → t.get u = some v → ∃ y, a[u]? = some y ∧ VRel R v y := by
  obtain ⟨t1, t2, t3⟩ := k.topo
  intro u v hu hv
  rcases k.slots u v hv with ⟨q, g1, g2, g3⟩ | g
  · exfalso
    cases hq : all[q]? with
    | none => rw [hq] at g3; cases g3
    | some oq =>
      rw [hq] at g3
      simp only [Option.bind_some] at g3
      have hs := k.plan.slots q oq p o hq ho
      have hqe : isEff P oq = false := by
        rw [← k.plan.em q oq hq]
        cases hb : (planOf P all.toList).em.testBit q with
        | false => rfl
        | true => exact absurd g2 (k.effs q g1 hb)
      by_cases hqp : q = p
      · subst hqp; exact hp g1
      · have hbe : Nat.beq q p = false := by
          cases hb : Nat.beq q p with
          | false => rfl
          | true => exact absurd (Nat.eq_of_beq_eq_true hb) hqp
        simp only [slotsOk, g3, hbe, hqe, Bool.false_eq_true, if_false, hu, if_true, Bool.and_eq_true] at hs
        have := t1 q g2
        rw [this] at hs; cases hs.2
  · exact g

/-- What does not act does not read what it writes. -/
theorem Drw.own_dst {sus : Bool} {all : Array Oper} {i : Nat} {s todo dn : List Nat} {t : T AV} {a : Array Value} {o : Oper} (k : Drw P B R d sus all todo dn t h a s) (ho : all[i]? = some o) (he : isEff P o = false) :
    ∀ x, o.dst = some x → (mentions all.toList o).contains x = false := by
  intro x hx
  have hs := k.plan.slots i o i o ho ho
  simp only [slotsOk, hx, Nat.beq_refl, if_true, he, Bool.false_or] at hs
  simpa using hs

end

end Go.Proofs.Ytcdpmiebmhjmpaa.Ev
