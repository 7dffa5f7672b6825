/- What an operation comes to, put where it belongs. -/
import Derived.Test.YtcdpmiebmhjmpaaEvU
namespace Go.Proofs.Ytcdpmiebmhjmpaa.Ev
open Go

theorem orderOk_split {ops : List Oper} {anc : List Nat} {em : Nat} : ∀ {l1 l2 : List Nat} {done : Nat}, orderOk ops anc em (l1 ++ l2) done = true →
    ∃ done', orderOk ops anc em l2 done' = true ∧ (∀ a, done'.testBit a = true ↔ (done.testBit a = true ∨ a ∈ l1)) ∧ ∀ p ∈ l1, ∀ a, (anc.getD p 0).testBit a = true → done.testBit a = true ∨ a ∈ l1
  | [], l2, done, h => ⟨done, h, fun a => by simp, fun p hp => absurd hp List.not_mem_nil⟩
  | j :: l1, l2, done, h => by
    obtain ⟨h1, h2, h3, h4, h5⟩ := orderOk_cons h
    obtain ⟨d', g1, g2, g3⟩ := orderOk_split h5
    have hb : ∀ a, (Nat.lor done (2 ^ j)).testBit a = true ↔ (done.testBit a = true ∨ a = j) := fun a => by
      rw [lor_bit, Nat.testBit_two_pow, Bool.or_eq_true, decide_eq_true_eq]
      exact or_congr Iff.rfl eq_comm
    refine ⟨d', g1, fun a => by rw [g2, hb, List.mem_cons, or_assoc], fun p hp a ha => ?_⟩
    rcases List.mem_cons.1 hp with e | e
    · rw [e] at ha; exact .inl (h3 a ha)
    · rcases g3 p e a ha with q | q
      · rcases (hb a).1 q with q | q
        · exact .inl q
        · exact .inr (by rw [q]; exact List.mem_cons_self)
      · exact .inr (List.mem_cons_of_mem _ q)

section
variable {P : Program} {B : Base} {R : Bij} {d : Nat} {sus : Bool} {all : Array Oper} {todo dn : List Nat} {t : T AV} {h : AHeap} {a : Array Value} {s : List Nat}

/-- What the order says where the evaluator stands. -/
theorem Drw.facts (k : Drw P B R d sus all todo dn t h a s) :
    (∀ p ∈ dn, ∀ x, ((planOf P all.toList).anc.getD p 0).testBit x = true → x ∈ dn) ∧
    (∀ i, i < all.size → i ∈ dn ∨ i ∈ todo) ∧ (∀ i ∈ dn, i < all.size) ∧ (∀ i ∈ todo, i < all.size) ∧ (dn.reverse ++ todo).Nodup ∧
    ∃ done, orderOk all.toList (planOf P all.toList).anc (planOf P all.toList).em todo done = true ∧ ∀ x, done.testBit x = true ↔ x ∈ dn := by
  have ho := k.plan.ord
  rw [← k.split] at ho
  obtain ⟨a1, a2, a3⟩ := orderOk_all ho
  obtain ⟨d', g1, g2, g3⟩ := orderOk_split ho
  refine ⟨fun p hp x hx => ?_, fun i hi => ?_, fun i hi => ?_, fun i hi => ?_, a3, d', g1, fun x => ?_⟩
  · rcases g3 p (by simpa using hp) x hx with q | q
    · simp at q
    · simpa using q
  · rcases a1 i (by simpa using hi) with q | q
    · simp at q
    · simpa using q
  · have := (a2 i (by simp [hi])).1; simpa using this
  · have := (a2 i (by simp [hi])).1; simpa using this
  · rw [g2]; simp

/-- A slot that an operation reads. -/
theorem ev_set {t : T AV} {u : Nat} {v : Option AV} {x : Operand} (hx : x ≠ .tmp u) : ev (t.set v u) x = ev t x := by
  cases x with
  | tmp i => show (t.set v u).get i = t.get i; exact T.get_set_other _ _ (fun e => hx (by rw [e]))
  | const c => rfl
  | global g => rfl
  | func f => rfl

theorem mentions_operand {ops : List Oper} {o : Oper} {u : Nat} (hx : Operand.tmp u ∈ o.op.operands) : (mentions ops o).contains u = true := by
  rw [List.contains_iff_mem]
  unfold mentions
  refine List.mem_append_left _ (List.mem_filterMap.2 ⟨.tmp u, by simpa using hx, rfl⟩)

theorem mentions_guard {ops : List Oper} {o q : Oper} {g u : Nat} {b : Bool} (hg : o.guard = some (g, b)) (hq : ops[g]? = some q) (hu : q.dst = some u) : (mentions ops o).contains u = true := by
  rw [List.contains_iff_mem]
  unfold mentions
  refine List.mem_append_right _ ?_
  rw [hg]
  simp [hq, hu]

/-- An operation whose slots another one does not write. -/
theorem opA_set {o : Oper} {u : Nat} {v : Option AV} (ops : List Oper) (hm : (mentions ops o).contains u = false) (h : AHeap) : opA P (ev (t.set v u)) h o.op = opA P (ev t) h o.op :=
  opA_local fun x hx => ev_set fun e => by rw [e] at hx; rw [mentions_operand hx] at hm; cases hm

theorem wantedA_set {ops : List Oper} {o : Oper} {u : Nat} {v : Option AV} (hm : (mentions ops o).contains u = false) : wantedA ops (t.set v u) o.guard = wantedA ops t o.guard := by
  cases hg : o.guard with
  | none => rfl
  | some gb =>
    obtain ⟨g, b⟩ := gb
    simp only [wantedA]
    cases hq : ops[g]? with
    | none => rfl
    | some q =>
      cases hu : q.dst with
      | none => simp only [dstOf, hu, slotOf]
      | some u' =>
        simp only [dstOf, hu, slotOf]
        rw [T.get_set_other]
        intro e
        have := mentions_guard hg hq hu
        rw [e, hm] at this; cases this

theorem FloatAt.set {o : Oper} {u : Nat} {v : Option AV} {vf : Nat → AV} {ob : AObj} (ops : List Oper) (hm : (mentions ops o).contains u = false) (k : FloatAt P (ev t) o.op vf ob) : FloatAt P (ev (t.set v u)) o.op vf ob :=
  k.congr fun x hx => ev_set fun e => by rw [e] at hx; rw [mentions_operand hx] at hm; cases hm

/-- Whose slots an operation that comes now does not write: of what is pending. -/
theorem Drw.apart (k : Drw P B R d sus all todo dn t h a s) {i p u : Nat} {o q : Oper} (hi : all[i]? = some o) (hu : o.dst = some u) (hin : i ∉ dn) (hp : p ∈ dn) (hq : all[p]? = some q)
    (hpe : (planOf P all.toList).em.testBit p = false) (hanc : (planOf P all.toList).em.testBit i = true → ((planOf P all.toList).anc.getD i 0).testBit p = false) :
    (mentions all.toList q).contains u = false ∧ q.dst ≠ some u := by
  obtain ⟨f1, f2, f3, f4, f5, _⟩ := k.facts
  have hne : i ≠ p := fun e => hin (by rw [e]; exact hp)
  have hpi : ((planOf P all.toList).anc.getD p 0).testBit i = false := by
    cases hb : ((planOf P all.toList).anc.getD p 0).testBit i with
    | false => rfl
    | true => exact absurd (f1 p hp i hb) hin
  have h1 := k.plan.slots i o p q hi hq
  have h2 := k.plan.slots p q i o hq hi
  have hqe : isEff P q = false := by rw [← k.plan.em p q hq]; exact hpe
  have hbe : Nat.beq i p = false := by
    cases hb : Nat.beq i p with
    | false => rfl
    | true => exact absurd (Nat.eq_of_beq_eq_true hb) hne
  have hbe' : Nat.beq p i = false := by
    cases hb : Nat.beq p i with
    | false => rfl
    | true => exact absurd (Nat.eq_of_beq_eq_true hb).symm hne
  have hdst : q.dst ≠ some u := by
    intro e
    simp only [slotsOk, e, hbe', hqe, Bool.false_eq_true, if_false, hu, beq_self_eq_true, Bool.not_true, Bool.false_and] at h2
  refine ⟨?_, hdst⟩
  cases hm : (mentions all.toList q).contains u with
  | false => rfl
  | true =>
    simp only [slotsOk, hu, hbe, Bool.false_eq_true, if_false, hm, Bool.true_or, if_true, hpi, Bool.false_or] at h1
    split at h1
    · rename_i he
      rw [hanc (by rw [k.plan.em i o hi]; exact he)] at h1; cases h1
    · simp at h1

theorem sameO_some {u v : Option AV} (e : sameO u v = true) : ∃ x, u = some x ∧ v = some x := by
  unfold sameO at e
  split at e
  · cases e
  · split at e
    · cases e
    · rename_i x _ y
      exact ⟨x, rfl, by rw [sameAV_eq _ _ _ e]⟩

theorem readA_some {ρ : Operand → Option AV} {o : Op} {v : AV} (hr : isRead P o = true) (e : readA P ρ h o = some v) : opA P ρ h o = some (.val v h) := by
  unfold readA at e
  split at e
  · rename_i w' h' ho
    cases e
    obtain ⟨v', e1⟩ := opA_read hr ho
    rw [ho, e1]
    cases e1; rfl
  · cases e

theorem recheck_get {l : List Oper} {anc : Nat} : ∀ {dn : List Nat}, recheck P l anc t h dn = true → ∀ p ∈ dn, recheckO P l anc t h p l[p]? = true
  | [], _, p, hp => absurd hp List.not_mem_nil
  | q :: r, e, p, hp => by
    simp only [recheck, Bool.and_eq_true] at e
    rcases List.mem_cons.1 hp with rfl | hp
    · exact e.1
    · exact recheck_get e.2 p hp

noncomputable def setD (t : T AV) (u : Option Nat) (v : AV) : T AV := match u with
  | none => t
  | some u => t.set (some v) u

/-- What is pending, where an operation has come to its value and the heap is looked at anew. -/
theorem Pend.again {p : Nat} {o : Oper} {u : Option Nat} {v : AV} {t' : T AV} {h' : AHeap} (k : Pend P B d true all t h p o) (ht : t' = setD t u v)
    (hm : ∀ x, u = some x → (mentions all.toList o).contains x = false ∧ o.dst ≠ some x)
    (hr : isRead P o.op = true → isPure o.op = false → isFloat o.op = false → recheck1 P all.toList t' h' o = true) : Pend P B d false all t' h' p o := by
  have hop : ∀ h, opA P (ev t') h o.op = opA P (ev t) h o.op := fun h => by
    subst ht
    cases u with
    | none => rfl
    | some u => exact opA_set all.toList (hm u rfl).1 h
  have hw : wantedA all.toList t' o.guard = wantedA all.toList t o.guard := by
    subst ht
    cases u with
    | none => rfl
    | some u => exact wantedA_set (hm u rfl).1
  have hd : ∀ x, o.dst = some x → t'.get x = t.get x := fun x hx => by
    subst ht
    cases u with
    | none => rfl
    | some u => exact T.get_set_other _ _ fun e => (hm u rfl).2 (by rw [hx, e])
  have hfl : ∀ {vf ob}, FloatAt P (ev t) o.op vf ob → FloatAt P (ev t') o.op vf ob := fun k => by
    subst ht
    cases u with
    | none => exact k
    | some u => exact k.set all.toList (hm u rfl).1
  obtain ⟨wt, k1, k2, k3⟩ := k
  refine ⟨wt, by rw [hw]; exact k1, fun hf x hx => by rw [hd x hx]; exact k2 hf x hx, fun ht' => ?_⟩
  rcases k3 ht' with ⟨f1, vf, ob, id, f2, f3, f4, f5⟩ | ⟨f1, f2, v', f3, f4⟩ | ⟨f1, f2, f3, _⟩
  · exact .inl ⟨f1, vf, ob, id, hfl f2, f3, f4, fun x hx => by rw [hd x hx]; exact f5 x hx⟩
  · exact .inr (.inl ⟨f1, f2, v', fun h => by rw [hop]; exact f3 h, fun x hx => by rw [hd x hx]; exact f4 x hx⟩)
  · refine .inr (.inr ⟨f1, f2, f3, .inr ?_⟩)
    have hrr := hr f3 f2 f1
    unfold recheck1 at hrr
    rw [hw, k1] at hrr
    subst ht'
    simp only [] at hrr
    cases hdst : o.dst with
    | none =>
      rw [hdst] at hrr
      simp only [] at hrr
      obtain ⟨v', hv'⟩ := Option.isSome_iff_exists.1 hrr
      exact ⟨v', readA_some f3 hv', fun x hx => by cases hx⟩
    | some dd =>
      rw [hdst] at hrr
      simp only [] at hrr
      obtain ⟨v', g1, g2⟩ := sameO_some hrr
      exact ⟨v', readA_some f3 g1, fun x hx => by cases hx; exact g2⟩

end

end Go.Proofs.Ytcdpmiebmhjmpaa.Ev
