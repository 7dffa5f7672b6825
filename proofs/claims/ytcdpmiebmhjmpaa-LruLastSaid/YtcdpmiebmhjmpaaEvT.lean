/- Regions whose order is drawn: what a plan says; every order that may be drawn keeps to the edges. -/
import Derived.Test.YtcdpmiebmhjmpaaEvB
import Derived.Test.YtcdpmiebmhjmpaaEvS
import Derived.Orders
namespace Go.Proofs.Ytcdpmiebmhjmpaa.Ev
open Go

theorem allIdx_get {α : Type} {f : Nat → α → Bool} : ∀ {l : List α} {i : Nat}, allIdx f l i = true → ∀ k a, l[k]? = some a → f (i + k) a = true
  | [], _, _, k, a, e => by simp at e
  | x :: r, i, h, k, a, e => by
    simp only [allIdx, Bool.and_eq_true] at h
    cases k with
    | zero => simp at e; subst e; exact h.1
    | succ k =>
      have := allIdx_get h.2 k a (by simpa using e)
      rw [show i + (k + 1) = i + 1 + k by omega]; exact this

theorem subMask_bit {a b : Nat} (h : subMask a b = true) {i : Nat} (hi : a.testBit i = true) : b.testBit i = true := by
  unfold subMask at h
  have e := Nat.eq_of_beq_eq_true h
  have : (a &&& b).testBit i = true := by
    show (Nat.land a b).testBit i = true
    rw [e]; exact hi
  rw [Nat.testBit_and, hi] at this
  simpa using this

theorem subMask_not {a b : Nat} (h : subMask a b = false) : ∃ i, a.testBit i = true ∧ b.testBit i = false := by
  apply Classical.byContradiction
  intro hn
  have : a &&& b = a := by
    apply Nat.eq_of_testBit_eq
    intro i
    rw [Nat.testBit_and]
    cases ha : a.testBit i with
    | false => rfl
    | true =>
      cases hb : b.testBit i with
      | true => rfl
      | false => exact absurd ⟨i, ha, hb⟩ hn
  unfold subMask at h
  have h2 : Nat.land a b = a := this
  rw [h2, Nat.beq_refl] at h
  cases h

theorem land_bit (a b i : Nat) : (Nat.land a b).testBit i = (a.testBit i && b.testBit i) := Nat.testBit_and a b i
theorem lor_bit (a b i : Nat) : (Nat.lor a b).testBit i = (a.testBit i || b.testBit i) := Nat.testBit_or a b i

theorem ancFold_bit (anc : List Nat) (i : Nat) : ∀ (l : List Edge) (s : Nat),
    (l.foldl (fun s e => if Region.binds .any e then Nat.lor s (Nat.lor (2 ^ e.on) (anc.getD e.on 0)) else s) s).testBit i = true ↔
      s.testBit i = true ∨ ∃ e ∈ l, Region.binds .any e = true ∧ (i = e.on ∨ (anc.getD e.on 0).testBit i = true)
  | [], s => by simp
  | x :: r, s => by
    rw [List.foldl_cons, ancFold_bit anc i r]
    by_cases hb : Region.binds .any x = true
    · simp only [hb, if_true, lor_bit, Bool.or_eq_true, Nat.testBit_two_pow, decide_eq_true_eq, List.mem_cons, exists_eq_or_imp, true_and]
      constructor
      · rintro ((h | h | h) | h)
        · exact .inl h
        · exact .inr (.inl (.inl h.symm))
        · exact .inr (.inl (.inr h))
        · exact .inr (.inr h)
      · rintro (h | (h | h) | h)
        · exact .inl (.inl h)
        · exact .inl (.inr (.inl h.symm))
        · exact .inl (.inr (.inr h))
        · exact .inr h
    · simp only [hb, Bool.false_eq_true, if_false, List.mem_cons, exists_eq_or_imp, false_and, false_or]

theorem ancOf_bit {anc : List Nat} {o : Oper} {i : Nat} : (ancOf anc o).testBit i = true ↔ ∃ e ∈ o.after, Region.binds .any e = true ∧ (i = e.on ∨ (anc.getD e.on 0).testBit i = true) := by
  unfold ancOf
  rw [ancFold_bit]
  simp

/-- What a plan says. -/
structure PlanIs (P : Program) (all : Array Oper) (pl : Plan) : Prop where
  len : pl.ord.length = all.size
  anc : ∀ j o, all[j]? = some o → pl.anc.getD j 0 = ancOf pl.anc o
  em : ∀ j o, all[j]? = some o → pl.em.testBit j = isEff P o
  ord : orderOk all.toList pl.anc pl.em pl.ord 0 = true
  guards : ∀ j o g w, all[j]? = some o → o.guard = some (g, w) → (pl.anc.getD j 0).testBit g = true
  slots : ∀ i o j q, all[i]? = some o → all[j]? = some q → slotsOk P all.toList pl.anc i o j q = true

theorem planOk_is {P : Program} {all : Array Oper} {pl : Plan} (h : planOk P all.toList pl = true) : PlanIs P all pl := by
  unfold planOk at h
  simp only [Bool.and_eq_true] at h
  obtain ⟨⟨⟨⟨⟨h1, h2⟩, h3⟩, h4⟩, h5⟩, h6⟩ := h
  have toL : ∀ {j : Nat} {o : Oper}, all[j]? = some o → all.toList[j]? = some o := fun e => by simpa using e
  refine ⟨by have := Nat.eq_of_beq_eq_true h1; simpa using this, fun j o e => ?_, fun j o e => ?_, h4, fun j o g w e eg => ?_, fun i o j q ei ej => ?_⟩
  · have := allIdx_get h2 j o (toL e)
    rw [Nat.zero_add] at this
    exact Nat.eq_of_beq_eq_true this
  · have := allIdx_get h3 j o (toL e)
    rw [Nat.zero_add] at this
    simpa using this
  · have := allIdx_get h5 j o (toL e)
    rw [Nat.zero_add] at this
    simpa [eg] using this
  · have := allIdx_get h6 i o (toL ei)
    have := allIdx_get this j q (toL ej)
    simpa using this

/-- Listed by the edges. -/
def Topo (anc : List Nat) : List Nat → Prop
  | [] => True
  | i :: s => (∀ a ∈ i :: s, (anc.getD i 0).testBit a = false) ∧ i ∉ s ∧ Topo anc s

/-- The order of a plan: what orderOk says of where it stands. -/
theorem orderOk_cons {ops : List Oper} {anc : List Nat} {em j done : Nat} {r : List Nat} (h : orderOk ops anc em (j :: r) done = true) :
    j < ops.length ∧ done.testBit j = false ∧ (∀ a, (anc.getD j 0).testBit a = true → done.testBit a = true) ∧
    (em.testBit j = true → (∀ a, em.testBit a = true → done.testBit a = true → (anc.getD j 0).testBit a = true) ∧
      (∀ p, p < ops.length → em.testBit p = false → done.testBit p = false → (anc.getD p 0).testBit j = false → ∃ q, (anc.getD p 0).testBit q = true ∧ em.testBit q = true ∧ done.testBit q = false)) ∧
    orderOk ops anc em r (Nat.lor done (2 ^ j)) = true := by
  simp only [orderOk, Bool.and_eq_true, Bool.not_eq_true'] at h
  obtain ⟨⟨⟨⟨h1, h2⟩, h3⟩, h4⟩, h5⟩ := h
  refine ⟨by simpa [Nat.blt_eq] using h1, h2, fun a ha => subMask_bit h3 ha, fun he => ?_, h5⟩
  rw [if_pos he, Bool.and_eq_true] at h4
  refine ⟨fun a ha hd => subMask_bit h4.1 (by rw [land_bit, ha, hd]; rfl), fun p hp hpe hpd hpj => ?_⟩
  have := allIdx_get h4.2 p ops[p] (List.getElem?_eq_getElem hp)
  rw [Nat.zero_add] at this
  unfold behind at this
  rw [hpe, hpd, hpj] at this
  simp only [Bool.false_or, Bool.not_eq_true'] at this
  obtain ⟨q, q1, q2⟩ := subMask_not this
  rw [land_bit, Bool.and_eq_true] at q1
  exact ⟨q, q1.1, q1.2, q2⟩

/-- The order of a plan lists all, each once. -/
theorem orderOk_all {ops : List Oper} {anc : List Nat} {em : Nat} : ∀ {l : List Nat} {done : Nat}, orderOk ops anc em l done = true →
    (∀ i, i < ops.length → done.testBit i = true ∨ i ∈ l) ∧ (∀ i ∈ l, i < ops.length ∧ done.testBit i = false) ∧ l.Nodup
  | [], done, h => by
    simp only [orderOk] at h
    have := Nat.eq_of_beq_eq_true h
    refine ⟨fun i hi => .inl ?_, fun i hi => absurd hi List.not_mem_nil, List.nodup_nil⟩
    have e : done = 2 ^ ops.length - 1 := this
    rw [e, Nat.testBit_two_pow_sub_one]
    exact decide_eq_true hi
  | j :: r, done, h => by
    obtain ⟨h1, h2, h3, h4, h5⟩ := orderOk_cons h
    obtain ⟨g1, g2, g3⟩ := orderOk_all h5
    refine ⟨fun i hi => ?_, fun i hi => ?_, ?_⟩
    · rcases g1 i hi with e | e
      · rw [lor_bit, Nat.testBit_two_pow, Bool.or_eq_true, decide_eq_true_eq] at e
        rcases e with e | e
        · exact .inl e
        · exact .inr (by rw [e]; exact List.mem_cons_self)
      · exact .inr (List.mem_cons_of_mem _ e)
    · rcases List.mem_cons.1 hi with e | e
      · rw [e]; exact ⟨h1, h2⟩
      · have := g2 i e
        rw [lor_bit, Bool.or_eq_false_iff] at this
        exact ⟨this.1, this.2.1⟩
    · refine List.nodup_cons.2 ⟨fun e => ?_, g3⟩
      have := (g2 j e).2
      rw [lor_bit, Nat.testBit_two_pow] at this
      simp at this

/-- The first that is not listed may come. -/
theorem orderOk_first {ops : List Oper} {anc : List Nat} {em : Nat} {L : Nat → Prop} : ∀ {l : List Nat} {done : Nat}, orderOk ops anc em l done = true → (∀ a, done.testBit a = true → L a) → (∃ j ∈ l, ¬ L j) →
    ∃ j ∈ l, ¬ L j ∧ ∀ a, (anc.getD j 0).testBit a = true → L a
  | [], _, _, _, ⟨j, hj, _⟩ => absurd hj List.not_mem_nil
  | j :: r, done, h, hd, ⟨i, hi, hni⟩ => by
    obtain ⟨h1, h2, h3, h4, h5⟩ := orderOk_cons h
    by_cases hj : L j
    · have hi' : i ∈ r := by
        rcases List.mem_cons.1 hi with e | e
        · rw [e] at hni; exact absurd hj hni
        · exact e
      obtain ⟨q, q1, q2, q3⟩ := orderOk_first h5 (fun a ha => by
        rw [lor_bit, Nat.testBit_two_pow, Bool.or_eq_true, decide_eq_true_eq] at ha
        rcases ha with e | e
        · exact hd a e
        · rw [← e]; exact hj) ⟨i, hi', hni⟩
      exact ⟨q, List.mem_cons_of_mem _ q1, q2, q3⟩
    · exact ⟨j, List.mem_cons_self, hj, fun a ha => hd a (h3 a ha)⟩

theorem filter_le {p q : Nat → Bool} (h : ∀ j, q j = true → p j = true) : ∀ l : List Nat, (l.filter q).length ≤ (l.filter p).length
  | [] => Nat.le_refl _
  | x :: r => by
    have := filter_le h r
    rw [List.filter_cons, List.filter_cons]
    by_cases hq : q x = true
    · rw [if_pos hq, if_pos (h x hq)]; simpa using this
    · rw [if_neg hq]
      split
      · rw [List.length_cons]; omega
      · exact this

theorem filter_lt {p q : Nat → Bool} (h : ∀ j, q j = true → p j = true) {i : Nat} (hp : p i = true) (hq : q i = false) : ∀ l : List Nat, i ∈ l → (l.filter q).length < (l.filter p).length
  | [], hi => absurd hi List.not_mem_nil
  | x :: r, hi => by
    have hle := filter_le h r
    rw [List.filter_cons, List.filter_cons]
    by_cases hx : x = i
    · subst hx
      rw [if_pos hp, if_neg (by rw [hq]; exact Bool.false_ne_true), List.length_cons]; omega
    · have := filter_lt h hp hq r (by
        rcases List.mem_cons.1 hi with e | e
        · exact absurd e.symm hx
        · exact e)
      by_cases hqx : q x = true
      · rw [if_pos hqx, if_pos (h x hqx)]; simpa using this
      · rw [if_neg hqx]
        split
        · rw [List.length_cons]; omega
        · exact this

/-- Whatever is drawn keeps to the edges, and lists all. -/
theorem linearise_go_topo {P : Program} {all : Array Oper} {pl : Plan} (pi : PlanIs P all pl) : ∀ (fuel t : Nat) (listed : Array Bool), listed.size = all.size → (∀ i, listed[i]? = some true → ∀ a, (pl.anc.getD i 0).testBit a = true → listed[a]? = some true) →
    ((List.range all.size).filter fun i => listed[i]? == some false).length ≤ fuel →
    Topo pl.anc (Region.linearise.go .any all fuel t listed []) ∧ ∀ i, i ∈ Region.linearise.go .any all fuel t listed [] ↔ listed[i]? = some false := by
  intro fuel
  induction fuel with
  | zero =>
    intro t listed hs hcl hf
    refine ⟨trivial, fun i => ⟨fun hi => absurd hi List.not_mem_nil, fun hi => ?_⟩⟩
    have : i ∈ (List.range all.size).filter fun i => listed[i]? == some false := List.mem_filter.2 ⟨List.mem_range.2 (by rw [← hs]; exact (Array.getElem?_eq_some_iff.1 hi).1), by simp [hi]⟩
    rw [List.length_eq_zero_iff.1 (Nat.le_zero.1 hf)] at this
    exact absurd this List.not_mem_nil
  | succ fuel ih =>
    intro t listed hs hcl hf
    have hready : ∀ i, i ∈ ((List.range all.size).filter fun i => !listed.getD i true && ((all[i]?).map (·.after.all fun e => !Region.binds .any e || listed.getD e.on false)).getD false) ↔
        (listed[i]? = some false ∧ ∀ a, (pl.anc.getD i 0).testBit a = true → listed[a]? = some true) := by
      intro i
      rw [List.mem_filter, List.mem_range]
      constructor
      · rintro ⟨h1, h2⟩
        rw [Bool.and_eq_true] at h2
        obtain ⟨h2, h3⟩ := h2
        have hlt : i < listed.size := by omega
        have hl : listed[i]? = some false := by
          rw [Array.getElem?_eq_getElem hlt]
          simpa [Array.getD, hlt] using h2
        refine ⟨hl, fun a ha => ?_⟩
        obtain ⟨o, ho⟩ : ∃ o, all[i]? = some o := ⟨_, Array.getElem?_eq_getElem h1⟩
        rw [ho] at h3
        simp only [Option.map_some, Option.getD_some, Array.all_eq_true'] at h3
        rw [pi.anc i o ho, ancOf_bit] at ha
        obtain ⟨e, he, hb, hor⟩ := ha
        have := h3 e he
        rw [hb] at this
        simp only [Bool.not_true, Bool.false_or] at this
        have hon : listed[e.on]? = some true := by
          unfold Array.getD at this
          split at this
          · rename_i hlt
            rw [Array.getElem?_eq_getElem hlt, ← this]; rfl
          · cases this
        rcases hor with rfl | h
        · exact hon
        · exact hcl _ hon a h
      · rintro ⟨h1, h2⟩
        have hlt : i < listed.size := (Array.getElem?_eq_some_iff.1 h1).1
        refine ⟨by omega, ?_⟩
        rw [Bool.and_eq_true]
        obtain ⟨o, ho⟩ : ∃ o, all[i]? = some o := ⟨_, Array.getElem?_eq_getElem (by omega)⟩
        refine ⟨by rw [Array.getElem?_eq_getElem hlt] at h1; simp only [Option.some.injEq] at h1; simp [Array.getD, hlt, h1], ?_⟩
        rw [ho]
        simp only [Option.map_some, Option.getD_some, Array.all_eq_true']
        intro e he
        cases hb : Region.binds .any e with
        | false => rfl
        | true =>
          have := h2 e.on (by rw [pi.anc i o ho, ancOf_bit]; exact ⟨e, he, hb, .inl rfl⟩)
          have hlt' := (Array.getElem?_eq_some_iff.1 this).1
          rw [Array.getElem?_eq_getElem hlt'] at this
          simp only [Option.some.injEq] at this
          simp [Array.getD, hlt', this]
    simp only [Region.linearise.go]
    generalize hrs : ((List.range all.size).filter fun i => !listed.getD i true && ((all[i]?).map (·.after.all fun e => !Region.binds .any e || listed.getD e.on false)).getD false) = rs at hready ⊢
    split
    · rename_i i hi
      have him : i ∈ rs := List.mem_of_getElem? hi
      obtain ⟨h1, h2⟩ := (hready i).1 him
      have hlt : i < listed.size := (Array.getElem?_eq_some_iff.1 h1).1
      have hget : ∀ j, (listed.setIfInBounds i true)[j]? = if j = i then some true else listed[j]? := by
        intro j
        rw [Array.getElem?_setIfInBounds]
        by_cases hj : i = j
        · subst hj; simp [hlt]
        · rw [if_neg hj, if_neg (fun e => hj e.symm)]
      have hcl' : ∀ k, (listed.setIfInBounds i true)[k]? = some true → ∀ a, (pl.anc.getD k 0).testBit a = true → (listed.setIfInBounds i true)[a]? = some true := by
        intro k hk a ha
        rw [hget] at hk ⊢
        by_cases hai : a = i
        · rw [if_pos hai]
        · rw [if_neg hai]
          by_cases hki : k = i
          · subst hki; exact h2 a ha
          · rw [if_neg hki] at hk; exact hcl k hk a ha
      have hlen : ((List.range all.size).filter fun j => (listed.setIfInBounds i true)[j]? == some false).length ≤ fuel := by
        refine Nat.le_of_lt_succ (Nat.lt_of_lt_of_le (filter_lt (p := fun j => listed[j]? == some false) (i := i) (fun j hj => ?_) (by simp [h1]) ?_ _ (List.mem_range.2 (by omega))) hf)
        · rw [hget] at hj
          split at hj
          · simp at hj
          · exact hj
        · simp [hget]
      obtain ⟨g1, g2⟩ := ih (t / rs.length) (listed.setIfInBounds i true) (by simpa using hs) hcl' hlen
      rw [linearise_go_acc, List.reverse_singleton, List.singleton_append]
      refine ⟨⟨fun a ha => ?_, fun hmem => ?_, g1⟩, fun j => ?_⟩
      · cases hb : (pl.anc.getD i 0).testBit a with
        | false => rfl
        | true =>
          have hla := h2 a hb
          rcases List.mem_cons.1 ha with e | e
          · rw [e, h1] at hla; cases hla
          · have := (g2 a).1 e
            rw [hget] at this
            split at this
            · cases this
            · rw [hla] at this; cases this
      · have := (g2 i).1 hmem
        rw [hget, if_pos rfl] at this; cases this
      · rw [List.mem_cons, g2, hget]
        by_cases hj : j = i
        · subst hj; simp [h1]
        · simp [hj]
    · rename_i hnone
      have hempty : rs = [] := by
        cases rs with
        | nil => rfl
        | cons x r =>
          have : t % (x :: r).length < (x :: r).length := Nat.mod_lt _ (by simp)
          rw [List.getElem?_eq_getElem this] at hnone; cases hnone
      refine ⟨trivial, fun i => ⟨fun hi => absurd hi List.not_mem_nil, fun hi => ?_⟩⟩
      exfalso
      have hlt : i < all.size := by rw [← hs]; exact (Array.getElem?_eq_some_iff.1 hi).1
      obtain ⟨a1, a2, a3⟩ := orderOk_all pi.ord
      have him : i ∈ pl.ord := by
        rcases a1 i (by simpa using hlt) with e | e
        · simp at e
        · exact e
      obtain ⟨j, j1, j2, j3⟩ := orderOk_first (L := fun a => listed[a]? = some true) pi.ord (fun a ha => by simp at ha) ⟨i, him, by simp [hi]⟩
      have hj : j < listed.size := by rw [hs]; have := (a2 j j1).1; simpa using this
      have : j ∈ rs := (hready j).2 ⟨by
        rw [Array.getElem?_eq_getElem hj] at j2 ⊢
        cases hb : listed[j] with
        | false => rfl
        | true => rw [hb] at j2; exact absurd rfl j2, j3⟩
      rw [hempty] at this
      exact absurd this List.not_mem_nil

theorem linearise_topo {P : Program} {all : Array Oper} {pl : Plan} (pi : PlanIs P all pl) (t : Nat) : Topo pl.anc (Region.linearise .any all t) ∧ ∀ i, i ∈ Region.linearise .any all t ↔ i < all.size := by
  obtain ⟨g1, g2⟩ := linearise_go_topo pi all.size t (Array.replicate all.size false) (by simp) (fun i hi => by
    rw [Array.getElem?_replicate] at hi; split at hi <;> simp at hi) (by
    refine Nat.le_trans (List.length_filter_le _ _) (by simp))
  refine ⟨g1, fun i => ?_⟩
  show i ∈ Region.linearise.go .any all all.size t (Array.replicate all.size false) [] ↔ _
  rw [g2, Array.getElem?_replicate]
  split <;> simp [*]

end Go.Proofs.Ytcdpmiebmhjmpaa.Ev
