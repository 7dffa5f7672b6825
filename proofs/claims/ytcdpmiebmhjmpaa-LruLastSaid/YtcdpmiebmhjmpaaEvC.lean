/- What the evaluator's names stand for: relations between its values, heaps and the model's. -/
import Derived.Test.YtcdpmiebmhjmpaaEvB
import Derived.Laws.Sem
namespace Go.Proofs.Ytcdpmiebmhjmpaa.Ev
open Go

/-! ## Maps by numbers -/

theorem T.get_leaf {α : Type} (n : Nat) : (T.leaf : T α).get n = none := rfl

theorem T.get_node {α : Type} (l : T α) (v : Option α) (r : T α) (n : Nat) :
    (T.node l v r).get n = if n = 0 then v else if n % 2 = 1 then l.get (n / 2) else r.get (n / 2 - 1) := by
  show (bif Nat.beq n 0 then v else bif Nat.beq (Nat.mod n 2) 1 then l.get (Nat.div n 2) else r.get (Nat.sub (Nat.div n 2) 1)) = _
  by_cases h0 : n = 0
  · subst h0; rfl
  · have e0 : Nat.beq n 0 = false := by cases n <;> simp_all [Nat.beq]
    rw [e0, if_neg h0]
    by_cases h1 : n % 2 = 1
    · have e1 : Nat.beq (Nat.mod n 2) 1 = true := by rw [show Nat.mod n 2 = 1 from h1]; rfl
      rw [e1, if_pos h1]; rfl
    · have e1 : Nat.beq (Nat.mod n 2) 1 = false := by
        rw [show Nat.mod n 2 = 0 from by show n % 2 = 0; omega]; rfl
      rw [e1, if_neg h1]; rfl

theorem T.get_fn {α : Type} (f : Nat → Option α) (n : Nat) : (T.fn f).get n = f n := rfl

theorem T.get_one {α : Type} (x : Option α) : ∀ (f n m : Nat), n < f → (T.one x f n).get m = if m = n then x else none := by
  intro f
  induction f with
  | zero => intro n m h; omega
  | succ f ih =>
    intro n m h
    show T.get (bif Nat.beq n 0 then T.node .leaf x .leaf else bif Nat.beq (Nat.mod n 2) 1 then T.node (T.one x f (Nat.div n 2)) none .leaf else T.node .leaf none (T.one x f (Nat.sub (Nat.div n 2) 1))) m = _
    by_cases h0 : n = 0
    · subst h0
      show T.get (T.node .leaf x .leaf) m = _
      rw [T.get_node]
      by_cases hm : m = 0
      · simp [hm]
      · simp [hm, T.get_leaf]
    · have e0 : Nat.beq n 0 = false := by cases n <;> simp_all [Nat.beq]
      rw [e0]
      by_cases h1 : n % 2 = 1
      · have e1 : Nat.beq (Nat.mod n 2) 1 = true := by rw [show Nat.mod n 2 = 1 from h1]; rfl
        rw [e1]
        show T.get (T.node (T.one x f (n / 2)) none .leaf) m = _
        rw [T.get_node]
        by_cases hm : m = 0
        · rw [if_pos hm, if_neg (by omega)]
        · rw [if_neg hm]
          by_cases hm1 : m % 2 = 1
          · rw [if_pos hm1, ih _ _ (by omega)]
            by_cases e : m = n
            · rw [if_pos e, if_pos (by omega)]
            · rw [if_neg e, if_neg (by omega)]
          · rw [if_neg hm1, T.get_leaf, if_neg (by intro e; subst e; exact hm1 h1)]
      · have e1 : Nat.beq (Nat.mod n 2) 1 = false := by
          rw [show Nat.mod n 2 = 0 from by show n % 2 = 0; omega]; rfl
        rw [e1]
        show T.get (T.node .leaf none (T.one x f (n / 2 - 1))) m = _
        rw [T.get_node]
        by_cases hm : m = 0
        · rw [if_pos hm, if_neg (by omega)]
        · rw [if_neg hm]
          by_cases hm1 : m % 2 = 1
          · rw [if_pos hm1, T.get_leaf, if_neg (by intro e; subst e; exact h1 hm1)]
          · rw [if_neg hm1, ih _ _ (by omega)]
            by_cases e : m = n
            · rw [if_pos e, if_pos (by omega)]
            · rw [if_neg e, if_neg (by omega)]

theorem T.seq_eq {α β : Type} (t : T α) (f : T α → β) : t.seq f = f t := by cases t <;> rfl

theorem T.get_set {α : Type} (x : Option α) : ∀ (t : T α) (n m : Nat), (t.set x n).get m = if m = n then x else t.get m := by
  intro t
  induction t with
  | leaf =>
    intro n m
    show (T.one x (Nat.succ n) n).get m = _
    rw [T.get_one x _ _ _ (Nat.lt_succ_self n), T.get_leaf]
  | node l v r ihl ihr =>
    intro n m
    show T.get (bif Nat.beq n 0 then T.node l x r else bif Nat.beq (Nat.mod n 2) 1 then T.seq (l.set x (Nat.div n 2)) (fun l => T.node l v r) else T.seq (r.set x (Nat.sub (Nat.div n 2) 1)) (fun r => T.node l v r)) m = _
    rw [T.seq_eq, T.seq_eq]
    by_cases h0 : n = 0
    · subst h0
      show T.get (T.node l x r) m = _
      rw [T.get_node, T.get_node]
      by_cases hm : m = 0
      · simp [hm]
      · simp [hm]
    · have e0 : Nat.beq n 0 = false := by cases n <;> simp_all [Nat.beq]
      rw [e0]
      by_cases h1 : n % 2 = 1
      · have e1 : Nat.beq (Nat.mod n 2) 1 = true := by rw [show Nat.mod n 2 = 1 from h1]; rfl
        rw [e1]
        show T.get (T.node (l.set x (n / 2)) v r) m = _
        rw [T.get_node, T.get_node]
        by_cases hm : m = 0
        · rw [if_pos hm, if_neg (by omega), if_pos hm]
        · rw [if_neg hm, if_neg hm]
          by_cases hm1 : m % 2 = 1
          · rw [if_pos hm1, if_pos hm1, ihl]
            by_cases e : m = n
            · rw [if_pos e, if_pos (by omega)]
            · rw [if_neg e, if_neg (by omega)]
          · rw [if_neg hm1, if_neg hm1, if_neg (by intro e; subst e; exact hm1 h1)]
      · have e1 : Nat.beq (Nat.mod n 2) 1 = false := by
          rw [show Nat.mod n 2 = 0 from by show n % 2 = 0; omega]; rfl
        rw [e1]
        show T.get (T.node l v (r.set x (n / 2 - 1))) m = _
        rw [T.get_node, T.get_node]
        by_cases hm : m = 0
        · rw [if_pos hm, if_neg (by omega), if_pos hm]
        · rw [if_neg hm, if_neg hm]
          by_cases hm1 : m % 2 = 1
          · rw [if_pos hm1, if_pos hm1, if_neg (by intro e; subst e; exact h1 hm1)]
          · rw [if_neg hm1, if_neg hm1, ihr]
            by_cases e : m = n
            · rw [if_pos e, if_pos (by omega)]
            · rw [if_neg e, if_neg (by omega)]
  | fn f =>
    intro n m
    show (bif Nat.beq m n then x else f m) = _
    by_cases e : m = n
    · subst e; rw [Nat.beq_refl, if_pos rfl]; rfl
    · have : Nat.beq m n = false := by
        cases hb : Nat.beq m n with
        | false => rfl
        | true => exact absurd (Nat.eq_of_beq_eq_true hb) e
      rw [this, if_neg e]; rfl

theorem T.get_set_same {α : Type} (x : Option α) (t : T α) (n : Nat) : (t.set x n).get n = x := by rw [T.get_set, if_pos rfl]
theorem T.get_set_other {α : Type} (x : Option α) (t : T α) {n m : Nat} (h : m ≠ n) : (t.set x n).get m = t.get m := by rw [T.get_set, if_neg h]

theorem get_put (h : AHeap) (i j : Nat) (o : AObj) : (h.put i o).get j = if j = i then some o else h.get j := by
  cases h; exact T.get_set _ _ _ _
theorem next_put (h : AHeap) (i : Nat) (o : AObj) : (h.put i o).next = h.next := by cases h; rfl
theorem get_new (h : AHeap) (j : Nat) (o : AObj) : (h.new o).get j = if j = h.next then some o else h.get j := by
  cases h; exact T.get_set _ _ _ _
theorem glob_put (h : AHeap) (i : Nat) (o : AObj) : (h.put i o).glob = h.glob := by cases h; rfl
theorem glob_new (h : AHeap) (o : AObj) : (h.new o).glob = h.glob := by cases h; rfl
theorem next_new (h : AHeap) (o : AObj) : (h.new o).next = h.next + 1 := by cases h; rfl

/-! ## Values -/

/-- Where a version lies: a block; the first 'minus' places are not there; so many elements fit. -/
structure Loc where
  block : Nat
  minus : Nat
  kap : Nat

abbrev Bij := Nat → Nat → Option Loc

def Bij.le (R R' : Bij) : Prop := ∀ i r L, R i r = some L → R' i r = some L

theorem Bij.le_refl (R : Bij) : R.le R := fun _ _ _ h => h
theorem Bij.le_trans {R R' R'' : Bij} (h : R.le R') (h' : R'.le R'') : R.le R'' := fun i r L e => h' i r L (h i r L e)

mutual
def VRel (R : Bij) : AV → Value → Prop
  | .bool b, v => v = .bool b
  | .int k n, v => v = .int k n
  | .str s, v => v = .string ⟨s.toArray⟩
  | .nilp, v => v = .pointer none
  | .ptr i r o, v => ∃ L, R i r = some L ∧ L.minus ≤ o ∧ v = .pointer (some ⟨L.block, o - L.minus, none⟩)
  | .gp g o, v => v = .pointer (some ⟨g, o, none⟩)
  | .nils l c, v => v = .slice none l c
  | .slc i r o l c, v => ∃ L, R i r = some L ∧ L.minus ≤ o ∧ v = .slice (some ⟨L.block, o - L.minus, none⟩) l c
  | .slg i r o l st, v => ∃ L a, R i r = some L ∧ L.minus ≤ o ∧ st + l ≤ L.kap ∧ v = .slice (some a) l (L.kap - st) ∧ (st < L.kap → a = ⟨L.block, o - L.minus, none⟩)
  | .nilm, v => v = .map none
  | .mp i, v => ∃ L, R i 0 = some L ∧ v = .map (some L.block)
  | .nilf, v => v = .nilFunc
  | .fn f fs cs, v => (∀ l, f ≠ .yield l) ∧ ∃ a b : List Value, v = .func f a.toArray b.toArray ∧ VRels R fs a ∧ VRels R cs b
  | .yld i, v => ∃ L, R i 0 = some L ∧ v = .func (.yield L.block) #[] #[]
  | .nili, v => v = .nilIface
  | .ifc t x, v => ∃ y, v = .iface t y ∧ VRel R x y
  | .agg l, v => ∃ a : List Value, v = .agg a.toArray ∧ VRels R l a
  | .tup l, v => ∃ a : List Value, v = .tuple a.toArray ∧ VRels R l a
  | .sle, v => ∃ a, v = .slice (some a) 0 0
  | .unk, v => v.cells = #[v] ∧ v.oneCell' = true
def VRels (R : Bij) : List AV → List Value → Prop
  | [], l => l = []
  | x :: xs, l => ∃ y ys, l = y :: ys ∧ VRel R x y ∧ VRels R xs ys
end

mutual
theorem VRel.mono {R R' : Bij} (h : R.le R') : ∀ (x : AV) (v : Value), VRel R x v → VRel R' x v
  | .bool _, _, e => e
  | .int _ _, _, e => e
  | .str _, _, e => e
  | .nilp, _, e => e
  | .ptr _ _ _, _, e => let ⟨L, e1, e2⟩ := e; ⟨L, h _ _ _ e1, e2⟩
  | .gp _ _, _, e => e
  | .nils _ _, _, e => e
  | .slc _ _ _ _ _, _, e => let ⟨L, e1, e2⟩ := e; ⟨L, h _ _ _ e1, e2⟩
  | .slg _ _ _ _ _, _, e => let ⟨L, a, e1, e2⟩ := e; ⟨L, a, h _ _ _ e1, e2⟩
  | .nilm, _, e => e
  | .mp _, _, e => let ⟨L, e1, e2⟩ := e; ⟨L, h _ _ _ e1, e2⟩
  | .nilf, _, e => e
  | .fn _ _ _, _, e => let ⟨n, a, b, e1, e2, e3⟩ := e; ⟨n, a, b, e1, VRels.mono h _ _ e2, VRels.mono h _ _ e3⟩
  | .yld _, _, e => let ⟨L, e1, e2⟩ := e; ⟨L, h _ _ _ e1, e2⟩
  | .nili, _, e => e
  | .ifc _ _, _, e => let ⟨y, e1, e2⟩ := e; ⟨y, e1, VRel.mono h _ _ e2⟩
  | .agg _, _, e => let ⟨a, e1, e2⟩ := e; ⟨a, e1, VRels.mono h _ _ e2⟩
  | .tup _, _, e => let ⟨a, e1, e2⟩ := e; ⟨a, e1, VRels.mono h _ _ e2⟩
  | .sle, _, e => e
  | .unk, _, e => e
theorem VRels.mono {R R' : Bij} (h : R.le R') : ∀ (x : List AV) (v : List Value), VRels R x v → VRels R' x v
  | [], _, e => e
  | _ :: _, _, e => let ⟨y, ys, e1, e2, e3⟩ := e; ⟨y, ys, e1, VRel.mono h _ _ e2, VRels.mono h _ _ e3⟩
end

theorem VRels.cons {R : Bij} {x : AV} {xs : List AV} {y : Value} {ys : List Value} (h : VRel R x y) (hs : VRels R xs ys) : VRels R (x :: xs) (y :: ys) := ⟨y, ys, rfl, h, hs⟩
theorem VRels.nil {R : Bij} : VRels R [] [] := rfl

theorem VRels.length {R : Bij} : ∀ {xs : List AV} {ys : List Value}, VRels R xs ys → ys.length = xs.length
  | [], _, h => by cases h; rfl
  | _ :: _, _, h => by obtain ⟨y, ys, rfl, _, h⟩ := h; simp [VRels.length h]

theorem VRels.get {R : Bij} : ∀ {xs : List AV} {ys : List Value}, VRels R xs ys → ∀ (i : Nat) (x : AV), xs[i]? = some x → ∃ y, ys[i]? = some y ∧ VRel R x y
  | [], _, h, i, x, e => by simp at e
  | _ :: _, _, h, i, x, e => by
    obtain ⟨y, ys, rfl, h1, h2⟩ := h
    cases i with
    | zero => simp at e; subst e; exact ⟨y, by simp, h1⟩
    | succ i => simp at e; obtain ⟨z, hz, hr⟩ := VRels.get h2 i x e; exact ⟨z, by simpa using hz, hr⟩

theorem VRels.of_get {R : Bij} : ∀ {xs : List AV} {ys : List Value}, ys.length = xs.length → (∀ (i : Nat) (x : AV), xs[i]? = some x → ∃ y, ys[i]? = some y ∧ VRel R x y) → VRels R xs ys
  | [], ys, h, _ => by cases ys <;> simp_all [VRels]
  | x :: xs, ys, h, g => by
    cases ys with
    | nil => simp at h
    | cons y ys =>
      obtain ⟨z, hz, hr⟩ := g 0 x (by simp)
      simp at hz; subst hz
      refine ⟨y, ys, rfl, hr, VRels.of_get (by simpa using h) fun i x' e => ?_⟩
      obtain ⟨z, hz, hr⟩ := g (i + 1) x' (by simpa using e)
      exact ⟨z, by simpa using hz, hr⟩

theorem VRels.append {R : Bij} : ∀ {xs : List AV} {ys : List Value} {xs' : List AV} {ys' : List Value}, VRels R xs ys → VRels R xs' ys' → VRels R (xs ++ xs') (ys ++ ys')
  | [], _, _, _, h, h' => by cases h; exact h'
  | _ :: _, _, _, _, h, h' => by obtain ⟨y, ys, rfl, h1, h2⟩ := h; exact .cons h1 (VRels.append h2 h')

theorem VRels.take {R : Bij} {xs : List AV} {ys : List Value} (h : VRels R xs ys) (n : Nat) : VRels R (xs.take n) (ys.take n) := by
  refine .of_get (by simp [h.length]) fun i x e => ?_
  rw [List.getElem?_take] at e ⊢
  split at e
  · rename_i hi; rw [if_pos hi]; exact h.get i x e
  · cases e

theorem VRels.drop {R : Bij} {xs : List AV} {ys : List Value} (h : VRels R xs ys) (n : Nat) : VRels R (xs.drop n) (ys.drop n) := by
  refine .of_get (by simp [h.length]) fun i x e => ?_
  rw [List.getElem?_drop] at e ⊢
  exact h.get _ x e

theorem mapO_nil {α β : Type} (f : α → Option β) : mapO f [] = some [] := rfl

theorem mapG_acc {α β : Type} (f : α → Option β) : ∀ (l : List α) (acc : List β), mapG f l acc = (mapO f l).map fun r => acc.reverse ++ r
  | [], acc => by simp [mapG, mapO]
  | a :: l, acc => by
    unfold mapO
    simp only [mapG]
    cases f a with
    | none => rfl
    | some b =>
      simp only []
      rw [mapG_acc f l (b :: acc), mapG_acc f l [b]]
      cases mapO f l <;> simp

theorem mapO_cons {α β : Type} (f : α → Option β) (a : α) (l : List α) : mapO f (a :: l) = match f a with
    | none => none
    | some b => match mapO f l with
      | none => none
      | some bs => some (b :: bs) := by
  show mapG f (a :: l) [] = _
  simp only [mapG]
  cases f a with
  | none => rfl
  | some b =>
    simp only []
    rw [mapG_acc]
    cases mapO f l <;> simp

/-- A constant is what it is. -/
theorem mapO_some {α β : Type} {f : α → Option β} : ∀ {l : List α} {r : List β}, mapO f l = some r → r.length = l.length ∧ ∀ (i : Nat) (a : α), l[i]? = some a → ∃ b, r[i]? = some b ∧ f a = some b
  | [], r, h => by simp [mapO_nil] at h; subst h; simp
  | a :: l, r, h => by
    simp only [mapO_cons] at h
    cases ha : f a with
    | none => simp [ha] at h
    | some b =>
      rw [ha] at h
      cases hl : mapO f l with
      | none => simp [hl] at h
      | some bs =>
        rw [hl] at h
        simp at h; subst h
        obtain ⟨h1, h2⟩ := mapO_some hl
        refine ⟨by simp [h1], fun i x e => ?_⟩
        cases i with
        | zero => simp at e; subst e; exact ⟨b, by simp, ha⟩
        | succ i => simp at e; obtain ⟨c, hc, hf⟩ := h2 i x e; exact ⟨c, by simpa using hc, hf⟩

theorem VRels.of_mapO {R : Bij} {α : Type} {f : α → Option AV} {g : α → Value} {l : List α} {r : List AV} (h : mapO f l = some r)
    (hf : ∀ a x, f a = some x → VRel R x (g a)) : VRels R r (l.map g) := by
  obtain ⟨h1, h2⟩ := mapO_some h
  refine .of_get (by simp [h1]) fun i x e => ?_
  have hi : i < l.length := by
    rw [← h1]; rcases Nat.lt_or_ge i r.length with h | h
    · exact h
    · rw [List.getElem?_eq_none h] at e; cases e
  obtain ⟨b, hb, hfb⟩ := h2 i l[i] (List.getElem?_eq_getElem hi)
  rw [e] at hb; cases hb
  exact ⟨g l[i], by simp [List.getElem?_eq_getElem hi], hf _ _ hfb⟩

theorem absV_rel (R : Bij) : ∀ (n : Nat) (v : Value) (x : AV), absV n v = some x → VRel R x v
  | 0, _, _, h => by simp [absV] at h
  | n + 1, v, x, h => by
    have hl : ∀ (cs : Array Value) (l : List AV), mapO (absV n) cs.toList = some l → VRels R l cs.toList := by
      intro cs l e
      have := VRels.of_mapO (g := id) e (fun a x hx => absV_rel R n a x hx)
      simpa using this
    cases v with
    | bool b => simp [absV] at h; subst h; exact rfl
    | int k n => simp [absV] at h; subst h; exact rfl
    | float k n => simp [absV] at h
    | complex k a b => simp [absV] at h
    | string s => simp [absV] at h; subst h; exact rfl
    | pointer a => cases a <;> simp [absV] at h; subst h; exact rfl
    | slice a l c => cases a <;> simp [absV] at h; subst h; exact rfl
    | map r => cases r <;> simp [absV] at h; subst h; exact rfl
    | chan r => simp [absV] at h
    | func f fs cs =>
      simp only [absV] at h
      split at h
      · cases h
      · rename_i hf
        split at h
        · rename_i a b ha hb
          simp at h; subst h
          exact ⟨fun l e => hf l e, fs.toList, cs.toList, by simp, hl _ _ ha, hl _ _ hb⟩
        · cases h
    | nilFunc => simp [absV] at h; subst h; exact rfl
    | iface t v =>
      simp only [absV] at h
      cases hv : absV n v with
      | none => simp [hv] at h
      | some y => simp [hv] at h; subst h; exact ⟨v, rfl, absV_rel R n v y hv⟩
    | nilIface => simp [absV] at h; subst h; exact rfl
    | agg cs =>
      simp only [absV] at h
      cases hv : mapO (absV n) cs.toList with
      | none => simp [hv] at h
      | some y => simp [hv] at h; subst h; exact ⟨cs.toList, by simp, hl _ _ hv⟩
    | tuple cs =>
      simp only [absV] at h
      cases hv : mapO (absV n) cs.toList with
      | none => simp [hv] at h
      | some y => simp [hv] at h; subst h; exact ⟨cs.toList, by simp, hl _ _ hv⟩

theorem VRel.cells {R : Bij} {x : AV} {v : Value} (h : VRel R x v) : VRels R x.cells v.cells.toList := by
  cases x <;> simp only [AV.cells]
  case agg l => obtain ⟨a, rfl, h⟩ := h; simpa [Value.cells] using h
  all_goals
    have hv : v.cells = #[v] := by
      first
        | (cases v <;> first | rfl | (simp [VRel] at h; done))
        | exact h.1
    rw [hv]
    exact .cons h .nil

/-- A value that is one cell. -/
theorem VRel.one {R : Bij} {x : AV} {v : Value} (h : VRel R x v) (ho : x.one = true) : v.oneCell' = true := by
  cases x <;> simp [AV.one] at ho <;> first
    | (simp only [VRel] at h; subst h; rfl)
    | (obtain ⟨L, _, _, rfl⟩ := h; rfl)
    | (obtain ⟨L, _, rfl⟩ := h; rfl)
    | (obtain ⟨L, a, _, _, _, rfl, _⟩ := h; rfl)
    | (obtain ⟨_, a, b, rfl, _⟩ := h; rfl)
    | (obtain ⟨y, rfl, _⟩ := h; rfl)
    | (obtain ⟨y, rfl⟩ := h; rfl)
    | exact h.2

end Go.Proofs.Ytcdpmiebmhjmpaa.Ev
