/- What the evaluator's operations say is what the model's do: equality, maps, conversions. -/
import Derived.Test.YtcdpmiebmhjmpaaEvF
namespace Go.Proofs.Ytcdpmiebmhjmpaa.Ev
open Go

section
variable {P : Program} {B : Base} {R : Bij} {h : AHeap} {w : World}

theorem beq_bytes (a b : List UInt8) : ((ByteArray.mk a.toArray) == (ByteArray.mk b.toArray)) = (a == b) := by
  rw [Bool.eq_iff_iff]
  constructor
  · intro h
    have : (a.toArray == b.toArray) = true := h
    simpa using this
  · intro h
    show (a.toArray == b.toArray) = true
    simpa using h

theorem eqElemsA_sound {eq : AV → AV → Option Bool} {eq' : Value → Value → Sem Bool} {el : TypeId} {s : Nat} (w : World)
    (hq : ∀ x y x' y' b, eq x y = some b → VRel R x x' → VRel R y y' → (eq' x' y').run P w = .ok b w)
    {xs ys : List AV} {xs' ys' : List Value} (hx : VRels R xs xs') (hy : VRels R ys ys') : ∀ {n i : Nat} {b : Bool}, eqElemsA P eq el s xs ys n i = some b →
    ∃ c, (forIn (List.range' i n) ((none : Option Bool), ()) fun i _r => do
        if !(← eq' (← part el xs'.toArray (i * s)) (← part el ys'.toArray (i * s))) then pure (.done (some false, ())) else pure (.yield (none, ())) : Sem (Option Bool × Unit)).run P w = .ok c w ∧
      c.fst = (if b then none else some false)
  | 0, i, b, e => by
    simp [eqElemsA] at e; subst e
    exact ⟨(none, ()), by simp, rfl⟩
  | n + 1, i, b, e => by
    simp only [eqElemsA] at e
    split at e
    · rename_i u v hu hv
      obtain ⟨u', eu, ru⟩ := partA_sound w hu hx
      obtain ⟨v', ev', rv⟩ := partA_sound w hv hy
      rw [List.range'_succ]
      split at e
      · rename_i hb
        obtain ⟨c, e1, e2⟩ := eqElemsA_sound w hq hx hy e
        refine ⟨c, ?_, e2⟩
        simp only [List.forIn_cons, Sem.run_bind, eu, ev', hq _ _ _ _ _ hb ru rv, Result.andThen_ok, Bool.not_true, Bool.false_eq_true, if_false, Sem.run_pure]
        exact e1
      · rename_i hb
        cases e
        refine ⟨(some false, ()), ?_, rfl⟩
        simp only [List.forIn_cons, Sem.run_bind, eu, ev', hq _ _ _ _ _ hb ru rv, Result.andThen_ok, Bool.not_false, if_true, Sem.run_pure]
      · cases e
    · cases e

theorem eqA_sound (k : HRel P B R h w) : ∀ {d : Nat} {t : TypeId} {x y : AV} {x' y' : Value} {b : Bool} (D : Nat), eqA P h d t x y = some b → VRel R x x' → VRel R y y' →
    (Op.equalIn (D + d) t x' y').run P w = .ok b w
  | 0, t, x, y, x', y', b, D, e, _, _ => by simp [eqA] at e
  | d + 1, t, x, y, x', y', b, D, e, hx, hy => by
    have ih : ∀ t x y x' y' b, eqA P h d t x y = some b → VRel R x x' → VRel R y y' → (Op.equalIn (D + d) t x' y').run P w = .ok b w :=
      fun t x y x' y' b e hx hy => eqA_sound k D e hx hy
    simp only [eqA] at e
    split at e
    · cases e
    · rename_i u hu
      rw [show D + (d + 1) = (D + d) + 1 from rfl, Op.equalIn]
      simp only [Sem.run_bind, r_underlying w hu, Result.andThen_ok]
      split at e
      · cases x <;> simp only [eqB] at e <;> try (cases e; done)
        cases y <;> simp only [] at e <;> try (cases e; done)
        cases e; cases hx; cases hy; simp
      · cases x <;> simp only [eqN] at e <;> try (cases e; done)
        cases y <;> simp only [] at e <;> try (cases e; done)
        split at e
        · rename_i hk; subst hk; cases e; cases hx; cases hy; simp
        · cases e
      · cases x <;> simp only [eqT] at e <;> try (cases e; done)
        cases y <;> simp only [] at e <;> try (cases e; done)
        cases e; cases hx; cases hy
        simp only [Sem.run_pure, beq_bytes]
      · rename_i el
        cases x <;> simp only [eqP] at e <;> try (cases e; done)
        · cases y <;> simp only [] at e <;> try (cases e; done)
          · cases e; cases hx; cases hy; simp
          · cases e; cases hx; obtain ⟨L, _, _, rfl⟩ := hy; simp
        · cases y <;> simp only [] at e <;> try (cases e; done)
          · cases e; cases hy; obtain ⟨L, _, _, rfl⟩ := hx; simp
          · unfold eqPtrA at e
            split at e
            · cases e
            · rename_i inf hi
              split at e
              · rename_i hs
                obtain ⟨L, hL, hm, rfl⟩ := hx
                obtain ⟨L', hL', hm', rfl⟩ := hy
                simp [r_sizeOf w hi, hs, samePtrA_sound k e hL hL' hm hm']
              · cases e
      · cases x <;> simp only [eqI] at e <;> try (cases e; done)
        · cases y <;> simp only [] at e <;> try (cases e; done)
          · cases e; cases hx; cases hy; simp
          · cases e; cases hx; obtain ⟨z, rfl, _⟩ := hy; simp
        · cases y <;> simp only [] at e <;> try (cases e; done)
          · cases e; cases hy; obtain ⟨z, rfl, _⟩ := hx; simp
          · obtain ⟨z, rfl, hz⟩ := hx
            obtain ⟨z', rfl, hz'⟩ := hy
            split at e
            · rename_i hne
              cases e; simp [hne]
            · rename_i heq
              simp only [ne_eq, Decidable.not_not] at heq
              subst heq
              split at e
              · cases e
              · rename_i inf hi
                split at e
                · rename_i hc
                  simp [r_typeInfo w hi, hc, ih _ _ _ _ _ _ e hz hz']
                · cases e
      · rename_i fs
        cases x <;> simp only [eqR] at e <;> try (cases e; done)
        cases y <;> simp only [] at e <;> try (cases e; done)
        split at e
        · cases e
        · rename_i hst
          obtain ⟨a, rfl, ha⟩ := hx
          obtain ⟨a', rfl, ha'⟩ := hy
          obtain ⟨c, e1, e2⟩ := eqFieldsA_sound w (fun t x y x' y' b => ih t x y x' y' b) ha ha' e
          simp only [Sem.run_bind, run_program, Result.andThen_ok, hst, Bool.false_eq_true, if_false, ← Array.forIn_toList]
          rw [e1]
          simp only [Result.andThen_ok]
          rw [e2]
          cases b <;> simp
      · rename_i n el
        cases x <;> simp only [eqL] at e <;> try (cases e; done)
        cases y <;> simp only [] at e <;> try (cases e; done)
        split at e
        · cases e
        · rename_i inf hi
          obtain ⟨a, rfl, ha⟩ := hx
          obtain ⟨a', rfl, ha'⟩ := hy
          obtain ⟨c, e1, e2⟩ := eqElemsA_sound w (fun x y x' y' b => ih el x y x' y' b) ha ha' e
          simp only [Sem.run_bind, r_sizeOf w hi, Result.andThen_ok, Std.Legacy.Range.forIn_eq_forIn_range', Std.Legacy.Range.size, Nat.sub_zero, Nat.add_one_sub_one, Nat.div_one]
          rw [e1]
          simp only [Result.andThen_ok]
          rw [e2]
          cases b <;> simp
      · cases x <;> simp only [eqS] at e <;> try (cases e; done)
        · cases y <;> simp only [] at e <;> try (cases e; done)
          · cases e; cases hx; cases hy; simp
          · cases e; cases hx; obtain ⟨L, _, _, rfl⟩ := hy; simp
          · cases e; cases hx; obtain ⟨L, a, _, _, _, rfl, _⟩ := hy; simp
          · cases e; cases hx; obtain ⟨a, rfl⟩ := hy; simp
        · cases y <;> simp only [] at e <;> try (cases e; done)
          cases e; cases hy; obtain ⟨L, _, _, rfl⟩ := hx; simp
        · cases y <;> simp only [] at e <;> try (cases e; done)
          cases e; cases hy; obtain ⟨L, a, _, _, _, rfl, _⟩ := hx; simp
        · cases y <;> simp only [] at e <;> try (cases e; done)
          cases e; cases hy; obtain ⟨a, rfl⟩ := hx; simp
      · cases x <;> simp only [eqM] at e <;> try (cases e; done)
        · cases y <;> simp only [] at e <;> try (cases e; done)
          · cases e; cases hx; cases hy; simp
          · cases e; cases hx; obtain ⟨L, _, rfl⟩ := hy; simp
        · cases y <;> simp only [] at e <;> try (cases e; done)
          cases e; cases hy; obtain ⟨L, _, rfl⟩ := hx; simp
      · cases x <;> simp only [eqF] at e <;> try (cases e; done)
        · cases y <;> simp only [] at e <;> try (cases e; done)
          · cases e; cases hx; cases hy; simp
          · cases e; cases hx; obtain ⟨_, a, b, rfl, _⟩ := hy; simp
          · cases e; cases hx; obtain ⟨L, _, rfl⟩ := hy; simp
        · cases y <;> simp only [] at e <;> try (cases e; done)
          cases e; cases hy; obtain ⟨_, a, b, rfl, _⟩ := hx; simp
        · cases y <;> simp only [] at e <;> try (cases e; done)
          cases e; cases hy; obtain ⟨L, _, rfl⟩ := hx; simp
      · cases e

theorem equal_sound (k : HRel P B R h w) {t : TypeId} {x y : AV} {x' y' : Value} {b : Bool} (e : eqA P h 9 t x y = some b) (hx : VRel R x x') (hy : VRel R y y') :
    (Op.equal t x' y').run P w = .ok b w := eqA_sound k 9991 e hx hy

theorem binOp_eql {x : AV} {x' y' : Value} (t : TypeId) (hx : VRel R x x') (h1 : ∀ k n, x ≠ .int k n) (h2 : ∀ s, x ≠ .str s) (h3 : x ≠ .unk) :
    binOp .eql t x' y' = (do pure (.bool (← Op.equal t x' y'))) := by
  cases x <;> first | exact absurd rfl (h1 _ _) | exact absurd rfl (h2 _) | exact absurd rfl h3 | skip
  all_goals first
    | (cases hx; first | rfl | (cases y' <;> rfl))
    | (obtain ⟨L, _, _, rfl⟩ := hx; first | rfl | (cases y' <;> rfl))
    | (obtain ⟨L, _, rfl⟩ := hx; first | rfl | (cases y' <;> rfl))
    | (obtain ⟨L, a, _, _, _, rfl, _⟩ := hx; first | rfl | (cases y' <;> rfl))
    | (obtain ⟨a, rfl⟩ := hx; first | rfl | (cases y' <;> rfl))
    | (obtain ⟨_, a, b, rfl, _⟩ := hx; first | rfl | (cases y' <;> rfl))
    | (obtain ⟨y, rfl, _⟩ := hx; first | rfl | (cases y' <;> rfl))

theorem binOp_neq {x : AV} {x' y' : Value} (t : TypeId) (hx : VRel R x x') (h1 : ∀ k n, x ≠ .int k n) (h2 : ∀ s, x ≠ .str s) (h3 : x ≠ .unk) :
    binOp .neq t x' y' = (do pure (.bool (!(← Op.equal t x' y')))) := by
  cases x <;> first | exact absurd rfl (h1 _ _) | exact absurd rfl (h2 _) | exact absurd rfl h3 | skip
  all_goals first
    | (cases hx; first | rfl | (cases y' <;> rfl))
    | (obtain ⟨L, _, _, rfl⟩ := hx; first | rfl | (cases y' <;> rfl))
    | (obtain ⟨L, _, rfl⟩ := hx; first | rfl | (cases y' <;> rfl))
    | (obtain ⟨L, a, _, _, _, rfl, _⟩ := hx; first | rfl | (cases y' <;> rfl))
    | (obtain ⟨a, rfl⟩ := hx; first | rfl | (cases y' <;> rfl))
    | (obtain ⟨_, a, b, rfl, _⟩ := hx; first | rfl | (cases y' <;> rfl))
    | (obtain ⟨y, rfl, _⟩ := hx; first | rfl | (cases y' <;> rfl))

/-- '==' and '!=' where the first operand is no number and no string. -/
theorem eqOpA_sound (k : HRel P B R h w) {op : BinOp} {t : TypeId} {x y v : AV} {x' y' : Value} (e : eqOpA P h op t x y = some v) (hx : VRel R x x') (hy : VRel R y y')
    (h1 : ∀ k n, x ≠ .int k n) (h2 : ∀ s, x ≠ .str s) (h3 : x ≠ .unk) : ∃ v', (binOp op t x' y').run P w = .ok v' w ∧ VRel R v v' := by
  unfold eqOpA at e
  split at e
  · split at e
    · cases e
    · rename_i b hb
      cases e
      exact ⟨.bool b, by rw [binOp_eql t hx h1 h2 h3]; simp [equal_sound k hb hx hy], rfl⟩
  · split at e
    · cases e
    · rename_i b hb
      cases e
      exact ⟨.bool !b, by rw [binOp_neq t hx h1 h2 h3]; simp [equal_sound k hb hx hy], rfl⟩
  · cases e

theorem guard_ok {op : BinOp} {t : TypeId} {x y : Operand} {a' b' : Value} (w : World) (n1 : ¬ (a' = .nilIface ∧ b' = .nilIface)) (n2 : ¬ ∃ u z, a' = .agg u ∧ b' = .agg z) :
    (eqGuard op t x y a' b').run P w = .ok () w := by
  cases op <;> try rfl
  all_goals
    cases a' <;> try rfl
    case nilIface => cases b' <;> first | rfl | exact absurd ⟨rfl, rfl⟩ n1
    case agg u => cases b' <;> first | rfl | exact absurd ⟨_, _, rfl, rfl⟩ n2

theorem guard_lit {op : BinOp} {t : TypeId} {x y : Operand} (w : World) (hc : (isConstO x || isConstO y) = true) :
    (eqGuard op t x y .nilIface .nilIface).run P w = .ok () w := by
  cases op <;> try rfl
  all_goals (cases x <;> cases y <;> first | rfl | (simp [isConstO] at hc))

theorem guard_agg {op : BinOp} {t : TypeId} {x y : Operand} {u z : Array Value} (w : World) (hc : P.eqGuardType P.depth t = false) :
    (eqGuard op t x y (.agg u) (.agg z)).run P w = .ok () w := by
  cases op <;> try rfl
  all_goals (simp [eqGuard, hc])

/-- An operation on two operands: the model's, its guard too. -/
theorem binA_sound (k : HRel P B R h w) {op : BinOp} {t : TypeId} {x y : Operand} {a b v : AV} {a' b' : Value} (e : binA P h op t (isConstO x || isConstO y) a b = some v) (hx : VRel R a a') (hy : VRel R b b') :
    ∃ v', (do eqGuard op t x y a' b'; binOp op t a' b' : Sem Value).run P w = .ok v' w ∧ VRel R v v' := by
  have one : ∀ {v' : Value}, (eqGuard op t x y a' b').run P w = .ok () w → (binOp op t a' b').run P w = .ok v' w → (do eqGuard op t x y a' b'; binOp op t a' b' : Sem Value).run P w = .ok v' w := by
    intro v' g1 g2
    rw [Sem.run_bind, g1]; exact g2
  unfold binA at e
  split at e
  · cases e
  rename_i hunk
  obtain ⟨hua, hub⟩ := Bool.or_eq_false_iff.1 hunk
  unfold binB at e
  split at e
  · cases hx
    unfold binIntA at e
    split at e
    · cases hy
      split at e
      · rename_i hk
        obtain ⟨v', e1, e2⟩ := intBin_sound (R := R) (t := t) w e hk
        exact ⟨v', one (guard_ok w (by simp) (by simp)) e1, e2⟩
      · cases e
    · cases e
  · cases hx
    unfold binStrA at e
    split at e
    · cases hy
      obtain ⟨v', e1, e2⟩ := strBin_sound (R := R) (t := t) w e
      exact ⟨v', one (guard_ok w (by simp) (by simp)) e1, e2⟩
    · cases e
  · unfold binNilA at e
    split at e
    · cases hx
      cases hy
      unfold nilEqA at e
      split at e
      · cases e
      · rename_i hlit
        split at e
        · rename_i ms hu
          have hn : (Op.equal t .nilIface .nilIface).run P w = .ok true w := by
            show (Op.equalIn 10000 t .nilIface .nilIface).run P w = _
            rw [Op.equalIn]; simp [r_underlying w hu]
          unfold nilEqB at e
          split at e
          · cases e
            exact ⟨.bool true, one (guard_lit w hlit) (by rw [binOp_eql (R := R) (x := .nili) t rfl (by simp) (by simp) (by simp)]; simp [hn]), rfl⟩
          · cases e
            exact ⟨.bool false, one (guard_lit w hlit) (by rw [binOp_neq (R := R) (x := .nili) t rfl (by simp) (by simp) (by simp)]; simp [hn]), rfl⟩
          · cases e
        · cases e
    · rename_i hne
      obtain ⟨v', e1, e2⟩ := eqOpA_sound k e hx hy (by simp) (by simp) (by simp)
      cases hx
      refine ⟨v', one (guard_ok w ?_ (by simp)) e1, e2⟩
      rintro ⟨_, rfl⟩
      apply hne
      cases b <;> simp only [VRel] at hy <;> first | rfl | (cases hy; done) | (obtain ⟨L, _, _, h⟩ := hy; cases h; done) | (obtain ⟨L, _, h⟩ := hy; cases h; done) | (obtain ⟨L, a, _, _, _, h, _⟩ := hy; cases h; done) | (obtain ⟨_, a, b, h, _⟩ := hy; cases h; done) | (obtain ⟨y, h⟩ := hy; cases h; done) | (obtain ⟨y, h, _⟩ := hy; cases h; done) | (cases hub; done)
  · rename_i l
    unfold binAggA at e
    split at e
    · cases e
    · rename_i hg
      obtain ⟨v', e1, e2⟩ := eqOpA_sound k e hx hy (by simp) (by simp) (by simp)
      obtain ⟨u, rfl, _⟩ := hx
      refine ⟨v', one ?_ e1, e2⟩
      cases b' with
      | agg z => exact guard_agg w (by simpa using hg)
      | _ => exact guard_ok w (by simp) (by simp)
  · rename_i h1 h2 h3 h4
    obtain ⟨v', e1, e2⟩ := eqOpA_sound k e hx hy (fun k n => h1 k n) (fun s => h2 s) (fun h => by subst h; cases hua)
    refine ⟨v', one (guard_ok w ?_ ?_) e1, e2⟩
    · rintro ⟨rfl, _⟩
      apply h3
      cases a <;> simp only [VRel] at hx <;> first | rfl | (cases hx; done) | (obtain ⟨L, _, _, h⟩ := hx; cases h; done) | (obtain ⟨L, _, h⟩ := hx; cases h; done) | (obtain ⟨L, a, _, _, _, h, _⟩ := hx; cases h; done) | (obtain ⟨_, a, b, h, _⟩ := hx; cases h; done) | (obtain ⟨y, h⟩ := hx; cases h; done) | (obtain ⟨y, h, _⟩ := hx; cases h; done) | (cases hua; done)
    · rintro ⟨u, z, rfl, _⟩
      cases a <;> simp only [VRel] at hx <;> first | exact h4 _ rfl | (cases hx; done) | (obtain ⟨L, _, _, h⟩ := hx; cases h; done) | (obtain ⟨L, _, h⟩ := hx; cases h; done) | (obtain ⟨L, a, _, _, _, h, _⟩ := hx; cases h; done) | (obtain ⟨_, a, b, h, _⟩ := hx; cases h; done) | (obtain ⟨y, h⟩ := hx; cases h; done) | (obtain ⟨y, h, _⟩ := hx; cases h; done) | (cases hua; done)


theorem unA_sound {op : UnOp} {x v : AV} {x' : Value} (w : World) (e : unA op x = some v) (hx : VRel R x x') : ∃ v', (Op.unary op x').run P w = .ok v' w ∧ VRel R v v' := by
  unfold unA at e
  split at e
  · unfold negA at e
    split at e
    · cases hx; cases e; exact ⟨_, by simp [Op.unary, Op.intArith], rfl⟩
    · cases e
  · unfold comA at e
    split at e
    · cases hx; cases e; exact ⟨_, by simp [Op.unary, Op.intBits], rfl⟩
    · cases e
  · unfold notA at e
    split at e
    · cases hx; cases e; exact ⟨_, by simp [Op.unary], rfl⟩
    · cases e
  · cases e

/-! ## Lengths -/

theorem size_str (s : List UInt8) : (ByteArray.mk s.toArray).size = s.length := by simp [ByteArray.size]

theorem lenA_sound (k : HRel P B R h w) {t : TypeId} {x : AV} {n : Nat} {x' : Value} {argTypes args : Array _} {ty : TypeId} (e : lenA P h t x = some n) (hx : VRel R x x')
    (ht : argTypes[0]? = some t) (ha : args[0]? = some x') : (Builtin.len_ argTypes ty args).run P w = .ok (.int .i64 n) w := by
  unfold lenA at e
  split at e
  · cases e
  · rename_i u hu
    have base : (Builtin.len_ argTypes ty args).run P w = (match u, x' with
        | .string, .string s => (pure (goInt s.size) : Sem Value)
        | .array n _, _ => pure (goInt n)
        | .pointer arr, _ => do
          let .array n _ ← underlying arr | stuck "len: pointer to array expected"
          pure (goInt n)
        | .slice _, .slice _ n _ => pure (goInt n)
        | .map _ _, .map none | .chan _ _, .chan none => pure (goInt 0)
        | .map _ _, .map (some r) => do
          let .map entries _ ← getObj r | stuck "len: map expected"
          pure (goInt entries.size)
        | .chan _ _, .chan (some r) => do
          let .chan _ buf _ _ _ timer ← getObj r | stuck "len: channel expected"
          pure (goInt (if timer then 0 else buf.size))
        | _, _ => stuck "len: string, array, pointer to array, slice, map or channel expected").run P w := by
      simp only [Builtin.len_, ht, ha, Sem.run_bind, r_underlying w hu, Result.andThen_ok]
      rfl
    rw [base]
    split at e
    · unfold lenStr at e
      split at e
      · cases e; cases hx; simp [goInt, size_str]
      · cases e
    · cases e; cases x' <;> rfl
    · rename_i arr
      unfold lenArr at e
      split at e
      · rename_i m el hm
        cases e
        cases x' <;> (simp [r_underlying w hm, goInt])
      · cases e
    · unfold lenSlice at e
      split at e
      · cases e; cases hx; rfl
      · cases e; obtain ⟨L, _, _, rfl⟩ := hx; rfl
      · cases e; obtain ⟨L, a, _, _, _, rfl, _⟩ := hx; rfl
      · cases e; obtain ⟨a, rfl⟩ := hx; rfl
      · cases e
    · unfold lenMap at e
      split at e
      · cases e; cases hx; rfl
      · rename_i i
        obtain ⟨L, hL, rfl⟩ := hx
        unfold lenMapAt at e
        split at e
        · rename_i es clock ho
          cases e
          obtain ⟨L', es', hL', hh, hr⟩ := k.obj' hL ho
          rw [hL] at hL'; cases hL'
          have : es'.size = es.length := by simpa using hr.length
          simp [getObj, Sem.run, hh, goInt, this]
        · cases e
      · cases e
    · cases e

end

end Go.Proofs.Ytcdpmiebmhjmpaa.Ev
