/- What an operation of the evaluator hangs on: its operands alone. -/
import Derived.Test.YtcdpmiebmhjmpaaEvR
namespace Go.Proofs.Ytcdpmiebmhjmpaa.Ev
open Go

section
variable {P : Program} {ρ ρ' : Operand → Option AV} {h : AHeap}

theorem mapO_congr {α β : Type} {f g : α → Option β} : ∀ {l : List α}, (∀ x ∈ l, f x = g x) → mapO f l = mapO g l
  | [], _ => rfl
  | a :: r, e => by
    simp only [mapO_cons, e a (List.mem_cons_self), mapO_congr (l := r) (fun x hx => e x (List.mem_cons_of_mem _ hx))]

theorem one'_congr {x : Operand} {f : AV → Option AR} (e : ρ x = ρ' x) : one' ρ x f = one' ρ' x f := by simp only [one', e]
theorem two_congr {x y : Operand} {f : AV → AV → Option AR} (e : ρ x = ρ' x) (e' : ρ y = ρ' y) : two ρ x y f = two ρ' x y f := by simp only [two, e, e']

theorem call_congr {c : Call} (hl : ∀ x ∈ c.operands, ρ x = ρ' x) : callOpA P ρ h c = callOpA P ρ' h c := by
  have h1 : mapO ρ c.args.toList = mapO ρ' c.args.toList := mapO_congr fun x hx => hl x (by simp only [Call.operands, Array.mem_append]; exact .inr (by simpa using hx))
  unfold callOpA
  rw [h1]
  cases hc : c.callee with
  | builtin b => rfl
  | invoke r name =>
    have := hl r (by simp [Call.operands, hc])
    simp only [this]
  | value f =>
    have := hl f (by simp [Call.operands, hc])
    simp only [this]

theorem defer_congr {c : Call} (hl : ∀ x ∈ c.operands, ρ x = ρ' x) : deferA ρ c = deferA ρ' c := by
  have h1 : mapO ρ c.args.toList = mapO ρ' c.args.toList := mapO_congr fun x hx => hl x (by simp only [Call.operands, Array.mem_append]; exact .inr (by simpa using hx))
  unfold deferA
  rw [h1]
  cases hc : c.callee with
  | builtin b => rfl
  | invoke r name =>
    have := hl r (by simp [Call.operands, hc])
    simp only [this]
  | value f =>
    have := hl f (by simp [Call.operands, hc])
    simp only [this]

theorem parts_congr {l : List (Nat × Operand)} (hl : ∀ x ∈ l.map (·.2), ρ x = ρ' x) : partsA ρ l = partsA ρ' l :=
  mapO_congr fun p hp => by rw [hl p.2 (List.mem_map_of_mem hp)]

theorem optEv_congr {o : Option Operand} (hl : ∀ x ∈ o, ρ x = ρ' x) : optEv ρ o = optEv ρ' o := by
  cases o with
  | none => rfl
  | some x => simp only [optEv, hl x rfl]

theorem opA_local {op : Op} (hl : ∀ x ∈ op.operands, ρ x = ρ' x) : opA P ρ h op = opA P ρ' h op := by
  cases op with
  | move x => exact congrArg (valE h) (hl x (by simp [Op.operands]))
  | assign x => exact congrArg (valE h) (hl x (by simp [Op.operands]))
  | pick c a b =>
    show op_pick P c a b ρ h = op_pick P c a b ρ' h
    simp only [op_pick, pickA, hl c (by simp [Op.operands]), hl a (by simp [Op.operands]), hl b (by simp [Op.operands])]
  | alloc t => rfl
  | box t x => exact one'_congr (hl x (by simp [Op.operands]))
  | build t parts => exact congrArg (buildE P h t) (parts_congr fun x hx => hl x (by simpa [Op.operands] using hx))
  | buildSlice t n parts => exact congrArg (buildSliceE P h t n) (parts_congr fun x hx => hl x (by simpa [Op.operands] using hx))
  | insert t m k x =>
    show op_insert P t m k x ρ h = op_insert P t m k x ρ' h
    simp only [op_insert, mapPutE, hl m (by simp [Op.operands]), hl k (by simp [Op.operands]), hl x (by simp [Op.operands])]
  | load t a => exact one'_congr (hl a (by simp [Op.operands]))
  | store t a x => exact two_congr (hl a (by simp [Op.operands])) (hl x (by simp [Op.operands]))
  | ready g => rfl
  | waits g => rfl
  | nilCheck x => exact one'_congr (hl x (by simp [Op.operands]))
  | binOp op t x y u => exact two_congr (hl x (by simp [Op.operands])) (hl y (by simp [Op.operands]))
  | unOp op t x => exact one'_congr (hl x (by simp [Op.operands]))
  | convert s d x => exact one'_congr (hl x (by simp [Op.operands]))
  | sliceToArrayPointer t x => rfl
  | makeInterface t x => exact one'_congr (hl x (by simp [Op.operands]))
  | makeFunc f first cap =>
    show op_makeFunc P f first cap ρ h = op_makeFunc P f first cap ρ' h
    have h1 : mapO ρ first.toList = mapO ρ' first.toList := mapO_congr fun x hx => hl x (by simp only [Op.operands, Array.mem_append]; exact .inl (by simpa using hx))
    have h2 : mapO ρ cap.toList = mapO ρ' cap.toList := mapO_congr fun x hx => hl x (by simp only [Op.operands, Array.mem_append]; exact .inr (by simpa using hx))
    simp only [op_makeFunc, mkFuncA, h1, h2]
  | makeMap t r =>
    cases r with
    | none => rfl
    | some x =>
      show op_makeMap P t (some x) ρ h = op_makeMap P t (some x) ρ' h
      simp only [op_makeMap, mkMapA, hl x (by simp [Op.operands])]
  | makeChan t s => rfl
  | makeSlice t l c => exact two_congr (hl l (by simp [Op.operands])) (hl c (by simp [Op.operands]))
  | slice t x lo hi mx =>
    show op_slice P t x lo hi mx ρ h = op_slice P t x lo hi mx ρ' h
    have h1 : optEv ρ lo = optEv ρ' lo := optEv_congr fun y hy => hl y (by have := Option.mem_def.1 hy; simp [Op.operands, this])
    have h2 : optEv ρ hi = optEv ρ' hi := optEv_congr fun y hy => hl y (by have := Option.mem_def.1 hy; simp [Op.operands, this])
    have h3 : optEv ρ mx = optEv ρ' mx := optEv_congr fun y hy => hl y (by have := Option.mem_def.1 hy; simp [Op.operands, this])
    simp only [op_slice, sliceOp, h1, h2, h3, hl x (by simp [Op.operands])]
  | fieldAddr s x f => exact one'_congr (hl x (by simp [Op.operands]))
  | field t x f => exact one'_congr (hl x (by simp [Op.operands]))
  | indexAddr t x ix => exact two_congr (hl x (by simp [Op.operands])) (hl ix (by simp [Op.operands]))
  | index t x ix => exact two_congr (hl x (by simp [Op.operands])) (hl ix (by simp [Op.operands]))
  | lookup t m k ok => exact two_congr (hl m (by simp [Op.operands])) (hl k (by simp [Op.operands]))
  | mapUpdate t m k x =>
    show op_mapUpdate P t m k x ρ h = op_mapUpdate P t m k x ρ' h
    simp only [op_mapUpdate, mapPutE, hl m (by simp [Op.operands]), hl k (by simp [Op.operands]), hl x (by simp [Op.operands])]
  | mapEntry t m k => exact two_congr (hl m (by simp [Op.operands])) (hl k (by simp [Op.operands]))
  | entryStore t m s x =>
    show op_entryStore P t m s x ρ h = op_entryStore P t m s x ρ' h
    simp only [op_entryStore, entryPutE, hl m (by simp [Op.operands]), hl s (by simp [Op.operands]), hl x (by simp [Op.operands])]
  | range t x => exact one'_congr (hl x (by simp [Op.operands]))
  | next it s => exact one'_congr (hl it (by simp [Op.operands]))
  | entry it => rfl
  | typeAssert x u t ok => exact one'_congr (hl x (by simp [Op.operands]))
  | extract x i =>
    show op_extract P x i ρ h = op_extract P x i ρ' h
    simp only [op_extract, hl x (by simp [Op.operands])]
  | call c => exact call_congr hl
  | go c => rfl
  | «defer» c => exact defer_congr hl
  | panic x => exact one'_congr (hl x (by simp [Op.operands]))
  | send a b => rfl
  | recv a b c => rfl
  | select a b => rfl

/-- What only reckons hangs on no heap, and leaves it. -/
theorem opA_pure {op : Op} {r : AR} (hp : isPure op = true) (e : opA P ρ h op = some r) : ∃ v, r = .val v h ∧ ∀ h', opA P ρ h' op = some (.val v h') := by
  have base : ∀ {f : Option AV}, valE h f = some r → ∃ v, r = .val v h ∧ ∀ h', valE h' f = some (.val v h') := by
    intro f e
    obtain ⟨v, rfl, rfl⟩ := valE_inv e
    exact ⟨v, rfl, fun _ => rfl⟩
  have b1 : ∀ {x : Operand} {f : AV → Option AV}, one' ρ x (fun v => valE h (f v)) = some r → ∃ v, r = .val v h ∧ ∀ h', one' ρ x (fun v => valE h' (f v)) = some (.val v h') := by
    intro x f e
    obtain ⟨a, ha, e⟩ := one'_inv e
    obtain ⟨v, e1, e2⟩ := base e
    exact ⟨v, e1, fun h' => by simp only [one', ha]; exact e2 h'⟩
  have b2 : ∀ {x y : Operand} {f : AV → AV → Option AV}, two ρ x y (fun v u => valE h (f v u)) = some r → ∃ v, r = .val v h ∧ ∀ h', two ρ x y (fun v u => valE h' (f v u)) = some (.val v h') := by
    intro x y f e
    obtain ⟨a, b, ha, hb, e⟩ := two_inv e
    obtain ⟨v, e1, e2⟩ := base e
    exact ⟨v, e1, fun h' => by simp only [two, ha, hb]; exact e2 h'⟩
  cases op with
  | move x => exact base e
  | assign x => exact base e
  | pick c a b => exact base e
  | build t parts =>
    change buildE P h t (partsA ρ parts.toList) = some r at e
    unfold buildE at e
    split at e
    · cases e
    · rename_i l hl
      obtain ⟨v, e1, e2⟩ := base e
      exact ⟨v, e1, fun h' => by show buildE P h' t (partsA ρ parts.toList) = _; simp only [buildE, hl]; exact e2 h'⟩
  | nilCheck x => exact b1 e
  | unOp op t x => exact b1 e
  | makeInterface t x => exact b1 e
  | makeFunc f first cap => exact base e
  | fieldAddr s x f => exact b1 e
  | field t x f => exact b1 e
  | indexAddr t x ix => exact b2 e
  | index t x ix => exact b2 e
  | typeAssert x u t ok => exact b1 e
  | extract x i => exact base e
  | _ => cases hp

/-- What reads leaves the heap. -/
theorem opA_read {op : Op} {r : AR} (hp : isRead P op = true) (e : opA P ρ h op = some r) : ∃ v, r = .val v h := by
  have base : ∀ {f : Option AV}, valE h f = some r → ∃ v, r = .val v h := by
    intro f e
    obtain ⟨v, rfl, rfl⟩ := valE_inv e
    exact ⟨v, rfl⟩
  cases op with
  | load t a => obtain ⟨p, hp, e⟩ := one'_inv e; exact base e
  | binOp op t x y u => obtain ⟨a, b, ha, hb, e⟩ := two_inv e; exact base e
  | lookup t m k ok => obtain ⟨a, b, ha, hb, e⟩ := two_inv e; exact base e
  | slice t x lo hi mx => exact base e
  | convert s d x =>
    obtain ⟨a, ha, e⟩ := one'_inv e
    simp only [isRead, Bool.not_eq_true'] at hp
    simp only [convE, hp] at e
    exact base e
  | call c =>
    change callOpA P ρ h c = some r at e
    unfold callOpA at e
    split at e
    · cases e
    · split at e
      · rename_i b hc
        simp only [isRead, hc] at hp
        simp only [builtinA, hp] at e
        exact base e
      · rename_i hc; simp [isRead, hc] at hp
      · rename_i hc; simp [isRead, hc] at hp
  | _ => cases hp

/-- What an operation reads, alone. -/
noncomputable def restr (ρ : Operand → Option AV) (op : Op) : Operand → Option AV := fun x => open Classical in if x ∈ op.operands then ρ x else none

theorem restr_in {op : Op} {x : Operand} (hx : x ∈ op.operands) : restr ρ op x = ρ x := by unfold restr; rw [if_pos hx]
theorem restr_some {op : Op} {x : Operand} {v : AV} (e : restr ρ op x = some v) : x ∈ op.operands ∧ ρ x = some v := by
  unfold restr at e
  split at e
  · exact ⟨by assumption, e⟩
  · cases e

/-- An operation, whose operands alone are known. -/
theorem opA_at {B : Base} {R : Bij} {w : World} (k : HRel P B R h w) (hB : B.n ≤ w.heap.size) {ρ'' : Operand → Value} {o : Oper} {r : AR} (hρ : ∀ x ∈ o.op.operands, ∀ v, ρ x = some v → VRel R v (ρ'' x)) (e : opA P ρ h o.op = some r) :
    OpRel P B R w (execOp ρ'' o) r :=
  opA_sound (ρ := restr ρ o.op) k hB (fun x v hv => hρ x (restr_some hv).1 v (restr_some hv).2) ((opA_local fun _x hx => restr_in hx).trans e)

/-- What a float is. -/
def FloatAt (P : Program) (ρ : Operand → Option AV) (op : Op) (vf : Nat → AV) (ob : AObj) : Prop :=
  (∀ h, opA P ρ h op = some (.val (vf h.next) (h.new ob))) ∧
  ∀ (R : Bij) (w : World) (ρ' : Operand → Value) (o : Oper), o.op = op → (∀ x ∈ op.operands, ∀ v, ρ x = some v → VRel R v (ρ' x)) →
    ∃ s, execOp ρ' o = (do pure (.value (← s))) ∧ Lays P R w s vf ob

theorem float_at {op : Op} {r : AR} (hf : isFloat op = true) (e : opA P ρ h op = some r) : ∃ vf ob, FloatAt P ρ op vf ob := by
  have loc : ∀ h, opA P (restr ρ op) h op = opA P ρ h op := fun h => opA_local fun x hx => restr_in hx
  obtain ⟨vf, ob, k1, k2⟩ := float_inv hf ((loc h).trans e)
  exact ⟨vf, ob, fun h => (loc h).symm.trans (k1 h), fun R w ρ' o ho hρ => k2 R w ρ' o ho fun x v hv => hρ x (restr_some hv).1 v (restr_some hv).2⟩

theorem FloatAt.congr {op : Op} {vf : Nat → AV} {ob : AObj} (hl : ∀ x ∈ op.operands, ρ' x = ρ x) (k : FloatAt P ρ op vf ob) : FloatAt P ρ' op vf ob :=
  ⟨fun h => (opA_local hl).trans (k.1 h), fun R w ρ'' o ho hρ => k.2 R w ρ'' o ho fun x hx v hv => hρ x hx v ((hl x hx).trans hv)⟩

end

end Go.Proofs.Ytcdpmiebmhjmpaa.Ev
