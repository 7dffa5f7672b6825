/- A step of the evaluator's machine is steps of the model's: the items. -/
import Derived.Test.YtcdpmiebmhjmpaaEvWc
namespace Go.Proofs.Ytcdpmiebmhjmpaa.Ev
open Go

section
variable {P : Program} {w0 : Env} {base : List Frame} {B : Base} {R : Bij} {af : AFrame} {rest : List AFrame} {h : AHeap} {fr : Frame} {fs : List Frame} {w : World}

/-- What is shown of each step. -/
def Goes (P : Program) (w0 : Env) (base : List Frame) (m' : AM) (fr : Frame) (cs : List Frame) (w : World) : Prop :=
  ∃ fr' cs' w', Steps P (lone fr cs w) (lone fr' cs' w') ∧ Sim P w0 base m' fr' cs' w'

/-- A running frame, whose first item is none of a drawn region's. -/
structure Plain (P : Program) (w0 : Env) (base : List Frame) (B : Base) (R : Bij) (af : AFrame) (rest : List AFrame) (h : AHeap) (fr : Frame) (fs : List Frame) (w : World) : Prop where
  heap : HRel P B R h w
  base : B.env = w0
  old : Old0 w0.toWorld w
  top : FrameRel P B R rest.length false h af fr
  run : af.mode = .run
  below : StackRel P B R h rest fs

theorem frun (k : Plain P w0 base B R af rest h fr fs w) : fr.mode = .run := by
  have := k.top.mode
  rw [k.run] at this; exact this

/-- It goes on with other items. -/
theorem Plain.to (k : Plain P w0 base B R af rest h fr fs w) {todo : List AItem} {todo' : List Item} (hs : Slots R af.tmps fr.tmps) (ht : All2 (ItemRel R) todo todo') {m : AM} (e : toA af rest h todo = some m)
    (hst : step P (lone fr (fs ++ base) w) = .next (lone { fr with todo := todo' } (fs ++ base) w)) : Goes P w0 base m fr (fs ++ base) w := by
  cases e
  refine ⟨_, _, _, .one hst, B, R, fs, rfl, k.base, k.heap, k.old, ?_, k.below⟩
  obtain ⟨k1, k2, k3, k4, k5, k6, k7, k8, k9⟩ := k.top
  have hm := k.run
  obtain ⟨fn, n, t, td, ds, mode, kind, round⟩ := af
  simp only at hm; subst hm
  exact ⟨k1, k2, k3, k4, k5, k6, k7, k8, todo_plain ht hs⟩

theorem exit_rel : ∀ {k : List AItem} {k' : List Item} {id : Nat}, All2 (ItemRel R) k k' → (∀ q, exitA id k = some q → ∃ q', exitTo id k' = some q' ∧ All2 (ItemRel R) q q') ∧ (exitA id k = none → exitTo id k' = none)
  | [], k', id, hk => by
    cases hk
    exact ⟨fun q e => (by cases e), fun _ => rfl⟩
  | it :: k, k', id, ⟨b, r, e, h1, h2⟩ => by
    subst e
    obtain ⟨g1, g2⟩ := exit_rel (id := id) h2
    cases it with
    | inBlock j =>
      cases h1
      simp only [exitA, exitTo]
      cases hb : Nat.beq j id with
      | true =>
        have := Nat.eq_of_beq_eq_true hb
        rw [if_pos (by simpa using this)]
        exact ⟨fun q e => by cases e; exact ⟨r, rfl, h2⟩, fun e => by cases e⟩
      | false =>
        have : j ≠ id := fun e => by rw [e, Nat.beq_refl] at hb; cases hb
        rw [if_neg (by simpa using this)]
        exact ⟨g1, g2⟩
    | code c => cases h1; exact ⟨g1, g2⟩
    | inLoop c => cases h1; exact ⟨g1, g2⟩
    | inScope c => cases h1; exact ⟨g1, g2⟩
    | ops a l => obtain ⟨_, _, rfl, _⟩ := h1; exact ⟨g1, g2⟩
    | drw a b c => exact absurd h1 (fun e => e)
    | inRange i => obtain ⟨_, _, rfl⟩ := h1; exact ⟨g1, g2⟩
    | endRange i => obtain ⟨_, _, rfl⟩ := h1; exact ⟨g1, g2⟩
    | beginRound => cases h1; exact ⟨g1, g2⟩

theorem goto_rel : ∀ {k : List AItem} {k' : List Item} {l : Nat}, All2 (ItemRel R) k k' → (∀ q, gotoA l k = some q → ∃ q', gotoIn l k' = some q' ∧ All2 (ItemRel R) q q') ∧ (gotoA l k = none → gotoIn l k' = none)
  | [], k', l, hk => by
    cases hk
    exact ⟨fun q e => (by cases e), fun _ => rfl⟩
  | it :: k, k', l, ⟨b, r, e, h1, h2⟩ => by
    subst e
    obtain ⟨g1, g2⟩ := goto_rel (l := l) h2
    cases it with
    | inScope c =>
      cases h1
      simp only [gotoA, gotoIn]
      cases hf : findLabel c l with
      | some q => exact ⟨fun p e => by cases e; exact ⟨_, rfl, _, _, rfl, rfl, _, _, rfl, rfl, h2⟩, fun e => by cases e⟩
      | none => exact ⟨g1, g2⟩
    | code c => cases h1; exact ⟨g1, g2⟩
    | inLoop c => cases h1; exact ⟨g1, g2⟩
    | inBlock c => cases h1; exact ⟨g1, g2⟩
    | ops a l => obtain ⟨_, _, rfl, _⟩ := h1; exact ⟨g1, g2⟩
    | drw a b c => exact absurd h1 (fun e => e)
    | inRange i => obtain ⟨_, _, rfl⟩ := h1; exact ⟨g1, g2⟩
    | endRange i => obtain ⟨_, _, rfl⟩ := h1; exact ⟨g1, g2⟩
    | beginRound => cases h1; exact ⟨g1, g2⟩

end

end Go.Proofs.Ytcdpmiebmhjmpaa.Ev
