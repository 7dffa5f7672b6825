/- Runs in which values are open: commands, what has to be shown, and that it suffices. -/
import Derived.Test.YtmnelckaighmkaaEvSd
namespace Go.Proofs.Ytmnelckaighmkaa.Ev
open Go

noncomputable section
variable (P : Program)

/-! ## Commands -/

inductive Cmd where
  /-- So many steps. -/
  | run (n : Nat)
  /-- A condition, or a guard, is that. -/
  | br (b : Bool)
  /-- A slot's truth value, or value, is that. -/
  | know (u : Nat) (b : Bool)
  | slot (u : Nat) (v : AV)
  /-- An operation on what is open. -/
  | op
  /-- The operation comes to that. -/
  | res (r : AR)
  /-- A step at whose end a region's reads are held again. -/
  | step
  /-- Names given anew. -/
  | can (keep : Nat) (ids us : List Nat) (uss : List (List Nat))
  /-- Some slots alone. -/
  | keep (us : List Nat)
  /-- A call by what is known of it: one that takes and answers no memory. -/
  | call (us : List Nat) (Q : AV → Prop)
  /-- The same, where it answers v. -/
  | callv (us : List Nat) (v : AV)
  /-- A call that is handed memory, by what is known of it. -/
  | callh (l : List (Nat × Nat × List Nat)) (us : List Nat) (v : AV) (H : AHeap)
  | done

def cmdK (f0 : FuncId) (Q : AV → AHeap → Prop) (keep : Nat) (c : Cmd) (m : AM) (K : AM → Prop) : Prop := match c with
  | .run n => optK (runN P n m) K
  | .br b => Br b m K
  | .know u b => Know u b m K
  | .slot u v => Slot u v m K
  | .op => OpK P m K
  | .res x => ResK P x m K
  | .step => StepK P m K
  | .keep us => KeepK us m K
  | .can k ids us uss => bif Nat.ble keep k then CanP k ids us uss m K else False
  | .call us q => CallK P us q m K
  | .callv us v => CallV P us v m K
  | .callh l us v H => CallH P l us v H m K
  | .done => DoneK P f0 Q m

/-- What has to be shown. -/
def Obl (f0 : FuncId) (Q : AV → AHeap → Prop) (keep : Nat) (K : AM → Prop) (l : List Cmd) : AM → Prop :=
  List.rec (motive := fun _ => AM → Prop) K (fun c _ ih m => cmdK P f0 Q keep c m ih) l

end

section
variable {P : Program}

theorem Obl.goal (hmix : P.follows .mixedOrders = true) {f0 : FuncId} {Q : AV → AHeap → Prop} {keep : Nat} {K : AM → Prop} (hK : ∀ m, K m → Goal P keep f0 Q m) : ∀ {l : List Cmd} {m : AM}, Obl P f0 Q keep K l m → Goal P keep f0 Q m
  | [], m, e => hK m e
  | c :: r, m, e => by
    have ih := fun m (e : Obl P f0 Q keep K r m) => Obl.goal hmix hK (l := r) (m := m) e
    cases c with
    | run n =>
      obtain ⟨m', h1, h2⟩ := optK_some e
      exact .runN hmix h1 (ih _ h2)
    | br b =>
      obtain ⟨fr, rest, h⟩ := m
      change Br b ⟨fr, rest, h⟩ (Obl P f0 Q keep K r) at e
      unfold Br at e
      simp only at e
      split at e
      rotate_left
      · exact e.elim
      rename_i hm
      split at e
      rotate_left
      · exact e.elim
      rename_i c x y k htodo
      split at e
      rotate_left
      · exact e.elim
      rename_i t ht
      obtain ⟨rfl, e⟩ := e
      refine .step hmix ?_ (ih _ e)
      simp only [stepA, hm, execA, htodo]
      show condA fr rest h x y k (ev fr.tmps c) = _
      rw [ht]
      cases t <;> rfl
    | know u b =>
      obtain ⟨⟨fn, n, t, todo, ds, mode, kind, round⟩, rest, h⟩ := m
      change Know u b ⟨⟨fn, n, t, todo, ds, mode, kind, round⟩, rest, h⟩ (Obl P f0 Q keep K r) at e
      unfold Know at e
      simp only at e
      split at e
      · rename_i c hc
        obtain ⟨rfl, e⟩ := e
        rw [T.set_same' hc] at e
        exact ih _ e
      · exact e.elim
    | slot u v =>
      obtain ⟨⟨fn, n, t, todo, ds, mode, kind, round⟩, rest, h⟩ := m
      change Slot u v ⟨⟨fn, n, t, todo, ds, mode, kind, round⟩, rest, h⟩ (Obl P f0 Q keep K r) at e
      unfold Slot at e
      simp only at e
      split at e
      · rename_i c hc
        obtain ⟨rfl, e⟩ := e
        rw [T.set_same' hc] at e
        exact ih _ e
      · exact e.elim
    | op =>
      obtain ⟨fr, rest, h⟩ := m
      change OpK P ⟨fr, rest, h⟩ (Obl P f0 Q keep K r) at e
      unfold OpK at e
      simp only at e
      split at e
      rotate_left
      · exact e.elim
      rename_i hm
      split at e
      · exact e.elim
      rename_i all o ho
      split at e
      rotate_left
      · exact e.elim
      rename_i hw
      split at e
      · exact e.elim
      rename_i ar p hop
      obtain ⟨hp, e⟩ := e
      obtain ⟨m', h1, h2⟩ := Upon_some e
      refine .step hmix ?_ (ih _ h2)
      rw [topOp_step hm ho]
      simp only [operA, hw, opS_ok hop hp, uponO, h1]
    | res x =>
      obtain ⟨fr, rest, h⟩ := m
      change ResK P x ⟨fr, rest, h⟩ (Obl P f0 Q keep K r) at e
      unfold ResK at e
      simp only at e
      split at e
      rotate_left
      · exact e.elim
      rename_i hm
      split at e
      · exact e.elim
      rename_i all o ho
      split at e
      rotate_left
      · exact e.elim
      rename_i hw
      obtain ⟨hp, e⟩ := e
      obtain ⟨m', h1, h2⟩ := Upon_some e
      refine .step hmix ?_ (ih _ h2)
      rw [topOp_step hm ho]
      simp only [operA, hw, hp, uponO, h1]
    | step =>
      obtain ⟨fr, rest, h⟩ := m
      change StepK P ⟨fr, rest, h⟩ (Obl P f0 Q keep K r) at e
      unfold StepK at e
      simp only at e
      split at e
      · rename_i hm
        split at e
        · exact e.elim
        rename_i all o ho
        split at e
        rotate_left
        · exact e.elim
        rename_i hw
        obtain ⟨ar, hr, e⟩ := optK_some e
        obtain ⟨m', h1, h2⟩ := Upon_some e
        refine .step hmix ?_ (ih _ h2)
        rw [topOp_step hm ho]
        simp only [operA, hw, hr, uponO, h1]
      · rename_i hm
        split at e
        rotate_left
        · exact e.elim
        rename_i hdef
        split at e
        rotate_left
        · exact e.elim
        rename_i hkind
        split at e
        · exact e.elim
        rename_i c r'
        split at e
        rotate_left
        · exact e.elim
        rename_i hcm
        obtain ⟨v, hv, e⟩ := optK_some e
        obtain ⟨c', h1, h2⟩ := Fin_some e
        refine .step hmix ?_ (ih _ h2)
        simp only [stepA, hm, unwindA, hdef, hv, returnO, hkind, returnA, hcm, h1, topM]
      · exact e.elim
    | keep us => exact KeepK_goal e ih
    | can k ids us uss =>
      change (bif Nat.ble keep k then CanP k ids us uss m (Obl P f0 Q keep K r) else False) at e
      cases hb : Nat.ble keep k with
      | false => rw [hb] at e; exact e.elim
      | true =>
        rw [hb] at e
        exact CanP_goal (Nat.le_of_ble_eq_true hb) e ih
    | call us q => exact CallK_goal e ih
    | callv us v => exact CallK_goal (CallV_call e) ih
    | callh l us v H => exact CallH_goal e ih
    | done => exact DoneK_goal e

end

end Go.Proofs.Ytmnelckaighmkaa.Ev
