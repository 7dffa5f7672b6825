/- A step of the evaluator's machine is steps of the model's: operations. -/
import Derived.Test.YtcdpmiebmhjmpaaEvWe
namespace Go.Proofs.Ytcdpmiebmhjmpaa.Ev
open Go

section
variable {P : Program} {w0 : Env} {base : List Frame} {B : Base} {R : Bij} {af : AFrame} {rest : List AFrame} {h : AHeap} {fr : Frame} {fs : List Frame} {w : World}

theorem wrun (k : Wait P w0 base B R af rest h fr fs w) : fr.mode = .run := by
  have := k.top.mode
  rw [k.run] at this; exact this

theorem opA_defer {ρ : Operand → Option AV} {c : Call} {r : AR} (e : opA P ρ h (.defer c) = some r) : ∃ d, r = .dfr d := by
  change deferA ρ c = some r at e
  unfold deferA at e
  split at e
  · cases e
  · split at e
    · split at e
      · cases e; exact ⟨_, rfl⟩
      · cases e
    · split at e
      · cases e
      · cases e; exact ⟨_, rfl⟩
    · cases e

theorem valE_dfr {v : Option AV} {d : ADef} (e : valE h v = some (.dfr d)) : False := by obtain ⟨x, _, e2⟩ := valE_inv e; cases e2
theorem valH_dfr {v : Option (AV × AHeap)} {d : ADef} (e : valH v = some (.dfr d)) : False := by obtain ⟨x, y, _, e2⟩ := valH_inv e; cases e2
theorem skipH_dfr {v : Option AHeap} {d : ADef} (e : skipH v = some (.dfr d)) : False := by obtain ⟨x, _, e2⟩ := skipH_inv e; cases e2
theorem unitH_dfr {v : Option AHeap} {d : ADef} (e : unitH v = some (.dfr d)) : False := by obtain ⟨x, _, e2⟩ := unitH_inv e; cases e2

theorem callA_dfr {f : FuncId} {args : List AV} {d : ADef} (e : callA P h f args = some (.dfr d)) : False := by
  unfold callA at e
  split at e
  · cases e
  · split at e
    · split at e <;> cases e
    · unfold externA extNoEscape extCmp extIndexByte extCount extMakeNoZero extTypeOf extComparable extMore extLoad extStore extCas extAdd extMarkAt extMark extSet at e
      repeat' split at e
      all_goals cases e

theorem callMethodA_dfr {x : AV} {name : String} {args : List AV} {d : ADef} (e : callMethodA P h x name args = some (.dfr d)) : False := by
  unfold callMethodA at e
  split at e
  · split at e
    · cases e
    · exact callA_dfr e
  · cases e

theorem builtinA_dfr {b : Builtin} {ats : Array TypeId} {args : List AV} {d : ADef} (e : builtinA P h b ats args = some (.dfr d)) : False := by
  unfold builtinA at e
  split at e
  · exact valE_dfr e
  · unfold builtinE appendE copyE clearE deleteE unsafeE at e
    repeat' split at e
    all_goals first
      | cases e; done
      | exact valH_dfr e
      | exact unitH_dfr e

theorem callOpA_dfr {ρ : Operand → Option AV} {c : Call} {d : ADef} (e : callOpA P ρ h c = some (.dfr d)) : False := by
  unfold callOpA at e
  split at e
  · cases e
  · split at e
    · exact builtinA_dfr e
    · split at e
      · cases e
      · exact callMethodA_dfr e
    · split at e
      · cases e
      · unfold callV at e
        split at e
        · unfold invokeFnA at e
          repeat' split at e
          all_goals first
            | exact callA_dfr e
            | exact callMethodA_dfr e
            | cases e
        · cases e
        · cases e

theorem opA_dfr {ρ : Operand → Option AV} {op : Op} {d : ADef} (e : opA P ρ h op = some (.dfr d)) : ∃ c, op = .defer c := by
  cases op with
  | «defer» c => exact ⟨c, rfl⟩
  | call c => exact absurd (callOpA_dfr (show callOpA P ρ h c = _ from e)) id
  | next it s =>
    exfalso
    obtain ⟨a, _, e⟩ := one'_inv (show one' ρ it _ = _ from e)
    unfold nextA nextAt at e
    repeat' split at e
    all_goals cases e
  | range t x =>
    exfalso
    obtain ⟨a, _, e⟩ := one'_inv (show one' ρ x _ = _ from e)
    unfold rangeA at e
    repeat' split at e
    all_goals cases e
  | panic x =>
    exfalso
    obtain ⟨a, _, e⟩ := one'_inv (show one' ρ x _ = _ from e)
    unfold panicA at e
    split at e <;> cases e
  | makeMap t r =>
    exfalso
    change mkMapA P ρ h t r = _ at e
    unfold mkMapA at e
    repeat' split at e
    all_goals cases e
  | convert s d x =>
    exfalso
    obtain ⟨a, _, e⟩ := one'_inv (show one' ρ x _ = _ from e)
    unfold convE at e
    split at e
    · exact valH_dfr e
    · exact valE_dfr e
  | alloc t =>
    exfalso
    change allocA P h t (zeroA P t) = _ at e
    unfold allocA at e
    split at e
    · cases e
    · exact valH_dfr e
  | build t parts =>
    exfalso
    change buildE P h t (partsA ρ parts.toList) = _ at e
    unfold buildE at e
    split at e
    · cases e
    · exact valE_dfr e
  | buildSlice t n parts =>
    exfalso
    change buildSliceE P h t n (partsA ρ parts.toList) = _ at e
    unfold buildSliceE at e
    split at e
    · cases e
    · exact valH_dfr e
  | insert t m k x =>
    exfalso
    change mapPutE P ρ h t m k x = _ at e
    unfold mapPutE at e
    repeat' split at e
    all_goals first | exact skipH_dfr e | cases e
  | mapUpdate t m k x =>
    exfalso
    change mapPutE P ρ h t m k x = _ at e
    unfold mapPutE at e
    repeat' split at e
    all_goals first | exact skipH_dfr e | cases e
  | entryStore t m s x =>
    exfalso
    change entryPutE ρ h m s x = _ at e
    unfold entryPutE at e
    repeat' split at e
    all_goals first | exact skipH_dfr e | cases e
  | mapEntry t x y => obtain ⟨a, b, _, _, e⟩ := two_inv (show two ρ x y _ = _ from e); exact absurd (valH_dfr e) id
  | move x => exact absurd (valE_dfr (show valE h _ = _ from e)) id
  | assign x => exact absurd (valE_dfr (show valE h _ = _ from e)) id
  | pick c a b => exact absurd (valE_dfr (show valE h _ = _ from e)) id
  | makeFunc f a b => exact absurd (valE_dfr (show valE h _ = _ from e)) id
  | slice t x a b c => exact absurd (valE_dfr (show valE h _ = _ from e)) id
  | extract x i => exact absurd (valE_dfr (show valE h _ = _ from e)) id
  | box t x => obtain ⟨a, _, e⟩ := one'_inv (show one' ρ x _ = _ from e); exact absurd (valH_dfr e) id
  | load t x => obtain ⟨a, _, e⟩ := one'_inv (show one' ρ x _ = _ from e); exact absurd (valE_dfr e) id
  | nilCheck x => obtain ⟨a, _, e⟩ := one'_inv (show one' ρ x _ = _ from e); exact absurd (valE_dfr e) id
  | unOp o t x => obtain ⟨a, _, e⟩ := one'_inv (show one' ρ x _ = _ from e); exact absurd (valE_dfr e) id
  | makeInterface t x => obtain ⟨a, _, e⟩ := one'_inv (show one' ρ x _ = _ from e); exact absurd (valE_dfr e) id
  | fieldAddr t x f => obtain ⟨a, _, e⟩ := one'_inv (show one' ρ x _ = _ from e); exact absurd (valE_dfr e) id
  | field t x f => obtain ⟨a, _, e⟩ := one'_inv (show one' ρ x _ = _ from e); exact absurd (valE_dfr e) id
  | typeAssert x t u k => obtain ⟨a, _, e⟩ := one'_inv (show one' ρ x _ = _ from e); exact absurd (valE_dfr e) id
  | store t x y => obtain ⟨a, b, _, _, e⟩ := two_inv (show two ρ x y _ = _ from e); exact absurd (skipH_dfr e) id
  | binOp o t x y u => obtain ⟨a, b, _, _, e⟩ := two_inv (show two ρ x y _ = _ from e); exact absurd (valE_dfr e) id
  | makeSlice t x y => obtain ⟨a, b, _, _, e⟩ := two_inv (show two ρ x y _ = _ from e); exact absurd (valH_dfr e) id
  | indexAddr t x y => obtain ⟨a, b, _, _, e⟩ := two_inv (show two ρ x y _ = _ from e); exact absurd (valE_dfr e) id
  | index t x y => obtain ⟨a, b, _, _, e⟩ := two_inv (show two ρ x y _ = _ from e); exact absurd (valE_dfr e) id
  | lookup t x y k => obtain ⟨a, b, _, _, e⟩ := two_inv (show two ρ x y _ = _ from e); exact absurd (valE_dfr e) id
  | _ => cases (show (none : Option AR) = _ from e)

theorem recover_sim (k : Wait P w0 base B R af rest h fr fs w) {s : Sem Next} {m : AM} (hop : OpRel P B R w s .recover)
    (hst : (stepG P true { frame := fr, callers := fs ++ base, status := .running, dying := none } w).bare = (stepG.apply P true fr (fs ++ base) none s w).bare) (e : recoverA P af rest h = some m) : Goes P w0 base m fr (fs ++ base) w := by
  have hop : s.run P w = .ok .recover w := hop
  unfold recoverA at e
  split at e
  · cases e
  · rename_i hrd
    have hfr : fr.roundOf = none := by have := k.top.round; rw [hrd] at this; exact this
    split at e
    · rename_i hkd
      have hkf : fr.kind = .deferred := k.top.kind.trans hkd
      split at e
      · cases e
      · rename_i c r
        obtain ⟨f, fs', rfl, kf, kr⟩ := k.below
        unfold recoverIn at e
        split at e
        · rename_i v older hm
          obtain ⟨a, e1, rfl⟩ := topM_some e
          have hmode := kf.mode
          rw [hm] at hmode
          obtain ⟨ch', hfm, x', older', rfl, hx, hold⟩ := hmode
          obtain ⟨y1, y2, y3⟩ := x'
          obtain ⟨hx1, hx2, hx3⟩ := hx
          simp only at hx1 hx2 hx3
          subst hx2 hx3
          refine ⟨_, _, _, .one (step_lone_go (fr' := fr.finish y1) (cs' := { f with mode := .panicking ({ v := y1, recovered := true } :: older') } :: (fs' ++ base)) (w' := w) ?_), B, R, { f with mode := .panicking ({ v := y1, recovered := true } :: older') } :: fs', rfl, k.base, k.heap, k.old, finish_sound k.top k.run e1 hx1, _, _, rfl, ?_, kr⟩
          · rw [hst]
            simp [stepG.apply, Sem.runT_eq, hop, hfr, tryRecover, hkf, hfm]
          · obtain ⟨k1, k2, k3, k4, k5, k6, k7, k8, k9⟩ := kf
            obtain ⟨fn, n, t, td, ds0, mode, kind, round⟩ := c
            simp only at hm; subst hm
            exact ⟨k1, k2, k3, k4, k5, k6, ⟨_, rfl, _, _, rfl, ⟨hx1, rfl, rfl⟩, hold⟩, k8, k9⟩
        · rename_i hno
          obtain ⟨a, e1, rfl⟩ := topM_some e
          have hmode := kf.mode
          have hnone : tryRecover fr (f :: (fs' ++ base)) = none := by
            unfold tryRecover
            rw [hkf]
            simp only []
            cases hm : c.mode with
            | run => rw [hm] at hmode; rw [show f.mode = .run from hmode]
            | returning => rw [hm] at hmode; rw [show f.mode = .returning from hmode]
            | panicking ch =>
              rw [hm] at hmode
              obtain ⟨ch', hfm, hc⟩ := hmode
              rw [hfm]
              cases ch with
              | nil => cases hc; rfl
              | cons x older =>
                obtain ⟨x', older', rfl, hx, hold⟩ := hc
                obtain ⟨x1, x2⟩ := x
                cases x2 with
                | false => exact absurd hm (hno _ _)
                | true =>
                  obtain ⟨y1, y2, y3⟩ := x'
                  obtain ⟨hx1, hx2, hx3⟩ := hx
                  simp only at hx2 hx3
                  subst hx2 hx3
                  rfl
          refine ⟨_, _, _, .one (step_lone_go (fr' := fr.finish .nilIface) (cs' := f :: (fs' ++ base)) (w' := w) ?_), B, R, f :: fs', rfl, k.base, k.heap, k.old, finish_sound k.top k.run e1 rfl, f, fs', rfl, kf, kr⟩
          rw [hst]
          simp [stepG.apply, Sem.runT_eq, hop, hfr, hnone]
    · cases e

/-- An operation that acts, or one of a region in the text's order. -/
theorem oper_sim [XT P] [XTOk P] (k : Wait P w0 base B R af rest h fr fs w) {ops : Array Oper} {i : Nat} {s' : List Nat} {k' : List Item} (ht : fr.todo = .inRegion ops (i :: s') :: k') {o : Oper} (ho : ops[i]? = some o)
    (hops : ∀ x ∈ o.op.operands, ∀ v, ev af.tmps x = some v → VRel R v (fr.eval x))
    (hgu : ∀ g b q u v, o.guard = some (g, b) → ops[g]? = some q → q.dst = some u → af.tmps.get u = some v → ∃ x, fr.tmps[u]? = some x ∧ VRel R v x)
    {m : AM} (e : operA P af rest h ops.toList o = some m) : Goes P w0 base m fr (fs ++ base) w := by
  have hm := wrun k
  unfold operA at e
  split at e
  · cases e
  · rename_i wt hwt
    have hw := wanted_rel hwt hgu
    split at e
    · exact ⟨_, _, _, .one (step_unwanted hm ht ho hw), k.got (v := undefA) (x := undef) ⟨[], rfl, rfl⟩ k.heap (Keeps.refl _ _) e⟩
    · unfold uponO at e
      split at e
      · cases e
      · rename_i r hr
        have hop := opA_at k.heap k.room hops hr
        have hoper : (stepG P true { frame := fr, callers := fs ++ base, status := .running, dying := none } w) = stepG.oper P true fr (fs ++ base) none w := by
          simp only [stepG, stepG.exec, hm, ht, ho, hw, Option.map_some, Option.getD_some, if_true]
        by_cases hdf : ∃ c, o.op = .defer c
        · obtain ⟨c, hc⟩ := hdf
          obtain ⟨d, rfl⟩ := opA_defer (by rw [hc] at hr; exact hr)
          change deferA' P af rest h d = some m at e
          unfold deferA' at e
          split at e
          · rename_i hrd
            have hfr : fr.roundOf = none := by have := k.top.round; rw [hrd] at this; exact this
            obtain ⟨d', r1, r2⟩ := hop
            have hst : (stepG P true { frame := fr, callers := fs ++ base, status := .running, dying := none } w) = stepG.apply P true fr (fs ++ base) none (execOp fr.eval o) w := by
              rw [hoper]
              simp only [stepG.oper, Frame.oper?, ht, ho, hfr]
            obtain ⟨a, e1, rfl⟩ := topM_some e
            refine ⟨_, _, _, .one (step_lone_go (fr' := ({ fr with defers := d' :: fr.defers } : Frame).finish undef) (cs' := fs ++ base) (w' := w) (by rw [hst]; simp [stepG.apply, Sem.runT_eq, r1])), B, R, fs, rfl, k.base, k.heap, k.old, ?_, k.below⟩
            refine finish_sound (h0 := h) (v := undefA) ?_ ?_ e1 ⟨[], rfl, rfl⟩
            · obtain ⟨k1, k2, k3, k4, k5, k6, k7, k8, k9⟩ := k.top
              obtain ⟨fn, n, t, td, ds, mode, kind, round⟩ := af
              exact ⟨k1, k2, k3, k4, k5, ⟨_, _, rfl, r2, k6⟩, k7, k8, k9⟩
            · have := k.run
              obtain ⟨fn, n, t, td, ds, mode, kind, round⟩ := af
              exact this
          · cases e
        · have hst : (stepG P true { frame := fr, callers := fs ++ base, status := .running, dying := none } w) = stepG.apply P true fr (fs ++ base) none (execOp fr.eval o) w := by
            rw [hoper]
            simp only [stepG.oper, Frame.oper?, ht, ho]
            split
            · rename_i _ c _ hc
              exact absurd ⟨c, hc⟩ hdf
            · rfl
          cases r with
          | round l args => exact round_sim k hop (by rw [hst]) e
          | dfr d =>
            exact absurd (opA_dfr hr) hdf
          | recover => exact recover_sim k hop (by rw [hst]) e
          | val v h' => obtain ⟨a, b, c, h1, h2⟩ := upon_sim k hop (by simp) (by simp) (by simp) (by rw [hst]) ⟨_, _, _, _, ht⟩ e; exact ⟨a, b, c, h1, h2⟩
          | skip h' => obtain ⟨a, b, c, h1, h2⟩ := upon_sim k hop (by simp) (by simp) (by simp) (by rw [hst]) ⟨_, _, _, _, ht⟩ e; exact ⟨a, b, c, h1, h2⟩
          | enter f as h' => obtain ⟨a, b, c, h1, h2⟩ := upon_sim k hop (by simp) (by simp) (by simp) (by rw [hst]) ⟨_, _, _, _, ht⟩ e; exact ⟨a, b, c, h1, h2⟩
          | panic v => obtain ⟨a, b, c, h1, h2⟩ := upon_sim k hop (by simp) (by simp) (by simp) (by rw [hst]) ⟨_, _, _, _, ht⟩ e; exact ⟨a, b, c, h1, h2⟩

end

end Go.Proofs.Ytcdpmiebmhjmpaa.Ev
