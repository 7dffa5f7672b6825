/- What the evaluator's operations say is what the model's do: calls, and each operation. -/
import Derived.Test.YtioijfmamdnhnaaEvO
import Derived.Laws.IdiomStrings
namespace Go.Proofs.Ytioijfmamdnhnaa.Ev
open Go

section
variable {P : Program} {B : Base} {R : Bij} {h : AHeap} {w : World}

theorem valE_inv {v : Option AV} {r : AR} (e : valE h v = some r) : ∃ x, v = some x ∧ r = .val x h := by
  unfold valE at e
  split at e
  · cases e
  · cases e; exact ⟨_, rfl, rfl⟩
theorem valH_inv {v : Option (AV × AHeap)} {r : AR} (e : valH v = some r) : ∃ x h', v = some (x, h') ∧ r = .val x h' := by
  unfold valH at e
  split at e
  · cases e
  · cases e; exact ⟨_, _, rfl, rfl⟩
theorem skipH_inv {v : Option AHeap} {r : AR} (e : skipH v = some r) : ∃ h', v = some h' ∧ r = .skip h' := by
  unfold skipH at e
  split at e
  · cases e
  · cases e; exact ⟨_, rfl, rfl⟩
theorem unitH_inv {v : Option AHeap} {r : AR} (e : unitH v = some r) : ∃ h', v = some h' ∧ r = .val (.tup []) h' := by
  unfold unitH at e
  split at e
  · cases e
  · cases e; exact ⟨_, rfl, rfl⟩
theorem one'_inv {ρ : Operand → Option AV} {x : Operand} {f : AV → Option AR} {r : AR} (e : one' ρ x f = some r) : ∃ a, ρ x = some a ∧ f a = some r := by
  unfold one' at e
  split at e
  · cases e
  · exact ⟨_, by assumption, e⟩
theorem two_inv {ρ : Operand → Option AV} {x y : Operand} {f : AV → AV → Option AR} {r : AR} (e : two ρ x y f = some r) : ∃ a b, ρ x = some a ∧ ρ y = some b ∧ f a b = some r := by
  unfold two at e
  split at e
  · cases e
  · split at e
    · cases e
    · exact ⟨_, _, by assumption, by assumption, e⟩
theorem one1_inv {l : List AV} {x : AV} (e : one1 l = some x) : l = [x] := by
  unfold one1 at e
  split at e
  · cases e; rfl
  · cases e
theorem two1_inv {l : List AV} {x y : AV} (e : two1 l = some (x, y)) : l = [x, y] := by
  unfold two1 at e
  split at e
  · cases e; rfl
  · cases e

theorem opRel_made {s : Sem Value} {v : AV} {h' : AHeap} (e : Made P B R w s v h') : OpRel P B R w (do pure (.value (← s))) (.val v h') := by
  obtain ⟨R', v', w', e1, e2, e3, e4⟩ := e
  exact ⟨R', v', w', by simp [e1], e2, e3, e4⟩

theorem opRel_skip {s : Sem Unit} {h' : AHeap} (e : ∃ w', s.run P w = .ok () w' ∧ HRel P B R h' w' ∧ Keeps R w R w') : OpRel P B R w (do s; pure .skip) (.skip h') := by
  obtain ⟨w', e1, e2, e3⟩ := e
  exact ⟨R, w', by simp [e1], e2, e3⟩

theorem opRel_unit {s : Sem Value} {h' : AHeap} (e : ∃ w', s.run P w = .ok (.tuple #[]) w' ∧ HRel P B R h' w' ∧ Keeps R w R w') : OpRel P B R w (do pure (.value (← s))) (.val (.tup []) h') := by
  obtain ⟨w', e1, e2, e3⟩ := e
  exact ⟨R, .tuple #[], w', by simp [e1], ⟨[], rfl, rfl⟩, e2, e3⟩

/-- An operation, of which all that counts is what its run is. -/
theorem OpRel.congr {s s' : Sem Next} {r : AR} (k : OpRel P B R w s' r) (e : s.run P w = s'.run P w) : OpRel P B R w s r := by
  cases r <;> simpa only [OpRel, e] using k

theorem mapO_rel {ρ : Operand → Option AV} {ρ' : Operand → Value} (hρ : ∀ x v, ρ x = some v → VRel R v (ρ' x)) {l : List Operand} {r : List AV} (e : mapO ρ l = some r) : VRels R r (l.map ρ') :=
  .of_mapO e fun x v hv => hρ x v hv

/-! ## Calls -/

theorem run_mark {α : Type} (m : Mark) (s : Sem α) : (do mark m; s : Sem α).run P w = s.run P w := by
  simp [mark, Sem.run_bind, Sem.run]

theorem callA_sound (k : HRel P B R h w) (_hB : B.n ≤ w.heap.size) {f : FuncId} {args : List AV} {args' : List Value} {r : AR} (e : callA P h f args = some r) (ha : VRels R args args') : OpRel P B R w (callFunc f args'.toArray) r := by
  unfold callA at e
  split at e
  · cases e
  · rename_i fn hfn
    split at e
    · rename_i c hc
      split at e
      · cases e
      · rename_i hn
        cases e
        refine ⟨args', ?_, ha, k⟩
        simp only [callFunc, Sem.run_bind, run_program, Result.andThen_ok, hfn, hn, Bool.false_eq_true, if_false, hc, Option.isNone_some, Sem.run_pure]
    · cases e

theorem callMethodA_sound (k : HRel P B R h w) (hB : B.n ≤ w.heap.size) {x : AV} {x' : Value} {name : String} {args : List AV} {args' : List Value} {r : AR} (e : callMethodA P h x name args = some r) (hx : VRel R x x') (ha : VRels R args args') :
    OpRel P B R w (callMethod x' name args'.toArray) r := by
  unfold callMethodA at e
  split at e
  · rename_i t v
    split at e
    · cases e
    · rename_i f rc hm
      obtain ⟨v', rfl, hv⟩ := hx
      obtain ⟨r', e1, e2⟩ := methodA_sound k hm hv (P.types.size + Made.depth - 1)
      refine (callA_sound k hB e (.cons e2 ha)).congr ?_
      have hd : P.types.size + Made.depth - 1 + 1 = P.types.size + Made.depth := by
        have : 0 < Made.depth := by decide
        omega
      rw [hd] at e1
      simp only [callMethod, Sem.run_bind, run_program, Result.andThen_ok, e1]
      congr 2
      simp
  · cases e

theorem invokeFnA_sound (k : HRel P B R h w) (hB : B.n ≤ w.heap.size) {f : Fn} {args cap : List AV} {args' cap' : List Value} {r : AR} (e : invokeFnA P h f args cap = some r) (ha : VRels R args args') (hc : VRels R cap cap') :
    OpRel P B R w (invoke (.fn f cap'.toArray) args'.toArray) r := by
  unfold invokeFnA at e
  split at e
  · refine (callA_sound k hB e (ha.append hc)).congr ?_
    simp [invoke]
  · split at e
    · cases e
    · obtain ⟨x', r', rfl, hx, hr⟩ := ha
      refine (callMethodA_sound k hB e hx hr).congr ?_
      simp [invoke]
  · split at e
    · cases e
    · split at e
      · cases e
      · rename_i y hy
        obtain ⟨x', r', rfl, hx, hr⟩ := ha
        unfold asIfaceA at hy
        split at hy
        · cases hy
        · rename_i u hu
          split at hy
          · cases hy
            refine (callMethodA_sound k hB e hx hr).congr ?_
            simp [invoke, r_underlying w hu]
          · rename_i hni
            cases hy
            refine (callMethodA_sound k hB e ⟨x', rfl, hx⟩ hr).congr ?_
            simp only [invoke, List.getElem?_toArray, List.getElem?_cons_zero, Sem.run_bind, r_underlying w hu, Result.andThen_ok]
            cases u <;> first
              | exact absurd rfl (hni _)
              | simp
  · cases e

theorem callV_sound (k : HRel P B R h w) (hB : B.n ≤ w.heap.size) {f : AV} {f' : Value} {args : List AV} {args' : List Value} {r : AR} (e : callV P h f args = some r) (hf : VRel R f f') (ha : VRels R args args') :
    OpRel P B R w (do let d ← Deferred.ofValue f' args'.toArray; invoke d.target d.args) r := by
  unfold callV at e
  split at e
  · obtain ⟨hn, fs, cs, rfl, h1, h2⟩ := hf
    refine (invokeFnA_sound k hB e (h1.append ha) h2).congr ?_
    simp [Deferred.ofValue]
  · cases e
    obtain ⟨L, hL, rfl⟩ := hf
    refine ⟨L, args', hL, ha, ?_⟩
    simp [Deferred.ofValue, invoke]
  · cases e

/-! ## Builtins -/

theorem builtinR_sound (k : HRel P B R h w) {b : Builtin} {ats : Array TypeId} {ty : TypeId} {cs : Array Bool} {args : List AV} {args' : List Value} {v : AV} (e : builtinR P h b ats[0]? args = some v) (ha : VRels R args args') :
    OpRel P B R w (builtin b ats ty cs args'.toArray) (.val v h) := by
  unfold builtinR at e
  split at e
  · split at e
    · cases e
    · rename_i t ht
      split at e
      · cases e
      · rename_i x hx
        obtain rfl := one1_inv hx
        obtain ⟨x', ys, rfl, hx', hr⟩ := ha
        cases hr
        unfold lenE at e
        split at e
        · cases e
        · rename_i n hn
          cases e
          exact opRel_val k ⟨_, lenA_sound k hn hx' ht (by simp), rfl⟩
  · split at e
    · cases e
    · rename_i t ht
      split at e
      · cases e
      · rename_i x hx
        obtain rfl := one1_inv hx
        obtain ⟨x', ys, rfl, hx', hr⟩ := ha
        cases hr
        exact opRel_val k (capE_sound w e hx' ht)
  · have := foldE_sound (P := P) (ats := ats) (ty := ty) w e ha
    simp only [if_true] at this
    exact opRel_val k this
  · have := foldE_sound (P := P) (ats := ats) (ty := ty) w e ha
    simp only [Bool.false_eq_true, if_false] at this
    exact opRel_val k this
  · split at e
    · cases e
    · rename_i x hx
      obtain rfl := one1_inv hx
      obtain ⟨x', ys, rfl, hx', hr⟩ := ha
      cases hr
      exact opRel_val k (sliceData_sound w e hx')
  · cases e

theorem builtinE_sound (k : HRel P B R h w) (hB : B.n ≤ w.heap.size) {b : Builtin} {ats : Array TypeId} {ty : TypeId} {cs : Array Bool} {args : List AV} {args' : List Value} {r : AR} (e : builtinE P h b ats[0]? ats[1]? args = some r) (ha : VRels R args args') :
    OpRel P B R w (builtin b ats ty cs args'.toArray) r := by
  unfold builtinE at e
  split at e
  · unfold appendE at e
    split at e
    · cases e
    · rename_i t ht
      split at e
      · cases e
      · rename_i u hu
        split at e
        · cases e
        · rename_i z hz
          split at e
          · cases e
          · rename_i s x hsx
            obtain rfl := two1_inv hsx
            obtain ⟨s', ys, rfl, hs', x', zs, rfl, hx', hr⟩ := ha
            cases hr
            obtain ⟨v, h', e1, rfl⟩ := valH_inv e
            exact opRel_made (appendA_sound k hB e1 ht hu hz hs' hx')
  · split at e
    · cases e; cases ha
      simp only [OpRel, builtin, Sem.run_pure]
    · cases e
  · split at e
    · cases e
    · rename_i t ht
      split at e
      · unfold copyE at e
        split at e
        · cases e
        · rename_i s x hsx
          obtain rfl := two1_inv hsx
          obtain ⟨s', ys, rfl, hs', x', zs, rfl, hx', hr⟩ := ha
          cases hr
          obtain ⟨v, h', e1, rfl⟩ := valH_inv e
          exact opRel_made (copyA_sound k e1 hs' hx' ht)
      · unfold clearE at e
        split at e
        · cases e
        · rename_i x hx
          obtain rfl := one1_inv hx
          obtain ⟨x', ys, rfl, hx', hr⟩ := ha
          cases hr
          obtain ⟨h', e1, rfl⟩ := unitH_inv e
          exact opRel_unit (clearA_sound k e1 hx' ht)
      · unfold deleteE at e
        split at e
        · cases e
        · rename_i s x hsx
          obtain rfl := two1_inv hsx
          obtain ⟨s', ys, rfl, hs', x', zs, rfl, hx', hr⟩ := ha
          cases hr
          obtain ⟨h', e1, rfl⟩ := unitH_inv e
          exact opRel_unit (deleteA_sound k e1 hs' hx' ht)
      · cases e

theorem builtinA_sound (k : HRel P B R h w) (hB : B.n ≤ w.heap.size) {b : Builtin} {ats : Array TypeId} {ty : TypeId} {cs : Array Bool} {args : List AV} {args' : List Value} {r : AR} (e : builtinA P h b ats args = some r) (ha : VRels R args args') :
    OpRel P B R w (builtin b ats ty cs args'.toArray) r := by
  unfold builtinA at e
  split at e
  · obtain ⟨v, e1, rfl⟩ := valE_inv e
    exact builtinR_sound k e1 ha
  · exact builtinE_sound k hB e ha

theorem map_toArray (f : Operand → Value) (a : Array Operand) : a.map f = (a.toList.map f).toArray := by rw [← Array.toList_map, Array.toArray_toList]

theorem callOpA_sound (k : HRel P B R h w) (hB : B.n ≤ w.heap.size) {ρ : Operand → Option AV} {ρ' : Operand → Value} (hρ : ∀ x v, ρ x = some v → VRel R v (ρ' x)) {c : Call} {ty : TypeId} {r : AR} (e : callOpA P ρ h c = some r) :
    OpRel P B R w (do let d ← resolve ρ' c ty; invoke d.target d.args) r := by
  unfold callOpA at e
  split at e
  · cases e
  · rename_i args ha
    have ha := mapO_rel hρ ha
    split at e
    · rename_i b hc
      refine (builtinA_sound (ty := ty) (cs := c.args.map fun | .const _ => true | _ => false) k hB e ha).congr ?_
      simp only [resolve, hc, Sem.run_bind, Sem.run_pure, Result.andThen_ok, invoke, map_toArray ρ']
      rfl
    · rename_i x name hc
      split at e
      · cases e
      · rename_i v hv
        refine (callMethodA_sound k hB e (hρ _ _ hv) ha).congr ?_
        simp only [resolve, hc, Sem.run_bind, Sem.run_pure, Result.andThen_ok, invoke, map_toArray ρ']
        simp
        rw [List.take_of_length_le (by simp)]
    · rename_i f hc
      split at e
      · cases e
      · rename_i v hv
        refine (callV_sound k hB e (hρ _ _ hv) ha).congr ?_
        simp only [resolve, hc, map_toArray ρ']

/-- A string's bytes, as a slice of its own. -/
theorem convNewA_sound (k : HRel P B R h w) (hB : B.n ≤ w.heap.size) {src dst : TypeId} {x v : AV} {x' : Value} {h' : AHeap} (e : convNewA P h src dst x = some (v, h')) (hx : VRel R x x') : Made P B R w (convert src dst x') v h' := by
  unfold convNewA at e
  split at e
  · rename_i hs
    split at e
    · rename_i el hd
      unfold newBytes at e
      split at e
      · rename_i s
        split at e
        · rename_i hc
          obtain ⟨hb, hone⟩ := hc
          cases e
          cases hx
          have hfree := k.fresh h.next (Nat.le_refl _)
          have hsz : (⟨s.toArray⟩ : ByteArray).size = s.length := by simp [ByteArray.size]
          have hrun := run_bytes_of_string (P := P) w src dst el ⟨s.toArray⟩ hs hd (isByteT_sound hb)
          have hge := grownCap_ge w (⟨s.toArray⟩ : ByteArray).size 0 el
          generalize hcap : grownCap w (⟨s.toArray⟩ : ByteArray).size 0 el = cap at hrun hge
          have hrow : (bytesRow ⟨s.toArray⟩ cap).size = cap := by simp [bytesRow]; omega
          have hbl : (byteCells s).length = s.length := by simp [byteCells]
          rw [hsz] at hge
          have hn := k.new hB (.cells (storeList .leaf 0 (byteCells s)) (byteCells s).length el 0 0 1 0 true .leaf)
            (.cells (bytesRow ⟨s.toArray⟩ cap) el ((bytesRow ⟨s.toArray⟩ cap).size, (bytesRow ⟨s.toArray⟩ cap).size + 1)) ⟨w.heap.size, 0, cap⟩ (w' := w.drew.alloc (.cells (bytesRow ⟨s.toArray⟩ cap) el ((bytesRow ⟨s.toArray⟩ cap).size, (bytesRow ⟨s.toArray⟩ cap).size + 1))) rfl rfl rfl rfl rfl ?_
          · refine ⟨_, _, _, hrun, ?_, hn.1, hn.2⟩
            rw [hsz]
            exact new_slg R hge
          · refine ⟨Nat.le_refl _, by omega, fun r hr' => ?_, fun r e h1 h2 h3 => ?_, fun r e h1 h2 h3 => ?_⟩
            rotate_left 2
            · obtain rfl : r = 0 := by omega
              simp [extOf] at h3; omega
            · rw [R.upd_other _ (by omega)]; exact hfree r
            · obtain rfl : r = 0 := by omega
              simp [extOf] at h3; subst h3
              refine ⟨_, R.upd_same _ _ _, bytesRow ⟨s.toArray⟩ cap, (bytesRow ⟨s.toArray⟩ cap).size, (bytesRow ⟨s.toArray⟩ cap).size + 1, ?_, by rw [hrow, hbl]; omega, ?_, fun j a b => Or.inr ⟨rfl, by omega⟩, fun j x a _ c => ?_⟩
              · show (w.heap.push _)[w.heap.size]? = _; simp
              · rw [hone, hrow]; show cap * 1 = cap + 0; omega
              · rw [storeList_get] at c
                simp only [Nat.zero_le, true_and, Nat.zero_add, Nat.sub_zero] at c ⊢
                rw [if_pos a] at c
                have hj : j < s.length := by omega
                simp only [byteCells, List.getElem?_map, List.getElem?_eq_getElem hj, Option.map_some, Option.some.injEq] at c
                subst c
                refine ⟨.int .u8 (s[j].toNat), ?_, rfl⟩
                rw [bytesRow, Array.getElem?_append, if_pos (by simpa using hj)]
                simp [hj]
        · cases e
      · cases e
    · cases e
  · cases e

theorem deferA_sound {ρ : Operand → Option AV} {ρ' : Operand → Value} (hρ : ∀ x v, ρ x = some v → VRel R v (ρ' x)) {c : Call} {ty : TypeId} {r : AR} (e : deferA ρ c = some r) :
    OpRel P B R w (do pure (.defer (← resolve ρ' c ty))) r := by
  unfold deferA at e
  split at e
  · cases e
  · rename_i args ha
    have ha := mapO_rel hρ ha
    split at e
    · rename_i f hc
      split at e
      · rename_i f fs cap hv
        cases e
        obtain ⟨hn, a, b, hf, h1, h2⟩ := hρ _ _ hv
        refine ⟨{ target := .fn f b.toArray, args := a.toArray ++ (c.args.toList.map ρ').toArray }, ?_, ⟨hn, b, rfl, h2⟩, ?_⟩
        · simp only [resolve, hc, hf, Deferred.ofValue, Sem.run_bind, Sem.run_pure, Result.andThen_ok, map_toArray ρ']
        · simpa using h1.append ha
      · cases e
    · rename_i x name hc
      split at e
      · cases e
      · rename_i v hv
        cases e
        refine ⟨{ target := .fn (.method name) #[], args := #[ρ' x] ++ (c.args.toList.map ρ').toArray }, ?_, ⟨by simp, [], rfl, rfl⟩, ?_⟩
        · simp only [resolve, hc, Sem.run_bind, Sem.run_pure, Result.andThen_ok, map_toArray ρ']
        · simpa using VRels.cons (hρ _ _ hv) ha
    · cases e

end

end Go.Proofs.Ytioijfmamdnhnaa.Ev
