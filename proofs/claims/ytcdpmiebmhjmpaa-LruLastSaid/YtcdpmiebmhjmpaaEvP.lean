/- What the evaluator's operations say is what the model's do: calls, and each operation. -/
import Derived.Test.YtcdpmiebmhjmpaaEvO
import Derived.Laws.IdiomStrings
import Derived.Laws.Externs
import Derived.Lib.Bytealg
import Derived.Lib.MakeNoZero
import Derived.Lib.UnsafeStr
namespace Go.Proofs.Ytcdpmiebmhjmpaa.Ev
open Go

section
variable {P : Program} {B : Base} {R : Bij} {h : AHeap} {w : World}

theorem valE_inv {v : Option AV} {r : AR} (e : valE h v = some r) : ∃ x, v = some x ∧ r = .val x h := by
  unfold valE at e
  split at e
  · cases e
  · cases e; exact ⟨_, rfl, rfl⟩
theorem valH_inv {v : Option (AV × AHeap)} {r : AR} (e : valH v = some r) : ∃ x h', v = some (x, h') ∧ r = .val x h' := by
  unfold valH at e
  split at e
  · cases e
  · cases e; exact ⟨_, _, rfl, rfl⟩
theorem skipH_inv {v : Option AHeap} {r : AR} (e : skipH v = some r) : ∃ h', v = some h' ∧ r = .skip h' := by
  unfold skipH at e
  split at e
  · cases e
  · cases e; exact ⟨_, rfl, rfl⟩
theorem unitH_inv {v : Option AHeap} {r : AR} (e : unitH v = some r) : ∃ h', v = some h' ∧ r = .val (.tup []) h' := by
  unfold unitH at e
  split at e
  · cases e
  · cases e; exact ⟨_, rfl, rfl⟩
theorem one'_inv {ρ : Operand → Option AV} {x : Operand} {f : AV → Option AR} {r : AR} (e : one' ρ x f = some r) : ∃ a, ρ x = some a ∧ f a = some r := by
  unfold one' at e
  split at e
  · cases e
  · exact ⟨_, by assumption, e⟩
theorem two_inv {ρ : Operand → Option AV} {x y : Operand} {f : AV → AV → Option AR} {r : AR} (e : two ρ x y f = some r) : ∃ a b, ρ x = some a ∧ ρ y = some b ∧ f a b = some r := by
  unfold two at e
  split at e
  · cases e
  · split at e
    · cases e
    · exact ⟨_, _, by assumption, by assumption, e⟩
theorem one1_inv {l : List AV} {x : AV} (e : one1 l = some x) : l = [x] := by
  unfold one1 at e
  split at e
  · cases e; rfl
  · cases e
theorem two1_inv {l : List AV} {x y : AV} (e : two1 l = some (x, y)) : l = [x, y] := by
  unfold two1 at e
  split at e
  · cases e; rfl
  · cases e

theorem opRel_made {s : Sem Value} {v : AV} {h' : AHeap} (e : Made P B R w s v h') : OpRel P B R w (do pure (.value (← s))) (.val v h') := by
  obtain ⟨R', v', w', e1, e2, e3, e4⟩ := e
  exact ⟨R', v', w', by simp [e1], e2, e3, e4⟩

theorem opRel_skip {s : Sem Unit} {h' : AHeap} (e : ∃ w', s.run P w = .ok () w' ∧ HRel P B R h' w' ∧ Keeps R w R w') : OpRel P B R w (do s; pure .skip) (.skip h') := by
  obtain ⟨w', e1, e2, e3⟩ := e
  exact ⟨R, w', by simp [e1], e2, e3⟩

theorem opRel_unit {s : Sem Value} {h' : AHeap} (e : ∃ w', s.run P w = .ok (.tuple #[]) w' ∧ HRel P B R h' w' ∧ Keeps R w R w') : OpRel P B R w (do pure (.value (← s))) (.val (.tup []) h') := by
  obtain ⟨w', e1, e2, e3⟩ := e
  exact ⟨R, .tuple #[], w', by simp [e1], ⟨[], rfl, rfl⟩, e2, e3⟩

/-- An operation, of which all that counts is what its run is. -/
theorem OpRel.congr {s s' : Sem Next} {r : AR} (k : OpRel P B R w s' r) (e : s.run P w = s'.run P w) : OpRel P B R w s r := by
  cases r <;> simpa only [OpRel, e] using k

theorem mapO_rel {ρ : Operand → Option AV} {ρ' : Operand → Value} (hρ : ∀ x v, ρ x = some v → VRel R v (ρ' x)) {l : List Operand} {r : List AV} (e : mapO ρ l = some r) : VRels R r (l.map ρ') :=
  .of_mapO e fun x v hv => hρ x v hv

/-! ## Calls -/

theorem run_mark {α : Type} (m : Mark) (s : Sem α) : (do mark m; s : Sem α).run P w = s.run P w := by
  simp [mark, Sem.run_bind, Sem.run]

/-- What the model stands in for. -/
theorem find_extern {fn : Func} {n : String} {e : Array Value → Sem Value} (hn : fn.name = n) (ho : fn.origin = "") (h1 : Extern.allGenericRows.lookup n = none) (h2 : Extern.allTypedRows.lookup n = none) (h3 : Extern.allRows.lookup n = some e)
    (h4 : Extern.allNextRows.lookup n = none) (h5 : Extern.allNextRows.lookup "" = none) : Extern.find fn = some e ∧ Extern.findNext fn = none := by
  constructor
  · unfold Extern.find
    simp only [hn, h1, h2, h3]
    rfl
  · unfold Extern.findNext
    simp only [hn, ho, h4, h5]
    rfl

theorem find_typed {fn : Func} {n : String} {e : Array TypeId → Array TypeId → Array Value → Sem Value} (hn : fn.name = n) (ho : fn.origin = "") (h1 : Extern.allGenericRows.lookup n = none) (h2 : Extern.allTypedRows.lookup n = some e)
    (h4 : Extern.allNextRows.lookup n = none) (h5 : Extern.allNextRows.lookup "" = none) : Extern.find fn = some (e fn.params fn.resultTypes) ∧ Extern.findNext fn = none := by
  constructor
  · unfold Extern.find
    simp only [hn, h1, h2]
    rfl
  · unfold Extern.findNext
    simp only [hn, ho, h4, h5]
    rfl

/-- A drawn number. -/
theorem choose_any (q : Question) (w : World) : ∃ n w', (choose q).run P w = .ok n w' ∧ w'.heap = w.heap ∧ w'.os = w.os ∧ w'.tape = w.tape ∧ w'.output = w.output ∧ w.drawn ≤ w'.drawn := by
  rw [run_choose]
  split
  · exact ⟨_, _, rfl, rfl, rfl, rfl, rfl, Nat.le_refl _⟩
  · exact ⟨_, _, rfl, rfl, rfl, rfl, rfl, Nat.le_succ _⟩

theorem makeNoZero_def (ps rs : Array TypeId) (n : Int) : Extern.BytealgMakeNoZero.makeNoZero ps rs #[.int .i64 n] =
    (do
      let some t := rs[0]? | stuck "bytealg.MakeNoZero: no result type"
      let .slice elem ← underlying t | stuck "bytealg.MakeNoZero: slice type expected"
      if n < 0 || n > 2 ^ 48 then runtimePanic (.error "makeslice: len out of range")
      let cap ← choose (.appendCap n.toNat 0 elem)
      askRoom cap
      let bytes ← choose (.extern "internal/bytealg.MakeNoZero.bytes" 0)
      let a ← newRow elem (Extern.BytealgMakeNoZero.digits cap bytes #[])
      pure (.slice (some a) n.toNat cap)) := rfl

theorem makeNoZero_sound (k : HRel P B R h w) (hB : B.n ≤ w.heap.size) {t el : TypeId} {ps rs : Array TypeId} {n : Int} (ht : rs[0]? = some t) (hu : P.underlying t = some (.slice el)) (h0 : 0 ≤ n) (h1 : n < 2 ^ 40) (hc : P.cellsOf el = 1) :
    Made P B R w (Extern.BytealgMakeNoZero.makeNoZero ps rs #[.int .i64 n]) (.slg h.next 0 0 n.toNat 0) (h.new (.cells .leaf n.toNat el 0 0 1 0 false .leaf)) := by
  have hf : (Question.appendCap n.toNat 0 el).forced = false := rfl
  have hcap : n.toNat ≤ (Question.appendCap n.toNat 0 el).cut (w.tape w.drawn (Question.appendCap n.toNat 0 el)) := by simp only [Question.cut]; omega
  have hcb : (Question.appendCap n.toNat 0 el).cut (w.tape w.drawn (Question.appendCap n.toNat 0 el)) ≤ 9223372036854775807 := by
    simp only [Question.cut]
    have := Nat.mod_lt (w.tape w.drawn (Question.appendCap n.toNat 0 el)) (show 2 ^ 63 - n.toNat > 0 by omega)
    omega
  generalize hg : (Question.appendCap n.toNat 0 el).cut (w.tape w.drawn (Question.appendCap n.toNat 0 el)) = cap at hcap hcb
  obtain ⟨bs, w2, c1, c2, c3, c4, c5, c6⟩ := choose_any (P := P) (.extern "internal/bytealg.MakeNoZero.bytes" 0) w.drew
  have hsz : (Extern.BytealgMakeNoZero.digits cap bs #[]).size = cap := by rw [Lib.size_digits]; simp
  have hneg : ¬ n < 0 := by omega
  have hbig : ¬ n > 2 ^ 48 := by omega
  have hfree := k.fresh h.next (Nat.le_refl _)
  have hheap : w2.heap = w.heap := c2
  have hn := k.new hB (.cells .leaf n.toNat el 0 0 1 0 false .leaf) (.cells (Extern.BytealgMakeNoZero.digits cap bs #[]) el) ⟨w.heap.size, 0, cap⟩ (w' := w2.alloc (.cells (Extern.BytealgMakeNoZero.digits cap bs #[]) el)) rfl
    (by show w2.heap.push _ = _; rw [hheap]) c3 c4 c5 ?_ (hdr := Nat.le_trans (Nat.le_succ _) c6)
  · refine ⟨_, .slice (some ⟨w.heap.size, 0, none⟩) n.toNat cap, _, ?_, new_slg R hcap, hn.1, hn.2⟩
    rw [makeNoZero_def]
    have hcr : (choose (.appendCap n.toNat 0 el)).run P w = .ok cap w.drew := by simp only [run_choose, hf, Bool.false_eq_true, if_false, World.drew_eq, hg]
    simp only [ht, Sem.run_bind, r_underlying w hu, Result.andThen_ok, hneg, hbig, decide_false, Bool.or_self, Bool.false_eq_true, if_false, Sem.run_pure, hcr, run_askRoom, c1, newRow, run_newObj, World.alloc_eq, hheap]
  · refine ⟨Nat.le_refl _, by omega, fun r hr' => ?_, fun r e h1 h2 h3 => ?_, fun r e h1 h2 h3 => ?_⟩
    rotate_left 2
    · obtain rfl : r = 0 := by omega
      simp [extOf] at h3; omega
    · rw [R.upd_other _ (by omega)]; exact hfree r
    · obtain rfl : r = 0 := by omega
      simp [extOf] at h3; subst h3
      refine ⟨_, R.upd_same _ _ _, _, 0, 0, ?_, by rw [hsz]; exact hcap, by rw [hc, hsz]; exact ⟨(by show cap * 1 = cap + 0; omega), Nat.dvd_zero _⟩, ⟨⟨Nat.le_refl _, fun _ => Nat.le_trans hcb (Nat.le_add_left _ _)⟩, fun j a b => by omega⟩, fun j x a _ c => ?_⟩
      · show (w2.heap.push _)[w.heap.size]? = _
        rw [hheap]; simp
      · cases c

theorem typeOf_def (t : TypeId) (v : Value) : Extern.ReflectliteType.typeOf #[.iface t v] = Extern.ReflectliteType.toType t := rfl
theorem method_def (f : TypeId → Sem Value) (x : Value) : Extern.ReflectliteType.method f #[x] = (do f (← Extern.ReflectliteType.ofRtype x)) := rfl
theorem ofRtype_def (h : Value) : Extern.ReflectliteType.ofRtype (.agg #[h]) = (do
    let t ← Extern.Rtype.ofHandle h
    Extern.Rtype.noPack "a Type asked or handed on" t
    pure t) := rfl

theorem typeOf_run {t r : TypeId} {v : Value} (hr : rtypeId P = some r) (w : World) : (Extern.ReflectliteType.typeOf #[.iface t v]).run P w = .ok (.iface r (.agg #[.pointer (some ⟨P.globals.size, t, none⟩)])) w := by
  unfold rtypeId at hr
  split at hr
  · cases hr
  · rename_i c hc
    cases hr
    simp only [typeOf_def, Extern.ReflectliteType.toType, cutType, Extern.Rtype.handle, typeHandle, Sem.run_bind, run_program, Result.andThen_ok, hc, Sem.run_pure]

theorem comparable_run {t : TypeId} {i : TypeInfo} (h1 : P.packed t = false) (h2 : P.holdsPacked P.depth t = false) (hi : P.info? t = some i) (w : World) :
    ((Extern.ReflectliteType.method fun t => do Extern.Rtype.noPackHeld "Comparable" t; pure (.bool (← typeInfo t).comparable)) #[.agg #[.pointer (some ⟨P.globals.size, t, none⟩)]]).run P w = .ok (.bool i.comparable) w := by
  simp only [method_def, ofRtype_def, Extern.Rtype.ofHandle, handleType, Extern.Rtype.noPack, Extern.Rtype.noPackHeld, Sem.run_bind, run_program, Result.andThen_ok, BEq.rfl, if_true, h1, h2, Bool.false_eq_true, if_false, Sem.run_pure, r_typeInfo w hi]

theorem intAt_sound (k : HRel P B R h w) {x : AV} {x' : Value} {kd : IntKind} {n : Int} (hx : VRel R x x') (e : intAt h x = some (kd, n)) :
    ∃ a, x' = .pointer (some a) ∧ w.cell? a = some (.int kd n) ∧ (∃ cs el fz, w.heap[a.block]? = some (.cells cs el fz)) := by
  unfold intAt at e
  split at e
  · rename_i i r off
    obtain ⟨L, hL, hm, rfl⟩ := hx
    unfold intIns at e
    split at e
    · rename_i l hl
      split at e
      · rename_i v
        unfold intIn at e
        split at e
        · cases e
          refine ⟨_, rfl, ?_⟩
          unfold loadCellsA at hl
          split at hl
          · rename_i c m el lo hi nv fz sg ex ho
            split at hl
            · cases hl
            · rename_i e' he
              split at hl
              · rename_i hc
                obtain ⟨L', hL', cs, a, b, v1, _, _, _, v5⟩ := k.ver hL ho hc.1 hc.2.1 he
                rw [hL] at hL'; cases hL'
                have g := (loadList_get hl).2 0 _ rfl
                obtain ⟨x, hx, hr⟩ := v5 off _ (by omega) hm (by simpa using g)
                cases hr
                exact ⟨by rw [cell?_row _ _ _ v1]; exact hx, _, _, _, v1⟩
              · cases hl
          · rename_i c lo m ho
            split at hl
            · rename_i hc
              obtain ⟨L', cs, el, fz, hL', q1, q2, q3, q4⟩ := k.obj' hL ho
              rw [hc.1, hL'] at hL; cases hL
              have g := (loadList_get hl).2 0 _ rfl
              obtain ⟨x, hx, hr⟩ := q4 off _ hc.2.1 (by omega) (by simpa using g)
              cases hr
              exact ⟨by rw [q1, Nat.sub_zero, cell?_row _ _ _ q2]; exact hx, _, _, _, q2⟩
            · cases hl
          · cases hl
        · cases e
      · cases e
    · cases e
  · cases e

theorem setAt_sound (k : HRel P B R h w) {x : AV} {a : Addr} {kd : IntKind} {n : Int} {h' : AHeap} (hx : VRel R x (.pointer (some a))) (e : setAt h x (.int kd n) = some h') {u : Value} (hc : w.cell? a = some u) :
    ∃ w', (store a (.int kd n) .atomic).run P w = .ok () w' ∧ w.frozen? a = false ∧ HRel P B R h' w' ∧ Keeps R w R w' := by
  unfold setAt at e
  split at e
  · rename_i i r off
    obtain ⟨L, hL, hm, hv⟩ := hx
    cases hv
    obtain ⟨w', s1, s2, s3⟩ := storeCellsA_sound k e hL hm (.cons (y := .int kd n) rfl .nil)
    have h1 := run_store P w ⟨L.block, off - L.minus, none⟩ (.int kd n) .plain rfl
    have h2 := run_store P w ⟨L.block, off - L.minus, none⟩ (.int kd n) .atomic rfl
    simp only [hc] at h1 h2
    simp only [storeCells, add_plain, Nat.add_zero, Sem.run_bind, h1] at s1
    split at s1
    · cases s1
    · rename_i hf
      rw [if_neg hf] at h2
      simp only [Result.andThen_ok, Sem.run_pure] at s1
      cases s1
      exact ⟨_, h2, by simpa using hf, s2, s3⟩
  · cases e

theorem loadT_def (t : Extern.Atomic.T) (x : Value) : Extern.Atomic.loadT t #[x] = (do Extern.Atomic.read t (← asAddr x)) := rfl
theorem storeT_def (x v : Value) : Extern.Atomic.storeT #[x, v] = (do
    store (← asAddr x) v .atomic
    pure Extern.Atomic.none_) := rfl
theorem casT_def (t : Extern.Atomic.T) (x o n : Value) : Extern.Atomic.casT t #[x, o, n] = (do
    let a ← asAddr x
    if ← Extern.Atomic.touchesFrozen a then unsupported (.unsafePointer "a write to bytes that a string shares")
    let eq ← match t, ← Extern.Atomic.read t a, o with
      | _, .int _ x, .int _ y => pure (x == y)
      | .ptr, .pointer x, .pointer y => samePointer x y
      | .int _, .pointer (some _), .int _ 0 | .int _, .int _ 0, .pointer (some _) => pure false
      | .int _, .pointer (some _), _ | .int _, _, .pointer (some _) => unsupported .addressObserved
      | _, _, _ => stuck "atomic.CompareAndSwap: old is no T"
    if eq then store a n .atomic
    pure (.bool eq)) := rfl
theorem update_def (op : IntKind → Int → Int → Sem Value) (k : IntKind) (r : Bool) (x y : Value) : Extern.Atomic.update op k r #[x, y] = (do
    let a ← asAddr x
    let old ← Extern.Atomic.read (.int k) a
    let new ← op k (← asInt old) (← asInt y)
    store a new .atomic
    pure (if r then new else old)) := rfl

theorem read_run {kd : IntKind} {n : Int} {a : Addr} (hc : w.cell? a = some (.int kd n)) : (Extern.Atomic.read (.int kd) a).run P w = .ok (.int kd n) w := by
  simp only [Extern.Atomic.read, Sem.run_bind, run_load, hc, Result.andThen_ok, if_true, Sem.run_pure]

theorem touches_run {a : Addr} (hb : ∃ cs el fz, w.heap[a.block]? = some (.cells cs el fz)) (hf : w.frozen? a = false) : (Extern.Atomic.touchesFrozen a).run P w = .ok false w := by
  obtain ⟨cs, el, fz, hb⟩ := hb
  simp only [Extern.Atomic.touchesFrozen, viewAt, Sem.run_bind, run_shape, Result.andThen_ok, World.shape?, hb, Option.isSome_some, if_true, Sem.run_pure, run_frozen, hf]

theorem marksAt (k : HRel P B R h w) {fn : Func} {f : FuncId} {args : List AV} {args' : List Value} {r : AR} {m : Addr → Mark} (hf : P.funcs[f]? = some fn) (hbn : fn.body.isNone = true) (hnm : (fn.name == "runtime.NumGoroutine") = false)
    (g1 : Extern.find fn = some (Extern.Race.marked m)) (g2 : Extern.findNext fn = none) (ha : VRels R args args') (e : extMarkAt h args = some r) : OpRel P B R w (callFunc f args'.toArray) r := by
  unfold extMarkAt at e
  split at e
  · cases e
    obtain ⟨x', ys, rfl, hx, hys⟩ := ha
    cases hys
    obtain ⟨L, _, _, rfl⟩ := hx
    refine ⟨R, Extern.Race.none_, w, ?_, ⟨[], rfl, rfl⟩, k, Keeps.refl _ _⟩
    rw [run_callFunc_extern hf hnm hbn g2 g1]
    rfl
  · cases e

theorem marks (k : HRel P B R h w) {fn : Func} {f : FuncId} {args : List AV} {args' : List Value} {r : AR} {m : Mark} (hf : P.funcs[f]? = some fn) (hbn : fn.body.isNone = true) (hnm : (fn.name == "runtime.NumGoroutine") = false)
    (g1 : Extern.find fn = some (fun _ => do mark m; pure Extern.Race.none_)) (g2 : Extern.findNext fn = none) (ha : VRels R args args') (e : extMark h args = some r) : OpRel P B R w (callFunc f args'.toArray) r := by
  unfold extMark at e
  split at e
  · cases e
    cases ha
    refine ⟨R, Extern.Race.none_, w, ?_, ⟨[], rfl, rfl⟩, k, Keeps.refl _ _⟩
    rw [run_callFunc_extern hf hnm hbn g2 g1]
    rfl
  · cases e

theorem extMore_sound (k : HRel P B R h w) {fn : Func} {f : FuncId} {args : List AV} {args' : List Value} {r : AR} (hb : fn.body = none) (hf : P.funcs[f]? = some fn) (ho : fn.origin = "")
    (ha : VRels R args args') (e : extMore h fn.name args = some r) : OpRel P B R w (callFunc f args'.toArray) r := by
  have hbn : fn.body.isNone = true := by rw [hb]; rfl
  unfold extMore at e
  split at e
  · rename_i hn
    have hn := eq_of_beq hn
    obtain ⟨g1, g2⟩ := find_extern hn ho (by kernel_rfl) (by kernel_rfl) (show _ = some (Extern.Atomic.loadT (.int .u32)) by kernel_rfl) (by kernel_rfl) (by kernel_rfl)
    unfold extLoad at e
    split at e
    · rename_i x
      obtain ⟨x', ys, rfl, hx, hys⟩ := ha
      cases hys
      split at e
      · rename_i k' n hi
        split at e
        · rename_i hk
          subst hk
          cases e
          obtain ⟨a, rfl, hc, _⟩ := intAt_sound k hx hi
          refine ⟨R, .int .u32 n, w, ?_, rfl, k, Keeps.refl _ _⟩
          rw [run_callFunc_extern hf (by rw [hn]; decide) hbn g2 g1]
          simp only [loadT_def, asAddr, Sem.run_bind, Sem.run_pure, Result.andThen_ok, read_run hc]
        · cases e
      · cases e
    · cases e
  · split at e
    · rename_i hn
      have hn := eq_of_beq hn
      obtain ⟨g1, g2⟩ := find_extern hn ho (by kernel_rfl) (by kernel_rfl) (show _ = some Extern.Atomic.storeT by kernel_rfl) (by kernel_rfl) (by kernel_rfl)
      unfold extStore at e
      split at e
      · rename_i x k' n
        obtain ⟨x', ys, rfl, hx, y', zs, rfl, hy, hys⟩ := ha
        cases hys; cases hy
        split at e
        · rename_i pr hi
          obtain ⟨k1, n1⟩ := pr
          split at e
          · rename_i hk
            subst hk
            unfold extSet at e
            split at e
            · cases e
            · rename_i h2 hs
              cases e
              obtain ⟨a, rfl, hc, _⟩ := intAt_sound k hx hi
              obtain ⟨w', s1, _, s3, s4⟩ := setAt_sound k hx hs hc
              refine ⟨R, Extern.Atomic.none_, w', ?_, ⟨[], rfl, rfl⟩, s3, s4⟩
              rw [run_callFunc_extern hf (by rw [hn]; decide) hbn g2 g1]
              simp only [storeT_def, asAddr, Sem.run_bind, Sem.run_pure, Result.andThen_ok, s1]
          · cases e
        · cases e
      · cases e
    · split at e
      · rename_i hn
        have hn := eq_of_beq hn
        obtain ⟨g1, g2⟩ := find_extern hn ho (by kernel_rfl) (by kernel_rfl) (show _ = some (Extern.Atomic.casT (.int .i32)) by kernel_rfl) (by kernel_rfl) (by kernel_rfl)
        unfold extCas at e
        split at e
        · rename_i x ko o k' n
          obtain ⟨x', ys, rfl, hx, y', zs, rfl, hy, z', us, rfl, hz, hys⟩ := ha
          cases hys; cases hy; cases hz
          split at e
          · rename_i k1 m hi
            split at e
            · rename_i hk
              obtain ⟨rfl, rfl, rfl⟩ := hk
              unfold extSet at e
              split at e
              · cases e
              · rename_i h2 hs
                cases e
                obtain ⟨a, rfl, hc, hbk⟩ := intAt_sound k hx hi
                obtain ⟨w', s1, s2, s3, s4⟩ := setAt_sound k hx hs hc
                refine ⟨R, .bool true, w', ?_, rfl, s3, s4⟩
                rw [run_callFunc_extern hf (by rw [hn]; decide) hbn g2 g1]
                simp only [casT_def, asAddr, Sem.run_bind, Sem.run_pure, Result.andThen_ok, touches_run hbk s2, Bool.false_eq_true, if_false, read_run hc, BEq.rfl, if_true, s1]
            · cases e
          · cases e
        · cases e
      · split at e
        · rename_i hn
          have hn := eq_of_beq hn
          obtain ⟨g1, g2⟩ := find_extern hn ho (by kernel_rfl) (by kernel_rfl) (show _ = some (Extern.Atomic.update (Op.intArith .add) .i32 true) by kernel_rfl) (by kernel_rfl) (by kernel_rfl)
          unfold extAdd at e
          split at e
          · rename_i x kd d
            obtain ⟨x', ys, rfl, hx, y', zs, rfl, hy, hys⟩ := ha
            cases hys; cases hy
            split at e
            · rename_i k1 m hi
              split at e
              · rename_i hk
                subst hk
                unfold extSet at e
                split at e
                · cases e
                · rename_i h2 hs
                  cases e
                  obtain ⟨a, rfl, hc, hbk⟩ := intAt_sound k hx hi
                  obtain ⟨w', s1, s2, s3, s4⟩ := setAt_sound k hx hs hc
                  refine ⟨R, .int .i32 (IntKind.i32.wrap (m + d)), w', ?_, rfl, s3, s4⟩
                  rw [run_callFunc_extern hf (by rw [hn]; decide) hbn g2 g1]
                  simp only [update_def, asAddr, asInt, asIntOf, Op.intArith, Sem.run_bind, Sem.run_pure, Result.andThen_ok, read_run hc, if_true, s1]
              · cases e
            · cases e
          · cases e
        · split at e
          · rename_i hn
            have hn := eq_of_beq hn
            obtain ⟨g1, g2⟩ := find_extern hn ho (by kernel_rfl) (by kernel_rfl) (show _ = some (Extern.Race.marked .acquire) by kernel_rfl) (by kernel_rfl) (by kernel_rfl)
            exact marksAt k hf hbn (by rw [hn]; decide) g1 g2 ha e
          · split at e
            · rename_i hn
              have hn := eq_of_beq hn
              obtain ⟨g1, g2⟩ := find_extern hn ho (by kernel_rfl) (by kernel_rfl) (show _ = some (Extern.Race.marked .releaseMerge) by kernel_rfl) (by kernel_rfl) (by kernel_rfl)
              exact marksAt k hf hbn (by rw [hn]; decide) g1 g2 ha e
            · split at e
              · rename_i hn
                have hn := eq_of_beq hn
                obtain ⟨g1, g2⟩ := find_extern hn ho (by kernel_rfl) (by kernel_rfl) (show _ = some (fun _ => do mark .disable; pure Extern.Race.none_) by kernel_rfl) (by kernel_rfl) (by kernel_rfl)
                exact marks k hf hbn (by rw [hn]; decide) g1 g2 ha e
              · split at e
                · rename_i hn
                  have hn := eq_of_beq hn
                  obtain ⟨g1, g2⟩ := find_extern hn ho (by kernel_rfl) (by kernel_rfl) (show _ = some (fun _ => do mark .enable; pure Extern.Race.none_) by kernel_rfl) (by kernel_rfl) (by kernel_rfl)
                  exact marks k hf hbn (by rw [hn]; decide) g1 g2 ha e
                · cases e

theorem externA_sound (k : HRel P B R h w) (hB : B.n ≤ w.heap.size) {fn : Func} {f : FuncId} {args : List AV} {args' : List Value} {r : AR} (e : externA P h fn args = some r) (hb : fn.body = none) (hf : P.funcs[f]? = some fn)
    (ha : VRels R args args') : OpRel P B R w (callFunc f args'.toArray) r := by
  have hbn : fn.body.isNone = true := by rw [hb]; rfl
  have strs : ∀ {a : AV} {x : Value} {s : List UInt8}, a = .str s → VRel R a x → x = .string ⟨s.toArray⟩ := fun h1 h2 => by subst h1; exact h2
  unfold externA at e
  split at e
  · cases e
  · rename_i ho
    have ho := eq_of_beq ho
    split at e
    · rename_i hn
      have hn := eq_of_beq hn
      obtain ⟨g1, g2⟩ := find_extern hn ho (by kernel_rfl) (by kernel_rfl) (show _ = some Extern.AbiNoEscape.same by kernel_rfl) (by kernel_rfl) (by kernel_rfl)
      unfold extNoEscape at e
      split at e
      · cases e
        obtain ⟨x', ys, rfl, hx, hys⟩ := ha
        cases hys
        refine ⟨R, x', w, ?_, hx, k, Keeps.refl _ _⟩
        rw [run_callFunc_extern hf (by rw [hn]; decide) hbn g2 g1]
        rfl
      · cases e
    · split at e
      · rename_i hn
        have hn := eq_of_beq hn
        obtain ⟨g1, g2⟩ := find_extern hn ho (by kernel_rfl) (by kernel_rfl) (show _ = some Extern.BytealgCompare.compare by kernel_rfl) (by kernel_rfl) (by kernel_rfl)
        unfold extCmp at e
        split at e
        · rename_i a b
          cases e
          obtain ⟨x', ys, rfl, hx, y', zs, rfl, hy, hys⟩ := ha
          cases hys; cases hx; cases hy
          refine ⟨R, .int .i64 (Lib.compareBytes a b), w, ?_, rfl, k, Keeps.refl _ _⟩
          rw [run_callFunc_extern hf (by rw [hn]; decide) hbn g2 g1]
          show (((Extern.BytealgCompare.compare #[.string ⟨a.toArray⟩, .string ⟨b.toArray⟩]).run P w).andThen _) = _
          rw [Lib.run_compareString]
          simp
        · cases e
      · split at e
        · rename_i hn
          have hn := eq_of_beq hn
          obtain ⟨g1, g2⟩ := find_extern hn ho (by kernel_rfl) (by kernel_rfl) (show _ = some Extern.BytealgIndexByte.indexByte by kernel_rfl) (by kernel_rfl) (by kernel_rfl)
          unfold extIndexByte at e
          split at e
          · rename_i s c
            cases e
            obtain ⟨x', ys, rfl, hx, y', zs, rfl, hy, hys⟩ := ha
            cases hys; cases hx; cases hy
            refine ⟨R, .int .i64 (Lib.indexByte s c.toNat.toUInt8), w, ?_, rfl, k, Keeps.refl _ _⟩
            rw [run_callFunc_extern hf (by rw [hn]; decide) hbn g2 g1]
            show (((Extern.BytealgIndexByte.indexByte #[.string ⟨s.toArray⟩, .int .u8 c]).run P w).andThen _) = _
            rw [Lib.run_indexByteString]
            simp
          · cases e
        · split at e
          · rename_i hn
            have hn := eq_of_beq hn
            obtain ⟨g1, g2⟩ := find_extern hn ho (by kernel_rfl) (by kernel_rfl) (show _ = some Extern.BytealgCount.count by kernel_rfl) (by kernel_rfl) (by kernel_rfl)
            unfold extCount at e
            split at e
            · rename_i s c
              cases e
              obtain ⟨x', ys, rfl, hx, y', zs, rfl, hy, hys⟩ := ha
              cases hys; cases hx; cases hy
              refine ⟨R, .int .i64 (Lib.countByte s c.toNat.toUInt8), w, ?_, rfl, k, Keeps.refl _ _⟩
              rw [run_callFunc_extern hf (by rw [hn]; decide) hbn g2 g1]
              show (((Extern.BytealgCount.count #[.string ⟨s.toArray⟩, .int .u8 c]).run P w).andThen _) = _
              rw [Lib.run_countString]
              simp
            · cases e
          · split at e
            · rename_i hn
              have hn := eq_of_beq hn
              obtain ⟨g1, g2⟩ := find_typed hn ho (by kernel_rfl) (show _ = some Extern.BytealgMakeNoZero.makeNoZero by kernel_rfl) (by kernel_rfl) (by kernel_rfl)
              unfold extMakeNoZero at e
              split at e
              · cases e
              · rename_i t ht
                split at e
                · rename_i el hu
                  split at e
                  · rename_i n
                    split at e
                    · rename_i hc
                      cases e
                      obtain ⟨x', ys, rfl, hx, hys⟩ := ha
                      cases hys; cases hx
                      obtain ⟨R', v', w', q1, q2, q3, q4⟩ := makeNoZero_sound (ps := fn.params) k hB ht hu hc.1 hc.2.1 hc.2.2
                      refine ⟨R', v', w', ?_, q2, q3, q4⟩
                      rw [run_callFunc_extern hf (by rw [hn]; decide) hbn g2 g1]
                      show (((Extern.BytealgMakeNoZero.makeNoZero fn.params fn.resultTypes #[.int .i64 n]).run P w).andThen _) = _
                      rw [q1]
                      simp
                    · cases e
                  · cases e
                · cases e
            · split at e
              · rename_i hn
                have hn := eq_of_beq hn
                obtain ⟨g1, g2⟩ := find_extern hn ho (by kernel_rfl) (by kernel_rfl) (show _ = some Extern.ReflectliteType.typeOf by kernel_rfl) (by kernel_rfl) (by kernel_rfl)
                unfold extTypeOf at e
                split at e
                · rename_i t v
                  split at e
                  · cases e
                  · rename_i r hr
                    cases e
                    obtain ⟨x', ys, rfl, hx, hys⟩ := ha
                    cases hys
                    obtain ⟨y, rfl, _⟩ := hx
                    refine ⟨R, .iface r (.agg #[.pointer (some ⟨P.globals.size, t, none⟩)]), w, ?_, ⟨_, rfl, [.pointer (some ⟨P.globals.size, t, none⟩)], rfl, _, _, rfl, rfl, rfl⟩, k, Keeps.refl _ _⟩
                    rw [run_callFunc_extern hf (by rw [hn]; decide) hbn g2 g1]
                    show (((Extern.ReflectliteType.typeOf #[.iface t y]).run P w).andThen _) = _
                    rw [typeOf_run hr]
                    simp
                · cases e
              · split at e
                · rename_i hn
                  have hn := eq_of_beq hn
                  obtain ⟨g1, g2⟩ := find_extern hn ho (by kernel_rfl) (by kernel_rfl) (show _ = some (Extern.ReflectliteType.method fun t => do Extern.Rtype.noPackHeld "Comparable" t; pure (.bool (← typeInfo t).comparable)) by kernel_rfl) (by kernel_rfl) (by kernel_rfl)
                  unfold extComparable at e
                  split at e
                  · rename_i g t
                    split at e
                    · rename_i hc
                      obtain ⟨rfl, c1, c2⟩ := hc
                      split at e
                      · cases e
                      · rename_i inf hi
                        cases e
                        obtain ⟨x', ys, rfl, hx, hys⟩ := ha
                        cases hys
                        obtain ⟨l, rfl, y, zs, rfl, hy, hz⟩ := hx
                        cases hz
                        cases hy
                        refine ⟨R, .bool inf.comparable, w, ?_, rfl, k, Keeps.refl _ _⟩
                        rw [run_callFunc_extern hf (by rw [hn]; decide) hbn g2 g1]
                        show (((Extern.ReflectliteType.method (fun t => do Extern.Rtype.noPackHeld "Comparable" t; pure (.bool (← typeInfo t).comparable)) #[.agg #[.pointer (some ⟨P.globals.size, t, none⟩)]]).run P w).andThen _) = _
                        rw [comparable_run c1 c2 hi]
                        simp
                    · cases e
                  · cases e
                · exact extMore_sound k hb hf ho ha e

theorem callA_sound (k : HRel P B R h w) (hB : B.n ≤ w.heap.size) {f : FuncId} {args : List AV} {args' : List Value} {r : AR} (e : callA P h f args = some r) (ha : VRels R args args') : OpRel P B R w (callFunc f args'.toArray) r := by
  unfold callA at e
  split at e
  · cases e
  · rename_i fn hfn
    split at e
    · rename_i c hc
      split at e
      · cases e
      · rename_i hn
        cases e
        refine ⟨args', ?_, ha, k⟩
        simp only [callFunc, Sem.run_bind, run_program, Result.andThen_ok, hfn, hn, Bool.false_eq_true, if_false, hc, Option.isNone_some, Sem.run_pure]
    · rename_i hc
      exact externA_sound k hB e hc hfn ha

theorem callMethodA_sound (k : HRel P B R h w) (hB : B.n ≤ w.heap.size) {x : AV} {x' : Value} {name : String} {args : List AV} {args' : List Value} {r : AR} (e : callMethodA P h x name args = some r) (hx : VRel R x x') (ha : VRels R args args') :
    OpRel P B R w (callMethod x' name args'.toArray) r := by
  unfold callMethodA at e
  split at e
  · rename_i t v
    split at e
    · cases e
    · rename_i f rc hm
      obtain ⟨v', rfl, hv⟩ := hx
      obtain ⟨r', e1, e2⟩ := methodA_sound k hm hv (P.types.size + Made.depth - 1)
      refine (callA_sound k hB e (.cons e2 ha)).congr ?_
      have hd : P.types.size + Made.depth - 1 + 1 = P.types.size + Made.depth := by
        have : 0 < Made.depth := by decide
        omega
      rw [hd] at e1
      simp only [callMethod, Sem.run_bind, run_program, Result.andThen_ok, e1]
      congr 2
      simp
  · cases e

theorem invokeFnA_sound (k : HRel P B R h w) (hB : B.n ≤ w.heap.size) {f : Fn} {args cap : List AV} {args' cap' : List Value} {r : AR} (e : invokeFnA P h f args cap = some r) (ha : VRels R args args') (hc : VRels R cap cap') :
    OpRel P B R w (invoke (.fn f cap'.toArray) args'.toArray) r := by
  unfold invokeFnA at e
  split at e
  · refine (callA_sound k hB e (ha.append hc)).congr ?_
    simp [invoke]
  · split at e
    · cases e
    · obtain ⟨x', r', rfl, hx, hr⟩ := ha
      refine (callMethodA_sound k hB e hx hr).congr ?_
      simp [invoke]
  · split at e
    · cases e
    · split at e
      · cases e
      · rename_i y hy
        obtain ⟨x', r', rfl, hx, hr⟩ := ha
        unfold asIfaceA at hy
        split at hy
        · cases hy
        · rename_i u hu
          split at hy
          · cases hy
            refine (callMethodA_sound k hB e hx hr).congr ?_
            simp [invoke, r_underlying w hu]
          · rename_i hni
            cases hy
            refine (callMethodA_sound k hB e ⟨x', rfl, hx⟩ hr).congr ?_
            simp only [invoke, List.getElem?_toArray, List.getElem?_cons_zero, Sem.run_bind, r_underlying w hu, Result.andThen_ok]
            cases u <;> first
              | exact absurd rfl (hni _)
              | simp
  · cases e

theorem callV_sound (k : HRel P B R h w) (hB : B.n ≤ w.heap.size) {f : AV} {f' : Value} {args : List AV} {args' : List Value} {r : AR} (e : callV P h f args = some r) (hf : VRel R f f') (ha : VRels R args args') :
    OpRel P B R w (do let d ← Deferred.ofValue f' args'.toArray; invoke d.target d.args) r := by
  unfold callV at e
  split at e
  · obtain ⟨hn, fs, cs, rfl, h1, h2⟩ := hf
    refine (invokeFnA_sound k hB e (h1.append ha) h2).congr ?_
    simp [Deferred.ofValue]
  · cases e
    obtain ⟨L, hL, rfl⟩ := hf
    refine ⟨L, args', hL, ha, ?_⟩
    simp [Deferred.ofValue, invoke]
  · cases e

/-! ## Builtins -/

theorem builtinR_sound (k : HRel P B R h w) {b : Builtin} {ats : Array TypeId} {ty : TypeId} {cs : Array Bool} {args : List AV} {args' : List Value} {v : AV} (e : builtinR P h b ats[0]? args = some v) (ha : VRels R args args') :
    OpRel P B R w (builtin b ats ty cs args'.toArray) (.val v h) := by
  unfold builtinR at e
  split at e
  · split at e
    · cases e
    · rename_i t ht
      split at e
      · cases e
      · rename_i x hx
        obtain rfl := one1_inv hx
        obtain ⟨x', ys, rfl, hx', hr⟩ := ha
        cases hr
        unfold lenE at e
        split at e
        · cases e
        · rename_i n hn
          cases e
          exact opRel_val k ⟨_, lenA_sound k hn hx' ht (by simp), rfl⟩
  · split at e
    · cases e
    · rename_i t ht
      split at e
      · cases e
      · rename_i x hx
        obtain rfl := one1_inv hx
        obtain ⟨x', ys, rfl, hx', hr⟩ := ha
        cases hr
        exact opRel_val k (capE_sound w e hx' ht)
  · have := foldE_sound (P := P) (ats := ats) (ty := ty) w e ha
    simp only [if_true] at this
    exact opRel_val k this
  · have := foldE_sound (P := P) (ats := ats) (ty := ty) w e ha
    simp only [Bool.false_eq_true, if_false] at this
    exact opRel_val k this
  · split at e
    · cases e
    · rename_i x hx
      obtain rfl := one1_inv hx
      obtain ⟨x', ys, rfl, hx', hr⟩ := ha
      cases hr
      exact opRel_val k (sliceData_sound w e hx')
  · cases e

/-! ## Bytes that are shown as a string -/

theorem run_loadBytes {b : Nat} : ∀ {l : List AV} {s : List UInt8} (o : Nat) (acc : ByteArray), bytesA l = some s → (∀ (j : Nat) v, l[j]? = some v → ∃ y, w.cell? ⟨b, o + j, none⟩ = some y ∧ VRel R v y) →
    (loadBytes ⟨b, o, none⟩ acc l.length).run P w = .ok ⟨acc.data ++ s.toArray⟩ w
  | [], s, o, acc, e, _ => by
    simp [bytesA, mapO_nil] at e
    subst e
    simp [loadBytes]
  | v :: l, s, o, acc, e, h => by
    simp only [bytesA, mapO_cons] at e
    cases hb : byteA v with
    | none => simp [hb] at e
    | some b' =>
      rw [hb] at e
      cases hl : mapO byteA l with
      | none => simp [hl] at e
      | some s' =>
        rw [hl] at e; simp at e; subst e
        obtain ⟨y, hy, hyr⟩ := h 0 v rfl
        obtain ⟨n, rfl, rfl⟩ := byteA_rel hb hyr
        rw [Nat.add_zero] at hy
        have ih := run_loadBytes (b := b) (l := l) (s := s') (o + 1) (acc.push (UInt8.ofNat n.toNat)) hl (fun j x hj => by
          have := h (j + 1) x (by simpa using hj)
          rwa [show o + (j + 1) = o + 1 + j by omega] at this)
        have hx : n.toNat.toUInt8 = UInt8.ofNat n.toNat := rfl
        simp only [List.length_cons, loadBytes, Sem.run_bind, run_load, hy, Result.andThen, add_plain, hx]
        rw [ih]
        congr 1
        apply ByteArray.ext
        simp [ByteArray.push]

theorem freeze_putRow {b n : Nat} {cs : Array Value} {el : TypeId} {f0 f1 : Nat} (g : w.heap[b]? = some (.cells cs el (f0, f1))) (hn : 0 < n) :
    w.freeze ⟨b, 0, none⟩ n = putRow w b cs el (if f0 == f1 then (0, n) else (min f0 0, max f1 n)) := by
  unfold World.freeze putRow
  rw [if_neg (by omega)]
  congr 1
  apply Array.ext_getElem?
  intro j
  rw [Array.getElem?_modify, Array.getElem?_setIfInBounds]
  have hb := heap_lt g
  by_cases hj : b = j
  · subst hj
    simp only [if_true, g, Option.map_some, hb, Nat.zero_add]
  · simp only [hj, if_false]

/-- Cells that nobody writes any more. -/
theorem freeze_sound (k : HRel P B R h w) {i r n m : Nat} {c : T AV} {el : TypeId} {lo hi nv fz : Nat} {ex : T Nat} {L : Loc} (hL : R i r = some L) (ho : h.get i = some (.cells c m el lo hi nv fz false ex)) (hm : L.minus = 0)
    {cs : Array Value} {f0 f1 : Nat} (g1 : w.heap[L.block]? = some (.cells cs el (f0, f1))) (hf : f0 ≤ f1) (hn : 0 < n) :
    HRel P B R (h.put i (.cells c m el lo hi nv (max fz n) false ex)) (w.freeze ⟨L.block, 0, none⟩ n) ∧ Keeps R w R (w.freeze ⟨L.block, 0, none⟩ n) := by
  have hi' : i < h.next := by
    rcases Nat.lt_or_ge i h.next with h1 | h1
    · exact h1
    · rw [k.fresh i h1] at hL; cases hL
  have hlt := heap_lt g1
  obtain ⟨o1, o2, o3, o4, o5⟩ := k.obj' hL ho
  rw [freeze_putRow g1 hn]
  obtain ⟨f0', f1', hff, hle, hin⟩ : ∃ f0' f1', (if f0 == f1 then (0, n) else (min f0 0, max f1 n)) = (f0', f1') ∧ f0' ≤ f1' ∧ ∀ j, j < f1' → j < n ∨ (f0 < f1 ∧ j < f1) := by
    by_cases he : f0 = f1
    · exact ⟨0, n, by simp [he], by omega, fun j hj => .inl hj⟩
    · refine ⟨min f0 0, max f1 n, by simp [he], by omega, fun j hj => ?_⟩
      rcases Nat.lt_or_ge j n with h1 | h1
      · exact .inl h1
      · exact .inr ⟨by omega, by omega⟩
  rw [hff]
  refine ⟨k.touch i _ (k.live hL) R.le_refl (by rw [next_put]; exact Nat.le_refl _) (by rw [next_put]; exact hi') (fun j => get_put h i j _) (fun _ _ _ => rfl) (fun j r' M hj e => putRow_other w _ _ _ (fun hb => hj (k.apart _ _ _ _ _ _ e hL hb (.inr (k.notRo ho rfl))))) ?_
    (by rw [putRow_size]; exact Nat.le_refl _) (fun r' M e => ⟨(k.place i r' M e).1, by rw [putRow_size]; exact (k.place i r' M e).2, fun j r'' M' hj e' hb => hj (k.apart _ _ _ _ _ _ e' e hb (.inr (k.notRo ho rfl)))⟩) (k.same i) (glob_put _ _ _) (fun b hb => putRow_other w _ _ _ (k.off hL (k.notRo ho rfl) hb)) (k.notRo ho rfl), ?_⟩
  · refine ⟨o1, o2, o3, fun r' e' a1 a2 a3 => ?_, o5⟩
    obtain ⟨M, hM, hv⟩ := o4 r' e' a1 a2 a3
    refine ⟨M, hM, ?_⟩
    by_cases hb : M.block = L.block
    · obtain ⟨cs2, q0, q1, q2, q3, q4, q5, q6⟩ := hv
      rw [hb, g1] at q2
      cases q2
      have hmin := k.same i r' r M L hM hL hb
      refine ⟨cs, f0', f1', by rw [hb]; exact putRow_self w _ _ _ _ hlt, q3, q4, ⟨⟨hle, q5.1.2⟩, fun j a b => .inl ?_⟩, q6⟩
      rw [hmin, hm]
      rcases hin j b with h1 | ⟨h1, h2⟩
      · have := Nat.le_max_right fz n; omega
      · have h3 := q5.2 (f1 - 1) (by omega) (by omega)
        rw [hmin, hm] at h3
        rcases h3 with h3 | h3
        · have := Nat.le_max_left fz n; omega
        · exact absurd h3.1 (by simp)
    · obtain ⟨cs2, q0, q1, q2, q3, q4, q5, q6⟩ := hv.mono (w' := putRow w L.block cs el (f0', f1')) R.le_refl (putRow_other w _ _ _ hb)
      exact ⟨cs2, q0, q1, q2, q3, q4, ⟨q5.1, fun j a b => (q5.2 j a b).imp (fun h => Nat.lt_of_lt_of_le h (Nat.le_max_left _ _)) id⟩, q6⟩
  · exact ⟨rfl, rfl, rfl, by rw [putRow_size]; exact Nat.le_refl _, R.le_refl, fun b hb hn => ⟨putRow_other w _ _ _ (fun e => hn i r L hL e.symm), hn⟩, Nat.le_refl _⟩

theorem unsafeString_def (ats : Array TypeId) (ty : TypeId) (q : Option Addr) (n : Int) : Builtin.unsafeString_ ats ty #[.pointer q, .int .i64 n] =
    (do
      let n ← asInt (.int .i64 n)
      let some pt := ats[0]? | stuck "unsafe.String: no argument types"
      if n < 0 then runtimePanic (.error "unsafe.String: len out of range")
      if n > IntKind.i64.max then unsupported (.unsafePointer "String: a length above the largest int")
      match q with
      | none =>
        if n = 0 then pure (.string .empty)
        else runtimePanic (.error "unsafe.String: ptr is nil and len is not zero")
      | some a =>
        if n = 0 then pure (.string .empty)
        else if ← variablesAt a (← elemOf pt) n.toNat then do
          let s ← loadBytes a .empty n.toNat
          freeze a n.toNat
          pure (.string s)
        else unsupported (.unsafePointer "String: not so many bytes at ptr")) := rfl

theorem unsafeStrA_sound (k : HRel P B R h w) {t el ty : TypeId} {ats : Array TypeId} {p n v : AV} {p' n' : Value} {h' : AHeap} (e : unsafeStrA P h el p n = some (v, h')) (ht : ats[0]? = some t) (hu : P.underlying t = some (.pointer el))
    (hp : VRel R p p') (hn : VRel R n n') : Made P B R w (Builtin.unsafeString_ ats ty #[p', n']) v h' := by
  have hmax : IntKind.i64.max = 9223372036854775807 := rfl
  unfold unsafeStrA at e
  split at e
  · rename_i z
    cases hn
    split at e
    · split at e
      · rename_i hz
        cases e; cases hp; subst hz
        exact ⟨R, .string .empty, w, by simp [unsafeString_def, ht, asInt, asIntOf, hmax], rfl, k, Keeps.refl _ _⟩
      · cases e
    · rename_i i r off
      obtain ⟨L, hL, hm, rfl⟩ := hp
      split at e
      · rename_i hz
        cases e; subst hz
        exact ⟨R, .string .empty, w, by simp [unsafeString_def, ht, asInt, asIntOf, hmax], rfl, k, Keeps.refl _ _⟩
      · rename_i hz
        split at e
        · rename_i hb
          obtain ⟨hb1, hb2⟩ := hb
          unfold unsafeAt at e
          split at e
          · rename_i c m el' lo hi nv fz sg ex ho
            split at e
            · cases e
            · rename_i ee he
              split at e
              · rename_i hc
                obtain ⟨c1, c2, c3, rfl, rfl, rfl, c7⟩ := hc
                split at e
                · cases e
                · rename_i l hl
                  split at e
                  · cases e
                  · rename_i s hs
                    cases e
                    have hm0 : L.minus = 0 := by omega
                    obtain ⟨L', hL', cs, f0, f1, g1, g2, g3, g4, g5⟩ := k.ver hL ho c1 c2 he
                    rw [hL] at hL'; cases hL'
                    obtain ⟨gl1, gl2⟩ := loadList_get hl
                    have hsh : w.shape? L.block = some (el', cs.size) := by unfold World.shape?; rw [g1]
                    have hlies := Go.Lib.liesAt_bytes (P := P) c7 (cs.size / P.cellsOf el') z.toNat (by rw [c7, Nat.div_one]; omega)
                    have hlb := run_loadBytes (P := P) (R := R) (w := w) (b := L.block) 0 .empty hs (fun j x hj => by
                      have hjn : j < z.toNat := by
                        rw [← gl1]; rcases Nat.lt_or_ge j l.length with h | h
                        · exact h
                        · rw [List.getElem?_eq_none h] at hj; cases hj
                      obtain ⟨y, hy, hyr⟩ := g5 j x (by omega) (by omega) (by have := gl2 j x hj; rwa [Nat.zero_add] at this)
                      rw [hm0, Nat.sub_zero] at hy
                      exact ⟨y, by rw [Nat.zero_add, cell?_row w _ _ g1]; exact hy, hyr⟩)
                    rw [gl1] at hlb
                    obtain ⟨f1', f2'⟩ := freeze_sound k hL ho hm0 g1 g4.1.1 (n := z.toNat) (by omega)
                    refine ⟨R, .string ⟨s.toArray⟩, _, ?_, rfl, f1', f2'⟩
                    have hneg : ¬ z < 0 := by omega
                    have hbig : ¬ (9223372036854775807 : Int) < z := by omega
                    simp [unsafeString_def, ht, asInt, asIntOf, hmax, hneg, hbig, hz, variablesAt, hsh, elemOf, r_underlying w hu, hlies, hm0, hlb]
              · cases e
          · cases e
        · cases e
    · cases e
  · cases e

theorem builtinE_sound (k : HRel P B R h w) (hB : B.n ≤ w.heap.size) {b : Builtin} {ats : Array TypeId} {ty : TypeId} {cs : Array Bool} {args : List AV} {args' : List Value} {r : AR} (e : builtinE P h b ats[0]? ats[1]? args = some r) (ha : VRels R args args') :
    OpRel P B R w (builtin b ats ty cs args'.toArray) r := by
  unfold builtinE at e
  split at e
  · unfold appendE at e
    split at e
    · cases e
    · rename_i t ht
      split at e
      · cases e
      · rename_i u hu
        split at e
        · cases e
        · rename_i z hz
          split at e
          · cases e
          · rename_i s x hsx
            obtain rfl := two1_inv hsx
            obtain ⟨s', ys, rfl, hs', x', zs, rfl, hx', hr⟩ := ha
            cases hr
            obtain ⟨v, h', e1, rfl⟩ := valH_inv e
            exact opRel_made (appendA_sound k hB e1 ht hu hz hs' hx')
  · split at e
    · cases e; cases ha
      simp only [OpRel, builtin, Sem.run_pure]
    · cases e
  · split at e
    · cases e
    · rename_i t ht
      split at e
      · unfold copyE at e
        split at e
        · cases e
        · rename_i s x hsx
          obtain rfl := two1_inv hsx
          obtain ⟨s', ys, rfl, hs', x', zs, rfl, hx', hr⟩ := ha
          cases hr
          obtain ⟨v, h', e1, rfl⟩ := valH_inv e
          exact opRel_made (copyA_sound k e1 hs' hx' ht)
      · unfold clearE at e
        split at e
        · cases e
        · rename_i x hx
          obtain rfl := one1_inv hx
          obtain ⟨x', ys, rfl, hx', hr⟩ := ha
          cases hr
          obtain ⟨h', e1, rfl⟩ := unitH_inv e
          exact opRel_unit (clearA_sound k e1 hx' ht)
      · unfold deleteE at e
        split at e
        · cases e
        · rename_i s x hsx
          obtain rfl := two1_inv hsx
          obtain ⟨s', ys, rfl, hs', x', zs, rfl, hx', hr⟩ := ha
          cases hr
          obtain ⟨h', e1, rfl⟩ := unitH_inv e
          exact opRel_unit (deleteA_sound k e1 hs' hx' ht)
      · unfold unsafeE at e
        split at e
        · cases e
        · rename_i el hel
          split at e
          · cases e
          · split at e
            · cases e
            · rename_i s x hsx
              obtain rfl := two1_inv hsx
              obtain ⟨s', ys, rfl, hs', x', zs, rfl, hx', hr⟩ := ha
              cases hr
              obtain ⟨v, h', e1, rfl⟩ := valH_inv e
              have hu : P.underlying t = some (.pointer el) := by
                unfold isPtrT at hel
                split at hel
                · cases hel; assumption
                · cases hel
              exact opRel_made (unsafeStrA_sound k e1 ht hu hs' hx')
      · cases e

theorem builtinA_sound (k : HRel P B R h w) (hB : B.n ≤ w.heap.size) {b : Builtin} {ats : Array TypeId} {ty : TypeId} {cs : Array Bool} {args : List AV} {args' : List Value} {r : AR} (e : builtinA P h b ats args = some r) (ha : VRels R args args') :
    OpRel P B R w (builtin b ats ty cs args'.toArray) r := by
  unfold builtinA at e
  split at e
  · obtain ⟨v, e1, rfl⟩ := valE_inv e
    exact builtinR_sound k e1 ha
  · exact builtinE_sound k hB e ha

theorem map_toArray (f : Operand → Value) (a : Array Operand) : a.map f = (a.toList.map f).toArray := by rw [← Array.toList_map, Array.toArray_toList]

theorem callOpA_sound (k : HRel P B R h w) (hB : B.n ≤ w.heap.size) {ρ : Operand → Option AV} {ρ' : Operand → Value} (hρ : ∀ x v, ρ x = some v → VRel R v (ρ' x)) {c : Call} {ty : TypeId} {r : AR} (e : callOpA P ρ h c = some r) :
    OpRel P B R w (do let d ← resolve ρ' c ty; invoke d.target d.args) r := by
  unfold callOpA at e
  split at e
  · cases e
  · rename_i args ha
    have ha := mapO_rel hρ ha
    split at e
    · rename_i b hc
      refine (builtinA_sound (ty := ty) (cs := c.args.map fun | .const _ => true | _ => false) k hB e ha).congr ?_
      simp only [resolve, hc, Sem.run_bind, Sem.run_pure, Result.andThen_ok, invoke, map_toArray ρ']
      rfl
    · rename_i x name hc
      split at e
      · cases e
      · rename_i v hv
        refine (callMethodA_sound k hB e (hρ _ _ hv) ha).congr ?_
        simp only [resolve, hc, Sem.run_bind, Sem.run_pure, Result.andThen_ok, invoke, map_toArray ρ']
        simp
        rw [List.take_of_length_le (by simp)]
    · rename_i f hc
      split at e
      · cases e
      · rename_i v hv
        refine (callV_sound k hB e (hρ _ _ hv) ha).congr ?_
        simp only [resolve, hc, map_toArray ρ']

/-- A string's bytes, as a slice of its own. -/
theorem convNewA_sound (k : HRel P B R h w) (hB : B.n ≤ w.heap.size) {src dst : TypeId} {x v : AV} {x' : Value} {h' : AHeap} (e : convNewA P h src dst x = some (v, h')) (hx : VRel R x x') : Made P B R w (convert src dst x') v h' := by
  unfold convNewA at e
  split at e
  · rename_i hs
    split at e
    · rename_i el hd
      unfold newBytes at e
      split at e
      · rename_i s
        split at e
        · rename_i hc
          obtain ⟨hb, hone⟩ := hc
          cases e
          cases hx
          have hfree := k.fresh h.next (Nat.le_refl _)
          have hsz : (⟨s.toArray⟩ : ByteArray).size = s.length := by simp [ByteArray.size]
          have hrun := run_bytes_of_string (P := P) w src dst el ⟨s.toArray⟩ hs hd (isByteT_sound hb)
          have hge := grownCap_ge w (⟨s.toArray⟩ : ByteArray).size 0 el
          generalize hcap : grownCap w (⟨s.toArray⟩ : ByteArray).size 0 el = cap at hrun hge
          have hrow : (bytesRow ⟨s.toArray⟩ cap).size = cap := by simp [bytesRow]; omega
          have hbl : (byteCells s).length = s.length := by simp [byteCells]
          rw [hsz] at hge
          have hn := k.new hB (.cells (storeList .leaf 0 (byteCells s)) (byteCells s).length el 0 0 1 0 true .leaf)
            (.cells (bytesRow ⟨s.toArray⟩ cap) el ((bytesRow ⟨s.toArray⟩ cap).size, (bytesRow ⟨s.toArray⟩ cap).size + 1)) ⟨w.heap.size, 0, cap⟩ (w' := w.drew.alloc (.cells (bytesRow ⟨s.toArray⟩ cap) el ((bytesRow ⟨s.toArray⟩ cap).size, (bytesRow ⟨s.toArray⟩ cap).size + 1))) rfl rfl rfl rfl rfl ?_
          · refine ⟨_, _, _, hrun, ?_, hn.1, hn.2⟩
            rw [hsz]
            exact new_slg R hge
          · refine ⟨Nat.le_refl _, by omega, fun r hr' => ?_, fun r e h1 h2 h3 => ?_, fun r e h1 h2 h3 => ?_⟩
            rotate_left 2
            · obtain rfl : r = 0 := by omega
              simp [extOf] at h3; omega
            · rw [R.upd_other _ (by omega)]; exact hfree r
            · obtain rfl : r = 0 := by omega
              simp [extOf] at h3; subst h3
              refine ⟨_, R.upd_same _ _ _, bytesRow ⟨s.toArray⟩ cap, (bytesRow ⟨s.toArray⟩ cap).size, (bytesRow ⟨s.toArray⟩ cap).size + 1, ?_, by rw [hrow, hbl]; omega, ?_, ⟨⟨Nat.le_succ _, fun h => by cases h⟩, fun j a b => Or.inr ⟨rfl, by omega⟩⟩, fun j x a _ c => ?_⟩
              · show (w.heap.push _)[w.heap.size]? = _; simp
              · rw [hone, hrow]; exact ⟨(by show cap * 1 = cap + 0; omega), Nat.dvd_zero _⟩
              · rw [storeList_get] at c
                simp only [Nat.zero_le, true_and, Nat.zero_add, Nat.sub_zero] at c ⊢
                rw [if_pos a] at c
                have hj : j < s.length := by omega
                simp only [byteCells, List.getElem?_map, List.getElem?_eq_getElem hj, Option.map_some, Option.some.injEq] at c
                subst c
                refine ⟨.int .u8 (s[j].toNat), ?_, rfl⟩
                rw [bytesRow, Array.getElem?_append, if_pos (by simpa using hj)]
                simp [hj]
        · cases e
      · cases e
    · cases e
  · cases e

theorem deferA_sound {ρ : Operand → Option AV} {ρ' : Operand → Value} (hρ : ∀ x v, ρ x = some v → VRel R v (ρ' x)) {c : Call} {ty : TypeId} {r : AR} (e : deferA ρ c = some r) :
    OpRel P B R w (do pure (.defer (← resolve ρ' c ty))) r := by
  unfold deferA at e
  split at e
  · cases e
  · rename_i args ha
    have ha := mapO_rel hρ ha
    split at e
    · rename_i f hc
      split at e
      · rename_i f fs cap hv
        cases e
        obtain ⟨hn, a, b, hf, h1, h2⟩ := hρ _ _ hv
        refine ⟨{ target := .fn f b.toArray, args := a.toArray ++ (c.args.toList.map ρ').toArray }, ?_, ⟨hn, b, rfl, h2⟩, ?_⟩
        · simp only [resolve, hc, hf, Deferred.ofValue, Sem.run_bind, Sem.run_pure, Result.andThen_ok, map_toArray ρ']
        · simpa using h1.append ha
      · cases e
    · rename_i x name hc
      split at e
      · cases e
      · rename_i v hv
        cases e
        refine ⟨{ target := .fn (.method name) #[], args := #[ρ' x] ++ (c.args.toList.map ρ').toArray }, ?_, ⟨by simp, [], rfl, rfl⟩, ?_⟩
        · simp only [resolve, hc, Sem.run_bind, Sem.run_pure, Result.andThen_ok, map_toArray ρ']
        · simpa using VRels.cons (hρ _ _ hv) ha
    · cases e

end

end Go.Proofs.Ytcdpmiebmhjmpaa.Ev
