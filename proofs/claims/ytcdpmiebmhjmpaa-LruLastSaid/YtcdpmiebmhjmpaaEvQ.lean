/- What the evaluator's operations say is what the model's do: each operation. -/
import Derived.Test.YtcdpmiebmhjmpaaEvP
namespace Go.Proofs.Ytcdpmiebmhjmpaa.Ev
open Go

section
variable {P : Program} {B : Base} {R : Bij} {h : AHeap} {w : World}

theorem opRel_pure (k : HRel P B R h w) {v : AV} {v' : Value} (hv : VRel R v v') : OpRel P B R w (pure (.value v')) (.val v h) := ⟨R, v', w, by simp, hv, k, Keeps.refl _ _⟩

theorem optEv_rel {ρ : Operand → Option AV} {ρ' : Operand → Value} (hρ : ∀ x v, ρ x = some v → VRel R v (ρ' x)) {o : Option Operand} {l : Option Int} (e : optEv ρ o = some l) : ORel R l (o.map ρ') := by
  unfold optEv at e
  split at e
  · cases e; rfl
  · split at e
    · rename_i hx
      cases e
      exact ⟨_, by rw [Option.map_some, hρ _ _ hx]⟩
    · cases e

theorem partsA_rel {ρ : Operand → Option AV} {ρ' : Operand → Value} (hρ : ∀ x v, ρ x = some v → VRel R v (ρ' x)) {l : List (Nat × Operand)} {r : List (Nat × AV)} (e : partsA ρ l = some r) :
    All2 (PRel R) r (l.map fun p => (p.1, ρ' p.2)) := by
  obtain ⟨e1, e2⟩ := mapO_some e
  refine .of_get (by simp [e1]) fun i x hx => ?_
  have hi : i < l.length := by
    have := (List.getElem?_eq_some_iff.1 hx).1
    omega
  obtain ⟨b, hb, hf⟩ := e2 i l[i] (List.getElem?_eq_getElem hi)
  rw [hx] at hb; cases hb
  refine ⟨(l[i].1, ρ' l[i].2), by rw [List.getElem?_map, List.getElem?_eq_getElem hi]; rfl, ?_⟩
  split at hf
  · cases hf
  · rename_i v hv
    cases hf
    exact ⟨rfl, hρ _ _ hv⟩

theorem parts_toArray (ρ' : Operand → Value) (a : Array (Nat × Operand)) : (a.map fun (i, x) => (i, ρ' x)).toList = a.toList.map fun p => (p.1, ρ' p.2) := by
  rw [Array.toList_map]

theorem opA_sound (k : HRel P B R h w) (hB : B.n ≤ w.heap.size) {ρ : Operand → Option AV} {ρ' : Operand → Value} (hρ : ∀ x v, ρ x = some v → VRel R v (ρ' x)) {o : Oper} {r : AR} (e : opA P ρ h o.op = some r) :
    OpRel P B R w (execOp ρ' o) r := by
  unfold execOp
  cases hop : o.op with
  | move x =>
    rw [hop] at e; change op_move P x ρ h = some r at e
    obtain ⟨v, e1, rfl⟩ := valE_inv e
    exact opRel_pure k (hρ _ _ e1)
  | assign x =>
    rw [hop] at e; change op_assign P x ρ h = some r at e
    obtain ⟨v, e1, rfl⟩ := valE_inv e
    exact opRel_pure k (hρ _ _ e1)
  | pick c a b =>
    rw [hop] at e; change op_pick P c a b ρ h = some r at e
    obtain ⟨v, e1, rfl⟩ := valE_inv e
    unfold pickA at e1
    split at e1
    · rename_i t hc
      have hc : ρ' c = .bool t := hρ _ _ hc
      refine ⟨R, if t then ρ' a else ρ' b, w, by simp only [hc, asBool, Sem.run_bind, Sem.run_pure, Result.andThen_ok], ?_, k, Keeps.refl _ _⟩
      cases t
      · exact hρ _ _ e1
      · exact hρ _ _ e1
    · cases e1
  | alloc t =>
    rw [hop] at e; change op_alloc P t ρ h = some r at e
    unfold op_alloc allocA at e
    split at e
    · cases e
    · rename_i z hz
      obtain ⟨v, h', e1, rfl⟩ := valH_inv e
      obtain ⟨inf, zv, hi, hzv, hzr⟩ := zeroA_sound R hz
      obtain ⟨R', a', w', g1, g2, g3, g4⟩ := boxA_sound k hB e1 hzr
      exact opRel_made ⟨R', .pointer (some a'), w', by simp [Instr.alloc, r_zeroValue w hi hzv, g1], g2, g3, g4⟩
  | box t x =>
    rw [hop] at e; change op_box P t x ρ h = some r at e
    obtain ⟨a, ha, e⟩ := one'_inv e
    obtain ⟨v, h', e1, rfl⟩ := valH_inv e
    obtain ⟨R', a', w', g1, g2, g3, g4⟩ := boxA_sound k hB e1 (hρ _ _ ha)
    exact opRel_made ⟨R', .pointer (some a'), w', by simp [Instr.box, g1], g2, g3, g4⟩
  | build t parts =>
    rw [hop] at e; change op_build P t parts ρ h = some r at e
    unfold op_build buildE at e
    split at e
    · cases e
    · rename_i l hl
      obtain ⟨v, e1, rfl⟩ := valE_inv e
      refine opRel_val k (buildA_sound w e1 ?_)
      rw [parts_toArray]; exact partsA_rel hρ hl
  | buildSlice t n parts =>
    rw [hop] at e; change op_buildSlice P t n parts ρ h = some r at e
    unfold op_buildSlice buildSliceE at e
    split at e
    · cases e
    · rename_i l hl
      obtain ⟨v, h', e1, rfl⟩ := valH_inv e
      refine opRel_made (buildSliceA_sound k hB e1 ?_)
      rw [parts_toArray]; exact partsA_rel hρ hl
  | insert t m key x =>
    rw [hop] at e; change op_insert P t m key x ρ h = some r at e
    unfold op_insert mapPutE at e
    split at e
    · cases e
    · rename_i a ha
      split at e
      · cases e
      · rename_i b hb
        split at e
        · cases e
        · rename_i c hc
          obtain ⟨h', e1, rfl⟩ := skipH_inv e
          exact opRel_skip (mapPutA_sound k e1 (hρ _ _ ha) (hρ _ _ hb) (hρ _ _ hc))
  | load t a =>
    rw [hop] at e; change op_load P t a ρ h = some r at e
    obtain ⟨p, hp, e⟩ := one'_inv e
    obtain ⟨v, e1, rfl⟩ := valE_inv e
    exact opRel_val k (loadA_sound k e1 (hρ _ _ hp))
  | store t a x =>
    rw [hop] at e; change op_store P t a x ρ h = some r at e
    obtain ⟨p, v, hp, hv, e⟩ := two_inv e
    obtain ⟨h', e1, rfl⟩ := skipH_inv e
    exact opRel_skip (storeA_sound k e1 (hρ _ _ hp) (hρ _ _ hv))
  | ready g => rw [hop] at e; change (none : Option AR) = some r at e; cases e
  | waits g => rw [hop] at e; change (none : Option AR) = some r at e; cases e
  | nilCheck x =>
    rw [hop] at e; change op_nilCheck P x ρ h = some r at e
    obtain ⟨a, ha, e⟩ := one'_inv e
    obtain ⟨v, e1, rfl⟩ := valE_inv e
    have ha := hρ _ _ ha
    unfold nilCheckA at e1
    split at e1
    · cases e1
      obtain ⟨L, hL, hm, hx⟩ := ha
      refine ⟨R, ρ' x, w, ?_, ⟨L, hL, hm, hx⟩, k, Keeps.refl _ _⟩
      simp only [hx, Sem.run_pure]
    · cases e1
      refine ⟨R, ρ' x, w, ?_, ha, k, Keeps.refl _ _⟩
      simp only [show ρ' x = .pointer (some ⟨_, _, none⟩) from ha, Sem.run_pure]
    · split at e1
      · cases e1
        obtain ⟨hn, fs, cs, hx, h1, h2⟩ := ha
        refine ⟨R, ρ' x, w, ?_, ⟨hn, fs, cs, hx, h1, h2⟩, k, Keeps.refl _ _⟩
        simp only [hx, Sem.run_pure]
      · cases e1
    · cases e1
      obtain ⟨y, hx, h1⟩ := ha
      refine ⟨R, ρ' x, w, ?_, ⟨y, hx, h1⟩, k, Keeps.refl _ _⟩
      simp only [hx, Sem.run_pure]
    · cases e1
      obtain ⟨L, hL, hx⟩ := ha
      refine ⟨R, ρ' x, w, ?_, ⟨L, hL, hx⟩, k, Keeps.refl _ _⟩
      simp only [hx, Sem.run_pure]
    · cases e1
  | binOp op t x y u =>
    rw [hop] at e; change op_binOp P op t x y u ρ h = some r at e
    obtain ⟨a, b, ha, hb, e⟩ := two_inv e
    obtain ⟨v, e1, rfl⟩ := valE_inv e
    exact opRel_val k (binA_sound k e1 (hρ _ _ ha) (hρ _ _ hb))
  | unOp op t x =>
    rw [hop] at e; change op_unOp P op t x ρ h = some r at e
    obtain ⟨a, ha, e⟩ := one'_inv e
    obtain ⟨v, e1, rfl⟩ := valE_inv e
    exact opRel_val k (unA_sound w e1 (hρ _ _ ha))
  | convert s d x =>
    rw [hop] at e; change op_convert P s d x ρ h = some r at e
    obtain ⟨a, ha, e⟩ := one'_inv e
    unfold convE at e
    split at e
    · obtain ⟨v, h', e1, rfl⟩ := valH_inv e
      exact opRel_made (convNewA_sound k hB e1 (hρ _ _ ha))
    · obtain ⟨v, e1, rfl⟩ := valE_inv e
      exact opRel_val k (convA_sound k e1 (hρ _ _ ha))
  | sliceToArrayPointer t x => rw [hop] at e; change (none : Option AR) = some r at e; cases e
  | makeInterface t x =>
    rw [hop] at e; change op_makeInterface P t x ρ h = some r at e
    obtain ⟨a, ha, e⟩ := one'_inv e
    obtain ⟨v, e1, rfl⟩ := valE_inv e
    exact opRel_val k (mkIfaceA_sound w e1 (hρ _ _ ha))
  | makeFunc f first cap =>
    rw [hop] at e; change op_makeFunc P f first cap ρ h = some r at e
    obtain ⟨v, e1, rfl⟩ := valE_inv e
    unfold mkFuncA at e1
    split at e1
    · cases e1
    · rename_i hy
      split at e1
      · cases e1
      · rename_i fs hfs
        split at e1
        · cases e1
        · rename_i cs hcs
          cases e1
          refine opRel_val k ⟨.func f (first.map ρ') (cap.map ρ'), by simp only [Instr.makeFunc, Sem.run_pure], fun l hl => hy l hl, _, _, ?_, mapO_rel hρ hfs, mapO_rel hρ hcs⟩
          rw [map_toArray ρ', map_toArray ρ']
  | makeMap t r' =>
    rw [hop] at e; change op_makeMap P t r' ρ h = some r at e
    unfold op_makeMap mkMapA at e
    obtain ⟨R', g1, g2, g3⟩ := newMap_sound k hB
    split at e
    · cases e
      exact opRel_made ⟨R', _, _, by simp [Instr.makeMap], g1, g2, g3⟩
    · rename_i x
      split at e
      · rename_i kk n hx
        split at e
        · cases e
        · rename_i kt hm
          cases e
          obtain ⟨kt, el⟩ := kt
          have hu := mapOf_sound hm
          have hx : ρ' x = .int kk n := hρ _ _ hx
          exact opRel_made ⟨R', _, _, by simp [Instr.makeMap, hx, r_underlying w hu, asInt, asIntOf], g1, g2, g3⟩
      · cases e
  | makeChan t s => rw [hop] at e; change (none : Option AR) = some r at e; cases e
  | makeSlice t l c =>
    rw [hop] at e; change op_makeSlice P t l c ρ h = some r at e
    obtain ⟨a, b, ha, hb, e⟩ := two_inv e
    obtain ⟨v, h', e1, rfl⟩ := valH_inv e
    exact opRel_made (makeSliceA_sound k hB e1 (hρ _ _ ha) (hρ _ _ hb))
  | slice t x lo hi mx =>
    rw [hop] at e; change op_slice P t x lo hi mx ρ h = some r at e
    obtain ⟨v, e1, rfl⟩ := valE_inv e
    unfold sliceOp at e1
    split at e1
    · cases e1
    · rename_i a ha
      split at e1
      · cases e1
      · rename_i l hl
        split at e1
        · cases e1
        · rename_i hh hhi
          split at e1
          · cases e1
          · rename_i m hm
            exact opRel_val k (sliceH_sound k e1 (hρ _ _ ha) (optEv_rel hρ hl) (optEv_rel hρ hhi) (optEv_rel hρ hm))
  | fieldAddr s x f =>
    rw [hop] at e; change op_fieldAddr P s x f ρ h = some r at e
    obtain ⟨a, ha, e⟩ := one'_inv e
    obtain ⟨v, e1, rfl⟩ := valE_inv e
    exact opRel_val k (fieldAddrA_sound w e1 (hρ _ _ ha))
  | field t x f =>
    rw [hop] at e; change op_field P t x f ρ h = some r at e
    obtain ⟨a, ha, e⟩ := one'_inv e
    obtain ⟨v, e1, rfl⟩ := valE_inv e
    exact opRel_val k (fieldA_sound w e1 (hρ _ _ ha))
  | indexAddr t x ix =>
    rw [hop] at e; change op_indexAddr P t x ix ρ h = some r at e
    obtain ⟨a, b, ha, hb, e⟩ := two_inv e
    obtain ⟨v, e1, rfl⟩ := valE_inv e
    exact opRel_val k (indexAddrA_sound w e1 (hρ _ _ ha) (hρ _ _ hb))
  | index t x ix =>
    rw [hop] at e; change op_index P t x ix ρ h = some r at e
    obtain ⟨a, b, ha, hb, e⟩ := two_inv e
    obtain ⟨v, e1, rfl⟩ := valE_inv e
    exact opRel_val k (indexA_sound w e1 (hρ _ _ ha) (hρ _ _ hb))
  | lookup t m key ok =>
    rw [hop] at e; change op_lookup P t m key ok ρ h = some r at e
    obtain ⟨a, b, ha, hb, e⟩ := two_inv e
    obtain ⟨v, e1, rfl⟩ := valE_inv e
    exact opRel_val k (lookupA_sound k e1 (hρ _ _ ha) (hρ _ _ hb))
  | mapUpdate t m key x =>
    rw [hop] at e; change op_mapUpdate P t m key x ρ h = some r at e
    unfold op_mapUpdate mapPutE at e
    split at e
    · cases e
    · rename_i a ha
      split at e
      · cases e
      · rename_i b hb
        split at e
        · cases e
        · rename_i c hc
          obtain ⟨h', e1, rfl⟩ := skipH_inv e
          exact opRel_skip (mapPutA_sound k e1 (hρ _ _ ha) (hρ _ _ hb) (hρ _ _ hc))
  | mapEntry t m key =>
    rw [hop] at e; change op_mapEntry P t m key ρ h = some r at e
    obtain ⟨a, b, ha, hb, e⟩ := two_inv e
    obtain ⟨v, h', e1, rfl⟩ := valH_inv e
    exact opRel_made (mapEntryA_sound k e1 (hρ _ _ ha) (hρ _ _ hb))
  | entryStore t m s x =>
    rw [hop] at e; change op_entryStore P t m s x ρ h = some r at e
    unfold op_entryStore entryPutE at e
    split at e
    · cases e
    · rename_i a ha
      split at e
      · cases e
      · rename_i b hb
        split at e
        · cases e
        · rename_i c hc
          obtain ⟨h', e1, rfl⟩ := skipH_inv e
          exact opRel_skip (entryStoreA_sound k e1 (hρ _ _ ha) (hρ _ _ hb) (hρ _ _ hc))
  | range t x =>
    rw [hop] at e; change op_range P t x ρ h = some r at e
    obtain ⟨a, ha, e⟩ := one'_inv e
    exact rangeA_sound k hB e (hρ _ _ ha)
  | next it s =>
    rw [hop] at e; change op_next P it s ρ h = some r at e
    obtain ⟨a, ha, e⟩ := one'_inv e
    exact nextA_sound k e (hρ _ _ ha)
  | entry it => rw [hop] at e; change (none : Option AR) = some r at e; cases e
  | typeAssert x u t ok =>
    rw [hop] at e; change op_typeAssert P x u t ok ρ h = some r at e
    obtain ⟨a, ha, e⟩ := one'_inv e
    obtain ⟨v, e1, rfl⟩ := valE_inv e
    exact opRel_val k (assertA_sound w e1 (hρ _ _ ha))
  | extract x i =>
    rw [hop] at e; change op_extract P x i ρ h = some r at e
    obtain ⟨v, e1, rfl⟩ := valE_inv e
    unfold extractA at e1
    split at e1
    · rename_i vs hx
      obtain ⟨vs', hv, hr⟩ := hρ _ _ hx
      obtain ⟨y, hy, hyr⟩ := hr.get i v e1
      refine opRel_val k ⟨y, ?_, hyr⟩
      simp [Instr.extract, hv, hy]
    · cases e1
  | call c =>
    rw [hop] at e; change op_call P c ρ h = some r at e
    exact callOpA_sound k hB hρ e
  | go c => rw [hop] at e; change (none : Option AR) = some r at e; cases e
  | «defer» c =>
    rw [hop] at e; change op_defer P c ρ h = some r at e
    exact deferA_sound hρ e
  | panic x =>
    rw [hop] at e; change op_panic P x ρ h = some r at e
    obtain ⟨a, ha, e⟩ := one'_inv e
    unfold panicA at e
    split at e
    · cases e
      obtain ⟨y, hx, hy⟩ := hρ _ _ ha
      refine ⟨.iface _ y, ?_, y, rfl, hy⟩
      simp only [Instr.panic, hx, goPanic, Sem.run_bind, Sem.run]
      rfl
    · cases e
  | send a b => rw [hop] at e; change (none : Option AR) = some r at e; cases e
  | recv a b c => rw [hop] at e; change (none : Option AR) = some r at e; cases e
  | select a b => rw [hop] at e; change (none : Option AR) = some r at e; cases e

end

end Go.Proofs.Ytcdpmiebmhjmpaa.Ev
