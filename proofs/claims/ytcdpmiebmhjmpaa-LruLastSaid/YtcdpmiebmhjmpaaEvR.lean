/- Memory that the evaluator has made and the model has not yet: what makes it, and when it comes. -/
import Derived.Test.YtcdpmiebmhjmpaaEvQ
namespace Go.Proofs.Ytcdpmiebmhjmpaa.Ev
open Go

def Base.drop (B : Base) (id : Nat) : Base := { B with pend := fun j => if j = id then none else B.pend j }
def Base.add (B : Base) (id : Nat) (o : AObj) : Base := { B with pend := fun j => if j = id then some o else B.pend j }

section
variable {P : Program} {B : Base} {R : Bij} {h : AHeap} {w : World}

/-- Made by the evaluator alone. -/
theorem HRel.ahead (k : HRel P B R h w) (o : AObj) : HRel P (B.add h.next o) R (h.new o) w where
  fresh i hi r := k.fresh i (by rw [next_new] at hi; omega) r
  pend i o' e := by
    simp only [Base.add] at e
    split at e
    · rename_i hi
      cases e; subst hi
      exact ⟨by rw [next_new]; omega, by rw [get_new, if_pos rfl], fun r => k.fresh _ (Nat.le_refl _) r⟩
    · obtain ⟨e1, e2, e3⟩ := k.pend i o' e
      exact ⟨by rw [next_new]; omega, by rw [get_new, if_neg (by omega)]; exact e2, e3⟩
  obj i o' e hp := by
    simp only [Base.add] at hp
    split at hp
    · cases hp
    · rename_i hi
      rw [get_new, if_neg hi] at e
      exact k.obj i o' e hp
  place := k.place
  apart := k.apart
  same := k.same
  glob g c hg := k.glob g c (by rwa [glob_new] at hg)
  low := k.low
  rp i hi := by
    have hlt := (k.rd i hi).1
    simp only [Base.add]
    rw [if_neg (by omega)]; exact k.rp i hi
  rol := k.rol
  pin := k.pin
  rd i hi := by
    have hlt := (k.rd i hi).1
    refine ⟨by rw [next_new]; omega, fun o' e => ?_⟩
    rw [get_new, if_neg (by omega)] at e
    exact (k.rd i hi).2 o' e

/-- How the model makes an object. -/
def Lays (P : Program) (R : Bij) (w : World) (s : Sem Value) (vf : Nat → AV) (ob : AObj) : Prop :=
  ∃ blk L v', L.block = w.heap.size ∧ s.run P w = .ok v' (w.alloc blk) ∧ ∀ id, (∀ r, R id r = none) → VRel (R.upd id 0 L) (vf id) v' ∧ ObjRel P (R.upd id 0 L) (w.alloc blk) id ob

/-- What was pending comes. -/
theorem HRel.adopt (k : HRel P B R h w) (hB : B.n ≤ w.heap.size) {id : Nat} {ob : AObj} {s : Sem Value} {vf : Nat → AV} (hp : B.pend id = some ob) (hl : Lays P R w s vf ob) :
    ∃ R' v' w', s.run P w = .ok v' w' ∧ VRel R' (vf id) v' ∧ HRel P (B.drop id) R' h w' ∧ Keeps R w R' w' := by
  obtain ⟨blk, L, v', hL, hrun, hid⟩ := hl
  obtain ⟨p1, p2, p3⟩ := k.pend id ob hp
  obtain ⟨g1, g2⟩ := hid id p3
  have hle := R.le_upd (i := id) (r := 0) L (p3 0)
  have hsz : (w.alloc blk).heap.size = w.heap.size + 1 := by show (w.heap.push _).size = _; simp
  have hidR : ∀ {r M}, R.upd id 0 L id r = some M → M = L := by
    intro r M e
    by_cases hr : r = 0
    · subst hr; rw [R.upd_same] at e; cases e; rfl
    · rw [R.upd_other L (by intro e; exact hr e.2), p3] at e; cases e
  have hoth : ∀ {j r}, j ≠ id → R.upd id 0 L j r = R j r := fun hj => R.upd_other L (fun e => hj e.1)
  refine ⟨R.upd id 0 L, v', w.alloc blk, hrun, g1, ⟨?_, ?_, ?_, ?_, fun i hi => k.rd i hi, fun i hi => ?_, fun i r M hi e => ?_, fun b hb => (heap_alloc_lt w blk (Nat.lt_of_lt_of_le (Base.low_lt (B := B) hb) hB)).trans (k.low b hb), fun i r M e => hle _ _ _ (k.pin i r M e), ?_, ?_, fun g c hg => ?_⟩, ⟨rfl, rfl, rfl, by omega, hle, fun b hb hn => ⟨heap_alloc_lt w blk hb, fun j r M e => ?_⟩, Nat.le_refl _⟩⟩
  · intro i hi r
    rw [hoth (by omega)]; exact k.fresh i hi r
  · intro i o e hpi
    by_cases hi : i = id
    · subst hi; rw [p2] at e; cases e; exact g2
    · simp only [Base.drop, if_neg hi] at hpi
      exact (k.obj i o e hpi).mono hle (fun r => hoth hi) (fun r M e => heap_alloc_lt w blk (k.place i r M e).2)
  · intro i o e
    simp only [Base.drop] at e
    split at e
    · cases e
    · rename_i hi
      obtain ⟨e1, e2, e3⟩ := k.pend i o e
      exact ⟨e1, e2, fun r => by rw [hoth hi]; exact e3 r⟩
  · intro i r M e
    by_cases hi : i = id
    · subst hi; rw [hidR e]; exact ⟨.inl (.inl (by show B.n ≤ _; omega)), by omega⟩
    · rw [hoth hi] at e
      have := k.place i r M e
      exact ⟨this.1, by omega⟩
  · simp only [Base.drop]
    split
    · rfl
    · exact k.rp i hi
  · by_cases hj : i = id
    · subst hj
      rw [k.rp i hi] at hp; cases hp
    · rw [hoth hj] at e
      exact k.rol i r M hi e
  · intro i r i' r' M M' e e' hb hor
    by_cases hi : i = id
    · subst hi
      rw [hidR e] at hb
      by_cases hi' : i' = i
      · exact hi'.symm
      · rw [hoth hi'] at e'; have := (k.place i' r' M' e').2; omega
    · rw [hoth hi] at e
      by_cases hi' : i' = id
      · subst hi'; rw [hidR e'] at hb; have := (k.place i r M e).2; omega
      · rw [hoth hi'] at e'; exact k.apart i r i' r' M M' e e' hb hor
  · intro i r r' M M' e e' hb
    by_cases hi : i = id
    · subst hi; rw [hidR e, hidR e']
    · rw [hoth hi] at e e'; exact k.same i r r' M M' e e' hb
  · obtain ⟨e1, cs, el, fz, e2, e3⟩ := k.glob g c hg
    exact ⟨e1, cs, el, fz, (heap_alloc_lt w blk (Nat.lt_of_lt_of_le (Base.low_lt e1) hB)).trans e2, e3⟩
  · by_cases hc : j = id ∧ r = 0
    · rw [hc.1, hc.2, R.upd_same] at e; cases e; omega
    · rw [R.upd_other L hc] at e; exact hn j r M e

noncomputable def cellsObj (el : TypeId) (l : List AV) : AObj := .cells (storeList .leaf 0 l) l.length el 0 0 1 0 false .leaf

theorem newCells_eq (h : AHeap) (el : TypeId) (l : List AV) : newCells h el l false = h.new (cellsObj el l) := rfl

theorem lay_cells {el : TypeId} {l : List AV} {vs : List Value} {kap : Nat} (hr : VRels R l vs) (hk : kap * P.cellsOf el = l.length) (hkb : kap ≤ 9223372036854775807) {id : Nat} (hfree : ∀ r, R id r = none) :
    ObjRel P (R.upd id 0 ⟨w.heap.size, 0, kap⟩) (w.alloc (.cells vs.toArray el)) id (cellsObj el l) := by
  refine ⟨Nat.le_refl _, by omega, fun r hr' => ?_, fun r e h1 h2 h3 => ?_, fun r e h1 h2 h3 => ?_⟩
  rotate_left 2
  · obtain rfl : r = 0 := by omega
    simp [extOf] at h3; omega
  · rw [R.upd_other _ (by omega)]; exact hfree r
  · obtain rfl : r = 0 := by omega
    simp [extOf] at h3; subst h3
    refine ⟨_, R.upd_same _ _ _, vs.toArray, 0, 0, ?_, by simp [hr.length], by simp [hr.length, hk], ⟨⟨Nat.le_refl _, fun _ => Nat.le_trans hkb (Nat.le_add_left _ _)⟩, fun j a b => by omega⟩, fun j x a _ c => ?_⟩
    · exact heap_alloc_new w _
    · rw [storeList_get] at c
      simp only [Nat.zero_le, true_and, Nat.zero_add, Nat.sub_zero] at c ⊢
      rw [if_pos a] at c
      obtain ⟨y, hy, hyr⟩ := hr.get j x c
      exact ⟨y, by simpa using hy, VRel.mono (R.le_upd _ (hfree 0)) _ _ hyr⟩

/-- What a float is. -/
def FloatIs (P : Program) (ρ : Operand → Option AV) (op : Op) (vf : Nat → AV) (ob : AObj) : Prop :=
  (∀ h, opA P ρ h op = some (.val (vf h.next) (h.new ob))) ∧
  ∀ (R : Bij) (w : World) (ρ' : Operand → Value) (o : Oper), o.op = op → (∀ x v, ρ x = some v → VRel R v (ρ' x)) →
    ∃ s, execOp ρ' o = (do pure (.value (← s))) ∧ Lays P R w s vf ob

theorem boxA_float {t : TypeId} {x v : AV} {h' : AHeap} (e : boxA P h t x = some (v, h')) :
    (∀ h, boxA P h t x = some (.ptr h.next 0 0, h.new (cellsObj t x.cells))) ∧
    ∀ (R : Bij) (w : World) (x' : Value) (f : Sem Value), VRel R x x' → f.run P w = (do pure (.pointer (some (← newVar t x'))) : Sem Value).run P w → Lays P R w f (fun id => .ptr id 0 0) (cellsObj t x.cells) := by
  unfold boxA at e
  split at e
  · rename_i hc
    refine ⟨fun h => by simp only [boxA, hc, and_self, if_true]; rfl, fun R w x' f hx hf => ?_⟩
    have hcx := hx.cells
    have hkap : 1 * P.cellsOf t = x.cells.length := by
      obtain ⟨inf, hi, hs⟩ := sizeT_info hc.2
      rw [cellsOf_info hi, hs, Nat.one_mul]
    refine ⟨.cells x'.cells t, ⟨w.heap.size, 0, 1⟩, .pointer (some ⟨w.heap.size, 0, none⟩), rfl, by rw [hf]; simp [newVar, newRow], fun id hid => ⟨new_ptr R, ?_⟩⟩
    have := lay_cells (P := P) (w := w) hcx hkap (by decide) hid
    simpa using this
  · cases e

theorem buildSliceA_float {t : TypeId} {len : Nat} {parts : List (Nat × AV)} {v : AV} {h' : AHeap} (e : buildSliceA P h t len parts = some (v, h')) :
    ∃ el cells, (∀ h, buildSliceA P h t len parts = some (.slc h.next 0 0 len len, h.new (cellsObj el cells))) ∧
    ∀ (R : Bij) (w : World) (parts' : Array (Nat × Value)), All2 (PRel R) parts parts'.toList → Lays P R w (Instr.buildSlice t len parts') (fun id => .slc id 0 0 len len) (cellsObj el cells) := by
  unfold buildSliceA at e
  split at e
  · rename_i el hu
    split at e
    · cases e
    · rename_i inf hi
      split at e
      · rename_i hsz
        split at e
        · cases e
        · rename_i z hz
          split at e
          · rename_i hc
            split at e
            · cases e
            · rename_i cells hf
              split at e
              · rename_i hall
                refine ⟨el, cells, fun h => ?_, fun R w parts' hp => ?_⟩
                · simp only [buildSliceA, hu, hi, if_pos hsz, hz, if_pos hc, hf, hall, if_true, newCells_eq]
                · obtain ⟨inf', zv, hi', hzv, hzr⟩ := zeroA_sound R hz
                  rw [hi] at hi'; cases hi'
                  have hzl : zv.cells.size = inf.size := by have := hzr.cells.length; rw [← hc.1, ← this]; simp
                  have hzeros := zeros_rel hzr len
                  rw [hzl] at hzeros
                  obtain ⟨r', e1, e2, e3⟩ := fillA_sound (place' := fun i => some (i * inf.size, inf.size)) (fun i r h => h) hf hp hzeros
                  have hkap : len * P.cellsOf el = cells.length := by rw [cellsOf_info hi, e3, repeatL_length, hc.1]
                  refine ⟨.cells r' el, ⟨w.heap.size, 0, len⟩, .slice (some ⟨w.heap.size, 0, none⟩) len len, rfl, ?_, fun id hid => ⟨new_slc R, by simpa using lay_cells (P := P) (w := w) e2 hkap (len_small hsz hc.2) hid⟩⟩
                  by_cases h0 : len * inf.size = 0
                  · have hl0 : len = 0 := by rcases Nat.mul_eq_zero.1 h0 with h | h <;> omega
                    subst hl0
                    have hr0 : Array.range 0 = #[] := rfl
                    simp only [Nat.zero_mul, hr0, Array.map_empty] at e1
                    simp [Instr.buildSlice, r_underlying w hu, r_sizeOf w hi, hr0, e1, newRow]
                  · have : ¬ (2 ^ 24 < len * inf.size) := by omega
                    simp only [Instr.buildSlice, r_underlying w hu, r_sizeOf w hi, r_zeroValue w hi hzv, Sem.run_bind, Result.andThen_ok, Sem.run_ite, gt_iff_lt, this, if_false, h0, Sem.run_pure, hzl, e1, newRow, run_newObj, World.alloc_eq]
              · cases e
          · cases e
      · cases e
  · cases e

theorem makeSliceA_float {t : TypeId} {l c v : AV} {h' : AHeap} (e : makeSliceA P h t l c = some (v, h')) :
    ∃ el cells n m, (∀ h, makeSliceA P h t l c = some (.slc h.next 0 0 n m, h.new (cellsObj el cells))) ∧
    ∀ (R : Bij) (w : World) (l' c' : Value), VRel R l l' → VRel R c c' → Lays P R w (Instr.makeSlice t l' c') (fun id => .slc id 0 0 n m) (cellsObj el cells) := by
  unfold makeSliceA at e
  split at e
  · rename_i el hu
    split at e
    · rename_i k1 l0
      split at e
      · rename_i k2 c0
        unfold makeSliceN at e
        split at e
        · cases e
        · rename_i inf hi
          split at e
          · cases e
          · rename_i z hz
            split at e
            · rename_i hcond
              refine ⟨el, repeatL z.cells c0.toNat, l0.toNat, c0.toNat, fun h => ?_, fun R w l' c' hl hc => ?_⟩
              · simp only [makeSliceA, hu, makeSliceN, hi, hz, if_pos hcond, newCells_eq]
              · obtain ⟨c1, c2, c3, c4, c5, c6, c7⟩ := hcond
                cases hl; cases hc
                obtain ⟨inf', zv, hi', hzv, hzr⟩ := zeroA_sound R hz
                rw [hi] at hi'; cases hi'
                have hzl : zv.cells.size = inf.size := by have := hzr.cells.length; rw [← c5, ← this]; simp
                have hzeros := zeros_rel hzr c0.toNat
                rw [hzl] at hzeros
                have hkap : c0.toNat * P.cellsOf el = (repeatL z.cells c0.toNat).length := by rw [cellsOf_info hi, repeatL_length, c5]
                refine ⟨.cells ((Array.range (c0.toNat * inf.size)).map (zv.cells[· % inf.size]!)) el, ⟨w.heap.size, 0, c0.toNat⟩, .slice (some ⟨w.heap.size, 0, none⟩) l0.toNat c0.toNat, rfl, ?_, fun id hid => ⟨new_slc R, by
                  have := lay_cells (P := P) (w := w) hzeros hkap (by omega) hid
                  rw [Array.toArray_toList] at this
                  exact this⟩⟩
                have w1 : IntKind.i64.wrap l0 = l0 := by simp only [IntKind.wrap, IntKind.bits, IntKind.signed]; simp; omega
                have w2 : IntKind.i64.wrap c0 = c0 := by simp only [IntKind.wrap, IntKind.bits, IntKind.signed]; simp; omega
                have b1 : (decide (c0 < 0) || decide ((inf.bytes : Int) * c0 > 2 ^ 48)) = false := by simp; omega
                have b2 : decide (l0 < 0) = false := by simp; omega
                have b3 : decide (l0 > c0) = false := by simp; omega
                simp only [Instr.makeSlice, Sem.run_bind, r_underlying w hu, Result.andThen_ok, asInt, asIntOf, Sem.run_pure, r_typeInfo w hi, w1, w2, b1, b2, b3, Bool.or_self, Bool.false_eq_true, if_false, run_askRoom, r_sizeOf w hi]
                by_cases h0 : c0.toNat * inf.size = 0
                · have hc0 : c0.toNat = 0 := by rcases Nat.mul_eq_zero.1 h0 with h | h <;> omega
                  have hr0 : Array.range 0 = #[] := rfl
                  simp [hc0, newRow, hr0]
                · simp only [h0, if_false, Sem.run_bind, r_zeroValue w hi hzv, Result.andThen_ok, Sem.run_pure, hzl, newRow, run_newObj, World.alloc_eq]
            · cases e
      · cases e
    · cases e
  · cases e

theorem float_inv {ρ : Operand → Option AV} {op : Op} {r : AR} (hf : isFloat op = true) (e : opA P ρ h op = some r) : ∃ vf ob, FloatIs P ρ op vf ob := by
  cases op with
  | alloc t =>
    change op_alloc P t ρ h = some r at e
    unfold op_alloc allocA at e
    split at e
    · cases e
    · rename_i z hz
      obtain ⟨v, h', e1, rfl⟩ := valH_inv e
      obtain ⟨b1, b2⟩ := boxA_float e1
      refine ⟨fun id => .ptr id 0 0, cellsObj t z.cells, fun h => ?_, fun R w ρ' o ho hρ => ?_⟩
      · show op_alloc P t ρ h = _
        unfold op_alloc allocA
        rw [hz]; simp only [b1, valH]
      · obtain ⟨inf, zv, hi, hzv, hzr⟩ := zeroA_sound R hz
        refine ⟨Instr.alloc t true (.tuple #[]), by simp only [execOp, ho], b2 R w zv _ hzr ?_⟩
        simp [Instr.alloc, r_zeroValue w hi hzv]
  | box t x =>
    change op_box P t x ρ h = some r at e
    obtain ⟨a, ha, e⟩ := one'_inv e
    obtain ⟨v, h', e1, rfl⟩ := valH_inv e
    obtain ⟨b1, b2⟩ := boxA_float e1
    refine ⟨fun id => .ptr id 0 0, cellsObj t a.cells, fun h => ?_, fun R w ρ' o ho hρ => ?_⟩
    · show op_box P t x ρ h = _
      simp only [op_box, one', ha, b1, valH]
    · refine ⟨Instr.box t (ρ' x), by simp only [execOp, ho], b2 R w _ _ (hρ _ _ ha) ?_⟩
      simp [Instr.box]
  | buildSlice t n parts =>
    change op_buildSlice P t n parts ρ h = some r at e
    unfold op_buildSlice buildSliceE at e
    split at e
    · cases e
    · rename_i l hl
      obtain ⟨v, h', e1, rfl⟩ := valH_inv e
      obtain ⟨el, cells, b1, b2⟩ := buildSliceA_float e1
      refine ⟨fun id => .slc id 0 0 n n, cellsObj el cells, fun h => ?_, fun R w ρ' o ho hρ => ?_⟩
      · show op_buildSlice P t n parts ρ h = _
        unfold op_buildSlice buildSliceE
        rw [hl]; simp only [b1, valH]
      · refine ⟨Instr.buildSlice t n (parts.map fun (i, x) => (i, ρ' x)), by simp only [execOp, ho], b2 R w _ ?_⟩
        rw [parts_toArray]; exact partsA_rel hρ hl
  | makeSlice t l c =>
    change op_makeSlice P t l c ρ h = some r at e
    obtain ⟨a, b, ha, hb, e⟩ := two_inv e
    obtain ⟨v, h', e1, rfl⟩ := valH_inv e
    obtain ⟨el, cells, n, m, b1, b2⟩ := makeSliceA_float e1
    refine ⟨fun id => .slc id 0 0 n m, cellsObj el cells, fun h => ?_, fun R w ρ' o ho hρ => ?_⟩
    · show op_makeSlice P t l c ρ h = _
      simp only [op_makeSlice, two, ha, hb, b1, valH]
    · exact ⟨Instr.makeSlice t (ρ' l) (ρ' c), by simp only [execOp, ho], b2 R w _ _ (hρ _ _ ha) (hρ _ _ hb)⟩
  | makeMap t r' =>
    cases r' with
    | none =>
      refine ⟨fun id => .mp id, .map [] 0, fun h => rfl, fun R w ρ' o ho hρ => ⟨Instr.makeMap t none, by simp only [execOp, ho, Option.map_none], .map #[] 0, ⟨w.heap.size, 0, 0⟩, .map (some w.heap.size), rfl, by simp [Instr.makeMap], fun id hid => ?_⟩⟩
      exact ⟨⟨_, R.upd_same _ _ _, rfl⟩, _, #[], R.upd_same _ _ _, heap_alloc_new w _, rfl⟩
    | some x => cases hf
  | _ => cases hf

end

end Go.Proofs.Ytcdpmiebmhjmpaa.Ev
