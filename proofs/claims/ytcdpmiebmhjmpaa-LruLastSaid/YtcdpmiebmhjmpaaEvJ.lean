/- What the evaluator's operations say is what the model's do: slices and maps that are made and written. -/
import Derived.Test.YtcdpmiebmhjmpaaEvI
namespace Go.Proofs.Ytcdpmiebmhjmpaa.Ev
open Go

section
variable {P : Program} {B : Base} {R : Bij} {h : AHeap} {w : World}

/-- What is made, and where: a value and a heap. -/
def Made (P : Program) (B : Base) (R : Bij) (w : World) (s : Sem Value) (v : AV) (h' : AHeap) : Prop :=
  ∃ R' v' w', s.run P w = .ok v' w' ∧ VRel R' v v' ∧ HRel P B R' h' w' ∧ Keeps R w R' w'

theorem new_slc {kap n o c : Nat} {i : Nat} (R : Bij) : VRel (R.upd i 0 ⟨n, 0, kap⟩) (.slc i 0 0 o c) (.slice (some ⟨n, 0, none⟩) o c) :=
  ⟨⟨n, 0, kap⟩, R.upd_same _ _ _, by simp, by simp⟩
theorem new_slg {kap n o : Nat} {i : Nat} (R : Bij) (h : o ≤ kap) : VRel (R.upd i 0 ⟨n, 0, kap⟩) (.slg i 0 0 o 0) (.slice (some ⟨n, 0, none⟩) o kap) :=
  ⟨⟨n, 0, kap⟩, ⟨n, 0, none⟩, R.upd_same _ _ _, by simp, by simp; exact h, by simp, by simp⟩

theorem buildSliceA_sound (k : HRel P B R h w) (hB : B.n ≤ w.heap.size) {t : TypeId} {len : Nat} {parts : List (Nat × AV)} {parts' : Array (Nat × Value)} {v : AV} {h' : AHeap}
    (e : buildSliceA P h t len parts = some (v, h')) (hp : All2 (PRel R) parts parts'.toList) : Made P B R w (Instr.buildSlice t len parts') v h' := by
  unfold buildSliceA at e
  split at e
  · rename_i el hu
    split at e
    · cases e
    · rename_i inf hi
      split at e
      · rename_i hsz
        split at e
        · cases e
        · rename_i z hz
          obtain ⟨inf', zv, hi', hzv, hzr⟩ := zeroA_sound R hz
          rw [hi] at hi'; cases hi'
          split at e
          · rename_i hc
            split at e
            · cases e
            · rename_i cells hf
              split at e
              · cases e
                have hzl : zv.cells.size = inf.size := by have := hzr.cells.length; rw [← hc.1, ← this]; simp
                have hzeros := zeros_rel hzr len
                rw [hzl] at hzeros
                obtain ⟨r', e1, e2, e3⟩ := fillA_sound (place' := fun i => some (i * inf.size, inf.size)) (fun i r h => h) hf hp hzeros
                have hkap : len * P.cellsOf el = cells.length := by rw [cellsOf_info hi, e3, repeatL_length, hc.1]
                obtain ⟨g1, g2⟩ := new_cells (w' := w.alloc (.cells r' el)) k hB e2 hkap (len_small hsz hc.2) (by show w.heap.push (.cells r' el) = w.heap.push (.cells r'.toList.toArray el); simp) rfl rfl rfl
                refine ⟨_, .slice (some ⟨w.heap.size, 0, none⟩) len len, w.alloc (.cells r' el), ?_, new_slc R, g1, g2⟩
                by_cases h0 : len * inf.size = 0
                · have hl0 : len = 0 := by rcases Nat.mul_eq_zero.1 h0 with h | h <;> omega
                  subst hl0
                  have hr0 : Array.range 0 = #[] := rfl
                  simp only [Nat.zero_mul, hr0, Array.map_empty] at e1
                  simp [Instr.buildSlice, r_underlying w hu, r_sizeOf w hi, hr0, e1, newRow]
                · have : ¬ (2 ^ 24 < len * inf.size) := by omega
                  simp only [Instr.buildSlice, r_underlying w hu, r_sizeOf w hi, r_zeroValue w hi hzv, Sem.run_bind, Result.andThen_ok, Sem.run_ite, gt_iff_lt, this, if_false, h0, Sem.run_pure, hzl, e1, newRow, run_newObj, World.alloc_eq]
              · cases e
          · cases e
      · cases e
  · cases e

theorem makeSliceA_sound (k : HRel P B R h w) (hB : B.n ≤ w.heap.size) {t : TypeId} {l c v : AV} {l' c' : Value} {h' : AHeap}
    (e : makeSliceA P h t l c = some (v, h')) (hl : VRel R l l') (hc : VRel R c c') : Made P B R w (Instr.makeSlice t l' c') v h' := by
  unfold makeSliceA at e
  split at e
  · rename_i el hu
    split at e
    · rename_i k1 l0
      cases hl
      split at e
      · rename_i k2 c0
        cases hc
        unfold makeSliceN at e
        split at e
        · cases e
        · rename_i inf hi
          split at e
          · cases e
          · rename_i z hz
            obtain ⟨inf', zv, hi', hzv, hzr⟩ := zeroA_sound R hz
            rw [hi] at hi'; cases hi'
            split at e
            · rename_i hcond
              obtain ⟨c1, c2, c3, c4, c5, c6, c7⟩ := hcond
              cases e
              have hzl : zv.cells.size = inf.size := by have := hzr.cells.length; rw [← c5, ← this]; simp
              have hzeros := zeros_rel hzr c0.toNat
              rw [hzl] at hzeros
              have hkap : c0.toNat * P.cellsOf el = (repeatL z.cells c0.toNat).length := by rw [cellsOf_info hi, repeatL_length, c5]
              obtain ⟨g1, g2⟩ := new_cells (w' := w.alloc (.cells ((Array.range (c0.toNat * inf.size)).map (zv.cells[· % inf.size]!)) el)) k hB hzeros hkap (by omega) (by rw [Array.toArray_toList]; rfl) rfl rfl rfl
              refine ⟨_, .slice (some ⟨w.heap.size, 0, none⟩) l0.toNat c0.toNat, _, ?_, new_slc R, g1, g2⟩
              have w1 : IntKind.i64.wrap l0 = l0 := by simp only [IntKind.wrap, IntKind.bits, IntKind.signed]; simp; omega
              have w2 : IntKind.i64.wrap c0 = c0 := by simp only [IntKind.wrap, IntKind.bits, IntKind.signed]; simp; omega
              have b1 : (decide (c0 < 0) || decide ((inf.bytes : Int) * c0 > 2 ^ 48)) = false := by simp; omega
              have b2 : decide (l0 < 0) = false := by simp; omega
              have b3 : decide (l0 > c0) = false := by simp; omega
              simp only [Instr.makeSlice, Sem.run_bind, r_underlying w hu, Result.andThen_ok, asInt, asIntOf, Sem.run_pure, r_typeInfo w hi, w1, w2, b1, b2, b3, Bool.or_self, Bool.false_eq_true, if_false, run_askRoom, r_sizeOf w hi]
              by_cases h0 : c0.toNat * inf.size = 0
              · have hc0 : c0.toNat = 0 := by rcases Nat.mul_eq_zero.1 h0 with h | h <;> omega
                have hr0 : Array.range 0 = #[] := rfl
                simp [hc0, newRow, hr0]
              · simp only [h0, if_false, Sem.run_bind, r_zeroValue w hi hzv, Result.andThen_ok, Sem.run_pure, hzl, newRow, run_newObj, World.alloc_eq]
            · cases e
      · cases e
    · cases e
  · cases e

/-- Another kind of object, made. -/
theorem new_other (k : HRel P B R h w) (hB : B.n ≤ w.heap.size) (o : AObj) (ob : Obj)
    (ho : ∀ R' : Bij, R.le R' → R' h.next 0 = some ⟨w.heap.size, 0, 0⟩ → ObjRel P R' (w.alloc ob) h.next o) :
    HRel P B (R.upd h.next 0 ⟨w.heap.size, 0, 0⟩) (h.new o) (w.alloc ob) ∧ Keeps R w (R.upd h.next 0 ⟨w.heap.size, 0, 0⟩) (w.alloc ob) :=
  k.new hB o ob ⟨w.heap.size, 0, 0⟩ rfl rfl rfl rfl rfl (ho _ (R.le_upd _ (k.fresh _ (Nat.le_refl _) 0)) (R.upd_same _ _ _))

theorem newMap_sound (k : HRel P B R h w) (hB : B.n ≤ w.heap.size) : ∃ R', VRel R' (.mp h.next) (.map (some w.heap.size)) ∧ HRel P B R' (h.new (.map [] 0)) (w.alloc (.map #[] 0)) ∧ Keeps R w R' (w.alloc (.map #[] 0)) := by
  obtain ⟨g1, g2⟩ := new_other k hB (.map [] 0) (.map #[] 0) (fun R' _ e => ⟨_, #[], e, heap_alloc_new w _, rfl⟩)
  exact ⟨_, ⟨_, R.upd_same _ _ _, rfl⟩, g1, g2⟩

theorem newIter_sound (k : HRel P B R h w) (hB : B.n ≤ w.heap.size) (s : List UInt8) : ∃ R', VRel R' (.ptr h.next 0 0) (.pointer (some ⟨w.heap.size, 0, none⟩)) ∧ HRel P B R' (h.new (.iter s 0)) (w.alloc (.stringIter ⟨s.toArray⟩ 0)) ∧ Keeps R w R' (w.alloc (.stringIter ⟨s.toArray⟩ 0)) := by
  obtain ⟨g1, g2⟩ := new_other k hB (.iter s 0) (.stringIter ⟨s.toArray⟩ 0) (fun R' _ e => ⟨_, e, heap_alloc_new w _⟩)
  exact ⟨_, ⟨_, R.upd_same _ _ _, Nat.le_refl _, rfl⟩, g1, g2⟩

/-- A block that is no row of cells, laid anew. -/
def setBlk (w : World) (b : Nat) (o : Obj) : World := { w with heap := w.heap.setIfInBounds b o }
theorem setBlk_self (w : World) (b : Nat) (o : Obj) (h : b < w.heap.size) : (setBlk w b o).heap[b]? = some o := by simp [setBlk, h]
theorem setBlk_other (w : World) {b b' : Nat} (o : Obj) (h : b' ≠ b) : (setBlk w b o).heap[b']? = w.heap[b']? := by
  simp only [setBlk]; rw [Array.getElem?_setIfInBounds, if_neg (fun e => h e.symm)]
theorem setBlk_size (w : World) (b : Nat) (o : Obj) : (setBlk w b o).heap.size = w.heap.size := by simp [setBlk]

/-- One object that is no row of cells turns. -/
theorem put_other (k : HRel P B R h w) {i : Nat} {L : Loc} (hL : R i 0 = some L) (hnr : ¬ B.ro i) (o : AObj) (ob : Obj)
    (ho : ObjRel P R (setBlk w L.block ob) i o) : HRel P B R (h.put i o) (setBlk w L.block ob) ∧ Keeps R w R (setBlk w L.block ob) := by
  have hi : i < h.next := by
    rcases Nat.lt_or_ge i h.next with h1 | h1
    · exact h1
    · rw [k.fresh i h1] at hL; cases hL
  refine ⟨k.touch i _ (k.live hL) R.le_refl (by rw [next_put]; exact Nat.le_refl _) (by rw [next_put]; exact hi) (fun j => get_put h i j _) (fun _ _ _ => rfl) (fun j r' M hj e => setBlk_other w _ (fun hb => hj (k.apart _ _ _ _ _ _ e hL hb (.inr hnr)))) ho (by rw [setBlk_size]; exact Nat.le_refl _) (fun r' M e => ⟨(k.place i r' M e).1, by rw [setBlk_size]; exact (k.place i r' M e).2, fun j r'' M' hj e' hb => hj (k.apart _ _ _ _ _ _ e' e hb (.inr hnr))⟩) (k.same i) (glob_put _ _ _) (fun b hb => setBlk_other w _ (k.off hL hnr hb)) hnr, ?_⟩
  exact ⟨rfl, rfl, rfl, by rw [setBlk_size]; exact Nat.le_refl _, R.le_refl, fun b hb hn => ⟨setBlk_other w _ (fun e => hn i 0 L hL e.symm), hn⟩, Nat.le_refl _⟩

theorem run_setObj (P : Program) {w : World} {b : Nat} {o ob : Obj} (e : w.heap[b]? = some o) (hc : ∀ c t z, o ≠ .cells c t z) : (setObj b ob).run P w = .ok () (setBlk w b ob) := by
  cases o <;> first | exact absurd rfl (hc _ _ _) | (simp [setObj, Sem.run, e, setBlk])

theorem nextA_sound (k : HRel P B R h w) {x : AV} {x' : Value} {s : Bool} {ty : TypeId} {r : AR} (e : nextA h x s = some r) (hx : VRel R x x') : OpRel P B R w (do pure (.value (← Instr.next x' s ty))) r := by
  unfold nextA at e
  split at e
  · cases e
  · split at e
    · rename_i i r0 o0
      split at e
      · split at e
        · obtain ⟨L, hL, _, rfl⟩ := hx
          unfold nextAt at e
          split at e
          · rename_i str pos ho
            obtain ⟨L', hL', hh⟩ := k.obj' hL ho
            rw [hL] at hL'; cases hL'
            have hg : (getObj L.block).run P w = .ok (.stringIter ⟨str.toArray⟩ pos) w := by simp [getObj, Sem.run, hh]
            split at e
            · rename_i hp
              cases e
              have hs := run_setObj P (ob := .stringIter ⟨str.toArray⟩ (pos + (Utf8.decode ⟨str.toArray⟩ pos).2)) hh (by simp)
              obtain ⟨g1, g2⟩ := put_other k hL (k.notRo ho rfl) (.iter str (pos + (Utf8.decode ⟨str.toArray⟩ pos).2)) (.stringIter ⟨str.toArray⟩ (pos + (Utf8.decode ⟨str.toArray⟩ pos).2)) ⟨L, hL, setBlk_self w _ _ (heap_lt hh)⟩
              refine ⟨R, .tuple #[.bool true, goInt pos, .int .i32 (Utf8.decode ⟨str.toArray⟩ pos).1], _, ?_, ⟨_, rfl, .cons rfl (.cons rfl (.cons rfl .nil))⟩, g1, g2⟩
              have hsz : pos < (ByteArray.mk str.toArray).size := by simpa [ByteArray.size] using hp
              simp [Instr.next, hg, hsz, hs]
            · rename_i hp
              cases e
              refine ⟨R, .tuple #[.bool false], w, ?_, ⟨_, rfl, .cons rfl .nil⟩, k, Keeps.refl _ _⟩
              have hsz : ¬ pos < (ByteArray.mk str.toArray).size := by simpa [ByteArray.size] using hp
              simp [Instr.next, hg, hsz]
          · cases e
        · cases e
      · cases e
    · cases e

end

end Go.Proofs.Ytcdpmiebmhjmpaa.Ev
