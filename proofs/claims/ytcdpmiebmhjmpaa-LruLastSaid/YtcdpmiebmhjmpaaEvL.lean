/- What the evaluator's operations say is what the model's do: copies, appends, bytes as strings. -/
import Derived.Test.YtcdpmiebmhjmpaaEvK
namespace Go.Proofs.Ytcdpmiebmhjmpaa.Ev
open Go

section
variable {P : Program} {B : Base} {R : Bij} {h : AHeap} {w : World}

theorem byteCells_rel (R : Bij) (s : List UInt8) : VRels R (byteCells s) (s.map fun b => .int .u8 b.toNat) := by
  induction s with
  | nil => rfl
  | cons b s ih => exact .cons rfl ih

/-- The first elements of a slice, or of a string. -/
theorem firstA_sound (k : HRel P B R h w) {size n : Nat} {x : AV} {x' : Value} {l : List AV} (e : firstA h size n x = some l) (hx : VRel R x x') (hn : ∀ i r o len st, x = .slg i r o len st → n ≤ len) :
    ∃ vs : List Value, (Builtin.firstCells size n x').run P w = .ok vs.toArray w ∧ VRels R l vs := by
  unfold firstA at e
  split at e
  · cases e; cases hx; exact ⟨[], by simp [Builtin.firstCells], rfl⟩
  · obtain ⟨L, hL, hm, rfl⟩ := hx
    obtain ⟨vs, e1, e2, _⟩ := loadCellsA_sound k e hL hm
    exact ⟨vs, by simpa [Builtin.firstCells] using e1, e2⟩
  · rename_i i r o len st
    obtain ⟨L, a, hL, hm, hk, rfl, ha⟩ := hx
    obtain ⟨vs, e1, e2, e3⟩ := loadCellsA_sound k e hL hm
    by_cases hlt : st < L.kap
    · obtain rfl := ha hlt
      exact ⟨vs, by simpa [Builtin.firstCells] using e1, e2⟩
    · have hn0 := hn _ _ _ _ _ rfl
      have : n = 0 := by omega
      subst this
      simp at e3
      have hl0 : l = [] := by simpa using e3
      subst hl0
      cases e2
      exact ⟨[], by simp [Builtin.firstCells, loadCells, loadCellsFrom], rfl⟩
  · rename_i s
    cases e; cases hx
    refine ⟨(s.take n).map fun b => .int .u8 b.toNat, ?_, byteCells_rel R _⟩
    simp only [Builtin.firstCells, Sem.run_pure]
    congr 1
    rw [strExtract]
    simp
  · split at e
    · cases e
      obtain ⟨a, rfl⟩ := hx
      exact ⟨[], by simp [Builtin.firstCells, loadCells, loadCellsFrom], rfl⟩
    · cases e
  · cases e

theorem first_zero {size : Nat} {x : AV} {l : List AV} (e : firstA h size 0 x = some l) : l = [] := by
  have aux : ∀ {i r o : Nat} {l : List AV}, loadCellsA h i r o (0 * size) = some l → l = [] := by
    intro i r o l e
    unfold loadCellsA at e
    split at e
    · split at e
      · cases e
      · split at e
        · rw [Nat.zero_mul] at e; simp [loadList, loadG] at e; first | exact e | exact e.symm
        · cases e
    · split at e
      · rw [Nat.zero_mul] at e; simp [loadList, loadG] at e; first | exact e | exact e.symm
      · cases e
    · cases e
  unfold firstA at e
  split at e
  · cases e; rfl
  · exact aux e
  · exact aux e
  · cases e; rfl
  · cases e; rfl
  · cases e

theorem countA_sound {x : AV} {x' : Value} {n : Nat} (w : World) (e : countA x = some n) (hx : VRel R x x') : (Builtin.lenOf x').run P w = .ok n w := by
  unfold countA at e
  split at e
  · cases e; cases hx; rfl
  · cases e; obtain ⟨L, _, _, rfl⟩ := hx; rfl
  · cases e; obtain ⟨L, a, _, _, _, rfl, _⟩ := hx; rfl
  · cases e; cases hx; simp [Builtin.lenOf, size_str]
  · cases e; obtain ⟨a, rfl⟩ := hx; rfl
  · cases e

theorem lenSlice_sound {x : AV} {x' : Value} {n : Nat} (e : lenSlice x = some n) (hx : VRel R x x') : ∃ a c, x' = .slice a n c := by
  unfold lenSlice at e
  split at e
  · cases e; cases hx; exact ⟨_, _, rfl⟩
  · cases e; obtain ⟨L, _, _, rfl⟩ := hx; exact ⟨_, _, rfl⟩
  · cases e; obtain ⟨L, a, _, _, _, rfl, _⟩ := hx; exact ⟨_, _, rfl⟩
  · cases e; obtain ⟨a, rfl⟩ := hx; exact ⟨_, _, rfl⟩
  · cases e

theorem copyA_sound (k : HRel P B R h w) {t : TypeId} {d s v : AV} {d' s' : Value} {h' : AHeap} {argTypes : Array TypeId} {ty : TypeId} (e : copyA P h t d s = some (v, h')) (hd : VRel R d d') (hs : VRel R s s') (ht : argTypes[0]? = some t) :
    Made P B R w (Builtin.copy_ argTypes ty #[d', s']) v h' := by
  unfold copyA at e
  split at e
  · cases e
  · rename_i u hu
    split at e
    · rename_i el
      unfold copyEl at e
      split at e
      · cases e
      · rename_i sz hsz
        obtain ⟨inf, hi, rfl⟩ := sizeT_info hsz
        split at e
        · cases e
        · rename_i dn hdn
          split at e
          · cases e
          · rename_i sn hsn
            split at e
            · cases e
            · rename_i cells hcells
              obtain ⟨vs, f1, f2⟩ := firstA_sound k hcells hs (by
                rintro i r o len st rfl
                simp [countA] at hsn; subst hsn; exact Nat.min_le_left _ _)
              obtain ⟨a0, c0, rfl⟩ := lenSlice_sound hdn hd
              have base : ∀ w', (match a0 with | some a => storeCells a vs | none => pure () : Sem Unit).run P w = .ok () w' → (Builtin.copy_ argTypes ty #[.slice a0 dn c0, s']).run P w = .ok (goInt (Nat.min sn dn)) w' := by
                intro w' hw'
                cases a0 with
                | none => simp at hw'; subst hw'; simp [Builtin.copy_, ht, r_underlying w hu, countA_sound w hsn hs, r_sizeOf w hi, f1]
                | some a => simp only [] at hw'; simp [Builtin.copy_, ht, r_underlying w hu, countA_sound w hsn hs, r_sizeOf w hi, f1, hw']
              unfold copyTo at e
              split at e
              · cases e; cases hd
                exact ⟨R, _, w, base w rfl, rfl, k, Keeps.refl _ _⟩
              · split at e
                · cases e
                · rename_i h1 hst
                  cases e
                  obtain ⟨L, hL, hm, heq⟩ := hd
                  cases heq
                  obtain ⟨w', g1, g2, g3⟩ := storeCellsA_sound k hst hL hm f2
                  exact ⟨R, _, w', base w' g1, rfl, g2, g3⟩
              · rename_i i r o len st
                split at e
                · cases e
                · rename_i h1 hst
                  cases e
                  simp only [lenSlice, Option.some.injEq] at hdn
                  subst hdn
                  obtain ⟨L, a, hL, hm, hk, heq, ha⟩ := hd
                  cases heq
                  by_cases hlt : st < L.kap
                  · obtain rfl := ha hlt
                    obtain ⟨w', g1, g2, g3⟩ := storeCellsA_sound k hst hL hm f2
                    exact ⟨R, _, w', base w' g1, rfl, g2, g3⟩
                  · -- nothing fits: nothing is copied
                    have hlen : len = 0 := by omega
                    subst hlen
                    obtain ⟨w', g1, g2, g3⟩ := storeCellsA_sound k hst hL hm f2
                    have h00 : sn.min 0 = 0 := Nat.min_zero _
                    rw [h00] at hcells
                    have hc0 : cells = [] := first_zero hcells
                    subst hc0
                    cases f2
                    have hww : w' = w := by
                      simp [storeCells] at g1; exact g1.symm
                    subst hww
                    exact ⟨R, _, w', base w' (by simp [storeCells]), rfl, g2, g3⟩
              · cases e
    · cases e


theorem clearA_sound (k : HRel P B R h w) {t : TypeId} {x : AV} {x' : Value} {h' : AHeap} {argTypes : Array TypeId} {ty : TypeId} (e : clearA P h t x = some h') (hx : VRel R x x') (ht : argTypes[0]? = some t) :
    ∃ w', (Builtin.clear_ argTypes ty #[x']).run P w = .ok (.tuple #[]) w' ∧ HRel P B R h' w' ∧ Keeps R w R w' := by
  unfold clearA at e
  split at e
  · cases e
  · rename_i u hu
    have slice : ∀ {i r o n : Nat} {L : Loc} {c : Nat}, R i r = some L → L.minus ≤ o → clearSl h (elemZero P t) i r o n = some h' →
        ∃ w', (Builtin.clear_ argTypes ty #[.slice (some ⟨L.block, o - L.minus, none⟩) n c]).run P w = .ok (.tuple #[]) w' ∧ HRel P B R h' w' ∧ Keeps R w R w' := by
      intro i r o n L c hL hm e
      unfold clearSl at e
      split at e
      · cases e
        exact ⟨w, by simp [Builtin.clear_, ht, r_underlying w hu], k, Keeps.refl _ _⟩
      · rename_i n0
        split at e
        · cases e
        · rename_i z hz
          unfold elemZero at hz
          split at hz
          · rename_i el hel
            rw [hel] at hu; cases hu
            obtain ⟨inf, zv, hi, hzv, hzr⟩ := zeroA_sound R hz
            obtain ⟨w', g1, g2, g3⟩ := storeCellsA_sound k e hL hm (zeros_rel hzr (n0 + 1))
            refine ⟨w', ?_, g2, g3⟩
            simp only [Builtin.clear_, ht, List.getElem?_toArray, List.getElem?_cons_zero, Sem.run_bind, r_underlying w hel, Result.andThen_ok, r_zeroValue w hi hzv, Builtin.zeroCells, g1, Sem.run_pure]
          · cases hz
    split at e
    · cases e; cases hx
      exact ⟨w, by simp [Builtin.clear_, ht, r_underlying w hu], k, Keeps.refl _ _⟩
    · cases e; cases hx
      exact ⟨w, by simp [Builtin.clear_, ht, r_underlying w hu], k, Keeps.refl _ _⟩
    · rename_i i
      obtain ⟨L, hL, rfl⟩ := hx
      unfold clearMap at e
      split at e
      · rename_i es clock ho
        cases e
        obtain ⟨L', es', hL', hh, hrel⟩ := k.obj' hL ho
        rw [hL] at hL'; cases hL'
        have hg : (getObj L.block).run P w = .ok (.map es' clock) w := by simp [getObj, Sem.run, hh]
        have hs := run_setObj P (ob := .map #[] clock) hh (by simp)
        obtain ⟨p1, p2⟩ := put_other k hL (k.notRo ho rfl) (.map [] clock) (.map #[] clock) ⟨L, #[], hL, setBlk_self w _ _ (heap_lt hh), rfl⟩
        exact ⟨_, by simp [Builtin.clear_, ht, r_underlying w hu, hg, hs], p1, p2⟩
      · cases e
    · rename_i i r o n c
      obtain ⟨L, hL, hm, rfl⟩ := hx
      exact slice hL hm e
    · rename_i i r o n st
      obtain ⟨L, a, hL, hm, hk, rfl, ha⟩ := hx
      by_cases hlt : st < L.kap
      · obtain rfl := ha hlt
        exact slice hL hm e
      · have hn : n = 0 := by omega
        subst hn
        simp only [clearSl] at e
        cases e
        exact ⟨w, by simp [Builtin.clear_, ht, r_underlying w hu], k, Keeps.refl _ _⟩
    · cases e

end

end Go.Proofs.Ytcdpmiebmhjmpaa.Ev
