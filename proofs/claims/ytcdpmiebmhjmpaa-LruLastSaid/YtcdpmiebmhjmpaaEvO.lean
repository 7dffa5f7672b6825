/- What the evaluator's operations say is what the model's do: append; what is left. -/
import Derived.Test.YtcdpmiebmhjmpaaEvN
namespace Go.Proofs.Ytcdpmiebmhjmpaa.Ev
open Go

section
variable {P : Program} {B : Base} {R : Bij} {h : AHeap} {w : World}

theorem cells_row (k : HRel P B R h w) {i r off n : Nat} {l : List AV} (e : loadCellsA h i r off n = some l) {L : Loc} (hL : R i r = some L) : ∃ cs el fz, w.heap[L.block]? = some (.cells cs el fz) := by
  unfold loadCellsA at e
  split at e
  · rename_i c m el lo hi nv fz sg ex ho
    split at e
    · cases e
    · rename_i e' he
      split at e
      · rename_i hc
        obtain ⟨L', hL', cs, f0, f1, g1, _⟩ := k.ver hL ho hc.1 hc.2.1 he
        rw [hL] at hL'; cases hL'
        exact ⟨_, _, _, g1⟩
      · cases e
  · rename_i c lo m ho
    split at e
    · rename_i hc
      obtain ⟨L', cs, el, fz, hL', q1, q2, q3, q4⟩ := k.obj' hL ho
      rw [hc.1, hL'] at hL; cases hL
      exact ⟨_, _, _, q2⟩
    · cases e
  · cases e

/-- The first elements of a slice, or of a string, in whatever world has the heap. -/
theorem firstA_any (k : HRel P B R h w) {size n : Nat} {x : AV} {x' : Value} {l : List AV} (e : firstA h size n x = some l) (hx : VRel R x x') (hn : ∀ i r o len st, x = .slg i r o len st → n ≤ len) :
    ∃ vs : List Value, VRels R l vs ∧ ∀ w' : World, w'.heap = w.heap → (Builtin.firstCells size n x').run P w' = .ok vs.toArray w' := by
  unfold firstA at e
  split at e
  · cases e; cases hx; exact ⟨[], rfl, fun _ _ => by simp [Builtin.firstCells]⟩
  · obtain ⟨L, hL, hm, rfl⟩ := hx
    obtain ⟨vs, e1, e2, _⟩ := loadCellsA_sound k e hL hm
    exact ⟨vs, e2, fun w' hw => by simp only [Builtin.firstCells]; exact load_same hw (a := ⟨L.block, _, none⟩) (cells_row k e hL) _ _ _ _ _ e1⟩
  · rename_i i r o len st
    obtain ⟨L, a, hL, hm, hk, rfl, ha⟩ := hx
    obtain ⟨vs, e1, e2, e3⟩ := loadCellsA_sound k e hL hm
    by_cases hlt : st < L.kap
    · obtain rfl := ha hlt
      exact ⟨vs, e2, fun w' hw => by simp only [Builtin.firstCells]; exact load_same hw (a := ⟨L.block, _, none⟩) (cells_row k e hL) _ _ _ _ _ e1⟩
    · have hn0 := hn _ _ _ _ _ rfl
      have : n = 0 := by omega
      subst this
      simp at e3
      have hl0 : l = [] := by simpa using e3
      subst hl0
      cases e2
      exact ⟨[], rfl, fun _ _ => by simp [Builtin.firstCells, loadCells, loadCellsFrom]⟩
  · rename_i s
    cases e; cases hx
    refine ⟨(s.take n).map fun b => .int .u8 b.toNat, byteCells_rel R _, fun w' _ => ?_⟩
    simp only [Builtin.firstCells, Sem.run_pure]
    congr 1
    rw [strExtract]
    simp
  · split at e
    · cases e
      obtain ⟨a, rfl⟩ := hx
      exact ⟨[], rfl, fun _ _ => by simp [Builtin.firstCells, loadCells, loadCellsFrom]⟩
    · cases e
  · cases e

theorem isIntT_true {u : TypeId} (e : isIntT P u = some true) : ∃ k, P.underlying u = some (.int k) := by
  unfold isIntT at e
  split at e
  · cases e
  · rename_i d hd
    split at e
    · exact ⟨_, hd⟩
    · cases e
theorem isIntT_false {u : TypeId} (e : isIntT P u = some false) : ∃ d, P.underlying u = some d ∧ ∀ k, d ≠ .int k := by
  unfold isIntT at e
  split at e
  · cases e
  · rename_i d hd
    split at e
    · cases e
    · rename_i hn
      exact ⟨d, hd, fun k hk => hn k hk⟩

theorem zeroCells_rel {z : AV} {zv : Value} (hz : VRel R z zv) (n : Nat) : VRels R (repeatL z.cells n) (Builtin.zeroCells zv.cells n).toList := zeros_rel hz n

/-- What is appended. -/
theorem appended_sound (k : HRel P B R h w) {u el : TypeId} {inf : TypeInfo} {z x : AV} {zv x' : Value} {zeros : Bool} {n : Nat} {new : List AV} (hzr : VRel R z zv) (hu : isIntT P u = some zeros) (hx : VRel R x x')
    (e : appended h inf.size z zeros x = some (n, new)) (hb : zeros = true → Nat.ble (n * inf.bytes) (2 ^ 48) = true) :
    ∃ ud vs, P.underlying u = some ud ∧ VRels R new vs ∧ ∀ w', w'.heap = w.heap → Apd P w' el inf zv ud x' n vs := by
  unfold appended at e
  split at e
  · obtain ⟨k', hud⟩ := isIntT_true hu
    split at e
    · rename_i kk l
      split at e
      · rename_i hl
        cases e
        cases hx
        refine ⟨_, _, hud, zeroCells_rel hzr l.toNat, fun w' _ => ⟨fun _ => ⟨kk, l, rfl, hl.1, hl.2, rfl, ?_, rfl⟩, fun hn => absurd rfl (hn k')⟩⟩
        have := hb rfl
        rw [Nat.ble_eq] at this
        have h2 : ((l.toNat * inf.bytes : Nat) : Int) ≤ 2 ^ 48 := by exact_mod_cast this
        have h3 : ((l.toNat : Nat) : Int) = l := Int.toNat_of_nonneg hl.1
        rw [Int.natCast_mul, h3] at h2
        exact h2
      · cases e
    · cases e
  · obtain ⟨ud, hud, hni⟩ := isIntT_false hu
    split at e
    · cases e
    · rename_i m hm
      split at e
      · cases e
      · rename_i nw hnw
        cases e
        obtain ⟨vs, f1, f2⟩ := firstA_any k hnw hx (fun i r o len st hh => by subst hh; cases hm; exact Nat.le_refl _)
        exact ⟨ud, vs, hud, f1, fun w' hw => ⟨fun ⟨k', hk'⟩ => absurd hk' (hni k'), fun _ => ⟨countA_sound w' hm hx, f2 w' hw⟩⟩⟩

theorem appendKnown_sound (k : HRel P B R h w) {argTypes : Array TypeId} {ty t u el : TypeId} {ud : TypeDesc} {inf : TypeInfo} {zv x' s' : Value} {i r off st sLen n : Nat} {new : List AV} {vs : List Value} {v : AV} {h' : AHeap}
    (ht : argTypes[0]? = some t) (hu : argTypes[1]? = some u) (htd : P.underlying t = some (.slice el)) (hud : P.underlying u = some ud) (hi : P.info? el = some inf) (hz : inf.zero = some zv) (hzs : zv.cells.size = inf.size) (hs0 : 0 < inf.size)
    (ha : Apd P w el inf zv ud x' n vs) (hnew : VRels R new vs) (hn0 : 0 < n)
    (hs : VRel R (.slg i r off sLen st) s') (e : appendKnown h el inf.size i r off st sLen (sLen + n) new = some (v, h')) :
    Made P B R w (Builtin.append_ argTypes ty #[s', x']) v h' := by
  obtain ⟨L, a, hL, hm, hk, rfl, haddr⟩ := hs
  unfold appendKnown at e
  split at e
  · rename_i c m el' lo hi' nv fz sg ex ho
    split at e
    · cases e
    · rename_i ee he
      split at e
      · rename_i hc
        obtain ⟨c0, c1, c2, rfl, c4⟩ := hc
        split at e
        · cases e
        · rename_i h2 hst
          cases e
          obtain ⟨L', hL', cs, f0, f1, g1, g2, g3, g4, g5⟩ := k.ver hL ho c1 c2 he
          rw [hL] at hL'; cases hL'
          rw [cellsOf_info hi] at g3
          have hkap : st + (sLen + n) ≤ L.kap := by
            refine Nat.le_of_mul_le_mul_right ?_ hs0
            rw [g3.1, Nat.add_mul, ← c4]
            exact Nat.le_trans c0 g2
          obtain rfl := haddr (by omega)
          obtain ⟨w', q1, q2, q3⟩ := storeCellsA_sound k hst hL (by omega) hnew
          refine ⟨R, _, w', append_in (a := ⟨L.block, off - L.minus, none⟩) ht hu htd hud hi hz hzs hs0 ha (by omega) ?_, ⟨L, _, hL, hm, hkap, rfl, fun _ => rfl⟩, q2, q3⟩
          rw [add_plain, ← q1]; congr 3; omega
      · cases e
  · cases e

theorem appendA_sound (k : HRel P B R h w) (hB : B.n ≤ w.heap.size) {t u ty : TypeId} {argTypes : Array TypeId} {zeros : Bool} {s x v : AV} {s' x' : Value} {h' : AHeap} (e : appendA P h t zeros s x = some (v, h'))
    (ht : argTypes[0]? = some t) (hu : argTypes[1]? = some u) (hz : isIntT P u = some zeros) (hs : VRel R s s') (hx : VRel R x x') :
    Made P B R w (Builtin.append_ argTypes ty #[s', x']) v h' := by
  unfold appendA at e
  split at e
  · cases e
  · rename_i ut hut
    split at e
    · rename_i el
      unfold appendEl at e
      split at e
      · cases e
      · rename_i inf hi
        split at e
        · cases e
        · rename_i z hzt
          split at e
          · cases e
          · rename_i sLen hsl
            split at e
            · cases e
            · rename_i n new hap
              split at e
              · rename_i hc
                obtain ⟨c1, c2, c3, c4, c5, c6⟩ := hc
                obtain ⟨inf', zv, hi', hzv, hzr⟩ := zeroA_sound R hzt
                rw [hi] at hi'; cases hi'
                have hzs : zv.cells.size = inf.size := by have := hzr.cells.length; rw [← c2, ← this]; simp
                obtain ⟨ud, vs, hud, hnew, ha⟩ := appended_sound (el := el) k hzr hz hx hap c6
                split at e
                · -- nothing
                  obtain ⟨rfl, rfl, b, l, c, rfl, hlc⟩ := appendNone_sound e hs
                  have hn0 : new = [] := by simpa using c5
                  subst hn0
                  cases hnew
                  refine ⟨R, .slice b l c, w, ?_, hs, k, Keeps.refl _ _⟩
                  cases b with
                  | none => exact append_nil ht hu hut hud hi hzv (ha w rfl) hlc
                  | some a => exact append_in ht hu hut hud hi hzv hzs c1 (ha w rfl) (by omega) (by simp [storeCells])
                · rename_i n0
                  unfold appendTo at e
                  split at e
                  · rename_i l cap
                    split at e
                    · cases hs; cases hsl
                      exact appendFresh_sound (s := .nils sLen 0) k hB ht hu hut hud hi hzv hzs c1 ha hnew c5 (by omega) rfl (by simp) (by simp) e
                    · cases e
                  · rename_i i r off l cap
                    obtain ⟨L, hL, hm, rfl⟩ := hs
                    cases hsl
                    split at e
                    · rename_i hle
                      unfold appendIn at e
                      split at e
                      · cases e
                      · rename_i h2 hst
                        cases e
                        obtain ⟨w', g1, g2, g3⟩ := storeCellsA_sound k hst hL (by omega) hnew
                        refine ⟨R, _, w', append_in (a := ⟨L.block, off - L.minus, none⟩) ht hu hut hud hi hzv hzs c1 (ha w rfl) hle ?_, ⟨L, hL, hm, rfl⟩, g2, g3⟩
                        rw [add_plain, ← g1]; congr 3; omega
                    · exact appendFresh_sound (s := .slc i r off sLen cap) k hB ht hu hut hud hi hzv hzs c1 ha hnew c5 (by omega) ⟨L, hL, hm, rfl⟩ (by simp) (by simp) e
                  · cases hsl
                    split at e
                    · rename_i hap2
                      cases e
                      exact appendKnown_sound k ht hu hut hud hi hzv hzs c1 (ha w rfl) hnew (by omega) hs hap2
                    · exact appendGrow_sound k hB ht hu hut hud hi hzv hzs c1 ha hnew c4 c5 (by omega) hs e
                  · cases e
              · cases e
    · cases e

/-! ## What is left -/

theorem minA2_sound {mx : Bool} {a b v : AV} {a' b' : Value} (w : World) (e : minA2 mx a b = some v) (ha : VRel R a a') (hb : VRel R b b') :
    ∃ v', ((if mx then Builtin.max2 a' b' else Builtin.min2 a' b')).run P w = .ok v' w ∧ VRel R v v' := by
  unfold minA2 at e
  split at e
  · split at e
    · cases e; cases ha; cases hb
      cases mx
      · exact ⟨_, rfl, by simp [VRel]⟩
      · exact ⟨_, rfl, by simp [VRel]⟩
    · cases e
  · cases e

theorem foldA_sound {f : AV → AV → Option AV} {g : Value → Value → Sem Value} (w : World) (hf : ∀ a b v a' b', f a b = some v → VRel R a a' → VRel R b b' → ∃ v', (g a' b').run P w = .ok v' w ∧ VRel R v v') :
    ∀ {l : List AV} {l' : List Value} {x v : AV} {x' : Value}, foldA f x l = some v → VRel R x x' → VRels R l l' → ∃ v', (l'.foldlM g x').run P w = .ok v' w ∧ VRel R v v'
  | [], _, x, v, x', e, hx, hl => by cases e; cases hl; exact ⟨x', by simp, hx⟩
  | y :: r, _, x, v, x', e, hx, hl => by
    obtain ⟨y', ys, rfl, hy, hr⟩ := hl
    simp only [foldA] at e
    split at e
    · cases e
    · rename_i z hz
      obtain ⟨z', e1, e2⟩ := hf _ _ _ _ _ hz hx hy
      obtain ⟨v', e3, e4⟩ := foldA_sound w hf e e2 hr
      exact ⟨v', by simp [List.foldlM_cons, e1, e3], e4⟩

theorem foldE_sound {mx : Bool} {l : List AV} {l' : List Value} {v : AV} {ats : Array TypeId} {ty : TypeId} (w : World) (e : foldE mx l = some v) (hl : VRels R l l') :
    ∃ v', (if mx then Builtin.max_ ats ty l'.toArray else Builtin.min_ ats ty l'.toArray).run P w = .ok v' w ∧ VRel R v v' := by
  unfold foldE at e
  split at e
  · cases e
  · rename_i x r
    obtain ⟨y, ys, rfl, hy, hr⟩ := hl
    cases mx
    · exact foldA_sound w (fun a b v a' b' h1 h2 h3 => by simpa using minA2_sound (P := P) (mx := false) w h1 h2 h3) e hy hr
    · exact foldA_sound w (fun a b v a' b' h1 h2 h3 => by simpa using minA2_sound (P := P) (mx := true) w h1 h2 h3) e hy hr

theorem sliceData_sound {x v : AV} {x' : Value} {ats : Array TypeId} {ty : TypeId} (w : World) (e : sliceData x = some v) (hx : VRel R x x') : ∃ v', (Builtin.unsafeSliceData_ ats ty #[x']).run P w = .ok v' w ∧ VRel R v v' := by
  unfold sliceData at e
  split at e
  · cases e; cases hx; exact ⟨.pointer none, rfl, rfl⟩
  · split at e
    · cases e
    · cases e
      obtain ⟨L, hL, hm, rfl⟩ := hx
      exact ⟨_, rfl, L, hL, hm, rfl⟩
  · rename_i i r o l st
    split at e
    · cases e
    · cases e
      obtain ⟨L, a, hL, hm, hk, rfl, ha⟩ := hx
      obtain rfl := ha (by omega)
      obtain ⟨q, hq⟩ : ∃ q, L.kap - st = q + 1 := ⟨L.kap - st - 1, by omega⟩
      rw [hq]
      exact ⟨_, rfl, L, hL, hm, rfl⟩
  · cases e

theorem capE_sound {t : TypeId} {x v : AV} {x' : Value} {ats : Array TypeId} {ty : TypeId} (w : World) (e : capE P t x = some v) (hx : VRel R x x') (ht : ats[0]? = some t) : ∃ v', (Builtin.cap_ ats ty #[x']).run P w = .ok v' w ∧ VRel R v v' := by
  unfold capE at e
  split at e
  · rename_i hs
    unfold isSliceT at hs
    split at hs
    · rename_i el hel
      unfold capA at e
      split at e
      · cases e
        obtain ⟨L, hL, hm, rfl⟩ := hx
        exact ⟨_, by simp [Builtin.cap_, ht, r_underlying w hel]; rfl, rfl⟩
      · cases e; cases hx
        exact ⟨_, by simp [Builtin.cap_, ht, r_underlying w hel]; rfl, rfl⟩
      · cases e
    · cases hs
  · cases e

theorem rangeA_sound (k : HRel P B R h w) (hB : B.n ≤ w.heap.size) {t : TypeId} {x : AV} {x' : Value} {r : AR} (e : rangeA P h t x = some r) (hx : VRel R x x') : OpRel P B R w (do pure (.value (← Instr.range t x'))) r := by
  unfold rangeA at e
  split at e
  · rename_i s
    split at e
    · rename_i hu
      cases e; cases hx
      obtain ⟨R', g1, g2, g3⟩ := newIter_sound k hB s
      exact ⟨R', _, _, by simp [Instr.range, r_underlying w hu], g1, g2, g3⟩
    · cases e
  · cases e

end

end Go.Proofs.Ytcdpmiebmhjmpaa.Ev
