/- A row of numbers that grows, on a heap of which nothing is told. -/
import Derived.Test.YtijkclfajopjkaaQd
set_option maxRecDepth 100000
set_option linter.unusedVariables false
namespace Go.Proofs.Ytijkclfajopjkaa.qo
open Go Ev

theorem int_info : ∃ i, P.info? 3 = some i ∧ i.size = 1 ∧ i.bytes = 8 := by
  cases h : P.info? 3 with
  | none => exact absurd (show (P.info? 3).isSome = true by kernel_rfl) (by rw [h]; decide)
  | some i =>
    refine ⟨i, rfl, ?_, ?_⟩
    · have : (P.info? 3).map (·.size) = some 1 := by kernel_rfl
      rw [h] at this
      exact Option.some.inj this
    · have : (P.info? 3).map (·.bytes) = some 8 := by kernel_rfl
      rw [h] at this
      exact Option.some.inj this
theorem int_zero : zeroA P 3 = some (.int .i64 0) := by kernel_rfl
theorem int_und : P.underlying 27 = some (.slice 3) := by kernel_rfl
theorem int_isInt : isIntT P 27 = some false := by kernel_rfl

/-- A row whose last version it is, of numbers. -/
def GRow (O : T AObj) (ri p : Nat) (f : Nat → AV) : Prop := ∃ c sg ex, 0 < p ∧ O.get ri = some (.cells c p 3 0 (p - 1) p 0 sg ex) ∧ ∀ k, k < p → c.get k = some (f k)

theorem app_base {h : AHeap} {s x : AV} {y : AV} {sl : Nat} (hs : lenSlice s = some sl) (hc : countA x = some 1) (hx : firstA h 1 1 x = some [y]) (hy : AV.one y = true) :
    builtinE P h .append (some 27) (some 27) [s, x] = valH (appendTo h 3 1 8 sl 1 s [y]) := by
  obtain ⟨i, h1, h2, h3⟩ := int_info
  show (match isIntT P 27 with | none => none | some z => match two1 [s, x] with | none => none | some (s, x) => valH (appendA P h 27 z s x)) = _
  rw [int_isInt]
  show valH (appendA P h 27 false s x) = _
  congr 1
  unfold appendA
  rw [int_und]
  show appendEl P h 3 false s x = _
  unfold appendEl
  rw [h1, int_zero]
  simp only [hs, h2, h3]
  unfold appended
  simp only [hc, hx]
  rw [if_pos ⟨Nat.zero_lt_one, rfl, rfl, by simp [hy], rfl, fun h => by cases h⟩]

theorem first_lit {O : T AObj} {K M : Nat} {G : T (T AV)} {y : AV} (h : Row O K 1 (fun _ => y)) : firstA ⟨O, M, G⟩ 1 1 (.slc K 0 0 1 1) = some [y] := by
  have := h.load1 (N := M) (G := G) (off := 0) (by omega)
  exact this

theorem app_nils {O : T AObj} {K M : Nat} {G : T (T AV)} {y : AV} (h : Row O K 1 (fun _ => y)) (hK : K < M) (hy : AV.one y = true) :
    ∃ O', builtinE P ⟨O, M, G⟩ .append (some 27) (some 27) [.nils 0 0, .slc K 0 0 1 1] = some (.val (.slg M 0 0 1 0) ⟨O', M + 1, G⟩) ∧ Row O' M 1 (fun _ => y) ∧ GRow O' M 1 (fun _ => y) ∧ Frm O O' M := by
  refine ⟨O.set (some (.cells (storeList .leaf 0 [y]) 1 3 0 0 1 0 false .leaf)) M, ?_, ⟨_, _, by rw [T.get_set, if_pos rfl], fun k hk => ?_⟩, ⟨_, _, _, Nat.zero_lt_one, by rw [T.get_set, if_pos rfl], fun k hk => ?_⟩, fun j hj => by rw [T.get_set, if_neg hj]⟩
  · rw [app_base (sl := 0) rfl rfl (first_lit h) hy]
    show valH (appendFresh ⟨O, M, G⟩ 3 1 8 0 (0 + 1) (.nils 0 0) [y]) = _
    unfold appendFresh
    rw [if_pos (by decide)]
    show valH (match some ([] : List AV) with | none => none | some old => if old.all AV.one = true ∧ old.length = 0 * 1 then some (.slg M 0 0 1 0, newCells ⟨O, M, G⟩ 3 (old ++ [y]) false) else none) = _
    simp only
    rw [if_pos ⟨rfl, rfl⟩]
    rfl
  · obtain rfl : k = 0 := by omega
    rw [storeList_get]; rfl
  · obtain rfl : k = 0 := by omega
    rw [storeList_get]; rfl

theorem app_slg {O : T AObj} {K M ri p t : Nat} {G : T (T AV)} {y : AV} {f : Nat → AV} (h : Row O K 1 (fun _ => y)) (hg : GRow O ri p f) (hK : K ≠ ri) (ht : t ≤ p) (hp : p < 1000000000) (hy : AV.one y = true) :
    ∃ O', builtinE P ⟨O, M, G⟩ .append (some 27) (some 27) [.slg ri (p - 1) t (p - t) t, .slc K 0 0 1 1] = some (.val (.slg ri (p - 1 + 1) t (p - t + 1) t) ⟨O', M, G⟩) ∧ GRow O' ri (p + 1) (fun k => if k = p then y else f k) ∧ Frm O O' ri := by
  obtain ⟨c, sg, ex, h0, h1, h2⟩ := hg
  refine ⟨O.set (some (.cells (storeList c p [y]) (p + 1) 3 0 p (p + 1) 0 sg (ex.set (some p) (p - 1)))) ri, ?_, ⟨_, _, _, by omega, by rw [T.get_set, if_pos rfl]; rfl, fun k hk => ?_⟩, fun j hj => by rw [T.get_set, if_neg hj]⟩
  · rw [app_base (sl := p - t) rfl rfl (first_lit h) hy]
    show valH (match appendKnown ⟨O, M, G⟩ 3 1 ri (p - 1) t t (p - t) (p - t + 1) [y] with | some r => some r | none => appendGrow ⟨O, M, G⟩ 3 1 8 ri (p - 1) t t (p - t) (p - t + 1) [y]) = _
    have hext : extOf ex p (p - 1) (p - 1) = some p := by unfold extOf; rw [if_pos rfl]
    have k1 : appendKnown ⟨O, M, G⟩ 3 1 ri (p - 1) t t (p - t) (p - t + 1) [y] = none := by
      unfold appendKnown
      show (match O.get ri with | some (.cells _ m el' lo hi _ _ _ ex) => _ | _ => _) = _
      rw [h1]
      simp only [hext]
      rw [if_neg (by omega)]
    rw [k1]
    simp only
    unfold appendGrow
    show valH (match O.get ri with | some (.cells c m el' lo hi nv fz sg ex) => _ | _ => _) = _
    rw [h1]
    simp only [hext]
    have hroom : roomA (p - t + 1) 8 = true := by
      unfold roomA
      rw [Bool.and_eq_true]
      exact ⟨Nat.ble_eq_true_of_le (by omega), Nat.ble_eq_true_of_le (show p - t + 1 + 1 ≤ 2 ^ 60 by omega)⟩
    rw [if_pos ⟨by omega, by omega, by omega, by omega, trivial, by omega, by omega, hroom⟩, if_pos ⟨by omega, by omega⟩, T.seq_eq, T.seq_eq]
    have e1 : t + (p - t) * 1 = p := by omega
    have e2 : p - 1 + 1 = p := by omega
    rw [e1, e2]
    rfl
  · rw [storeList_get]
    by_cases e : k = p
    · subst e
      rw [if_pos ⟨Nat.le_refl _, by simp⟩, Nat.sub_self]
      show some y = some (if k = k then y else f k)
      rw [if_pos rfl]
    · rw [if_neg (by simp; omega)]
      show c.get k = some (if k = p then y else f k)
      rw [if_neg e]
      exact h2 k (by omega)

theorem grow_load {O : T AObj} {ri p M : Nat} {G : T (T AV)} {f : Nat → AV} (hg : GRow O ri p f) {k : Nat} (hk : k < p) : loadCellsA ⟨O, M, G⟩ ri (p - 1) k 1 = some [f k] := by
  obtain ⟨c, sg, ex, h0, h1, h2⟩ := hg
  unfold loadCellsA
  show (match O.get ri with | some (.cells c n _ lo hi _ _ _ ex) => _ | some (.ro c lo n) => _ | _ => _) = _
  rw [h1]
  have hext : extOf ex p (p - 1) (p - 1) = some p := by unfold extOf; rw [if_pos rfl]
  simp only [hext]
  rw [if_pos ⟨Nat.zero_le _, Nat.le_refl _, by omega⟩]
  show (match c.get (k + 0) with | none => none | some v => some [v]) = _
  rw [Nat.add_zero, h2 k hk]

theorem lit_ok (O : T AObj) (M : Nat) (G : T (T AV)) (n : Int) : ∃ O', buildSliceA P ⟨O, M, G⟩ 27 1 [(0, .int .i64 n)] = some (.slc M 0 0 1 1, ⟨O', M + 1, G⟩) ∧ Row O' M 1 (fun _ => .int .i64 n) ∧ Frm O O' M := by
  refine ⟨O.set (some (.cells (storeList .leaf 0 [.int .i64 n]) 1 3 0 0 1 0 false .leaf)) M, by kernel_rfl, ⟨_, _, by rw [T.get_set, if_pos rfl], fun k hk => ?_⟩, fun j hj => by rw [T.get_set, if_neg hj]⟩
  obtain rfl : k = 0 := by omega
  rw [storeList_get]; rfl
end Go.Proofs.Ytijkclfajopjkaa.qo
