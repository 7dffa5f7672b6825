/- What package variables hold, where a row lists it: rows of strings or of integers. -/
import Derived.Test.YtdbfpjgnlfejmaaDoorEvWg
import Derived.OpenShut
import Derived.FnData
namespace Go.Proofs.YtdbfpjgnlfejmaaDoor.Ev
open Go Go.ChangeShapes

def litV : Lit → Value
  | .string s => .string ⟨s.toArray⟩
  | .int k n => .int k n
  | _ => .tuple #[]

def litA : Lit → AV
  | .string s => .str s
  | .int k n => .int k n
  | _ => .tup []

theorem litA_rel (R : Bij) (l : Lit) : VRel R (litA l) (litV l) := by
  cases l <;> first | rfl | exact ⟨[], rfl, rfl⟩

section
variable {H : Type} {enc : TypeId × Value → H} {P : Program} {w : World} {base : Nat} {sp : Nat → Bool} {held : Bool}

theorem array_cells {t e : TypeId} {n fuel : Nat} {cs : List Value} {lits : List Lit} {p : List MemPlace} (ht : P.underlying t = some (.array n e)) (he : P.underlying e = some .string ∨ ∃ k, P.underlying e = some (.int k))
    (hce : P.cellsOf e = 1) (hct : P.cellsOf t = n) (hd : DataW.trod enc P w base sp held fuel t cs = some (.agg (lits.map .lit), p)) : cs = lits.map litV := by
  obtain ⟨xs, m, rfl, hx, hlen, hxl, hel⟩ := DataW.trod_array ht hd
  simp only [Prod.mk.injEq, DataW.agg.injEq] at hx
  obtain ⟨hx, _⟩ := hx
  have hll : lits.length = n := by
    have := congrArg List.length hx
    simpa [hxl] using this
  apply List.ext_getElem?
  intro i
  by_cases hi : i < n
  · have h := hel i hi
    have hxi : i < xs.length := by omega
    have hci : i < cs.length := by omega
    have hli : i < lits.length := by omega
    have hone : (cs.drop (i * P.cellsOf e)).take (P.cellsOf e) = [cs[i]] := by
      rw [hce, Nat.mul_one, List.drop_eq_getElem_cons hci]
      rfl
    rw [hone, List.getElem?_eq_getElem hxi] at h
    have hl : (xs[i]).1 = .lit lits[i] := by
      have := congrArg (fun l => l[i]?) hx
      simp only [List.getElem?_map, List.getElem?_eq_getElem hli, List.getElem?_eq_getElem hxi, Option.map_some, Option.some.injEq] at this
      exact this.symm
    rw [List.getElem?_eq_getElem hci, List.getElem?_map, List.getElem?_eq_getElem hli, Option.map_some]
    congr 1
    rcases he with he | ⟨k, he⟩
    · obtain ⟨s, h1, h2, _⟩ := DataW.trod_string he h
      rw [h2] at hl
      simp only [DataW.lit.injEq] at hl
      simp only [List.cons.injEq, and_true] at h1
      rw [h1, ← hl]
      rfl
    · obtain ⟨s, h1, h2, _⟩ := DataW.trod_int he h
      rw [h2] at hl
      simp only [DataW.lit.injEq] at hl
      simp only [List.cons.injEq, and_true] at h1
      rw [h1, ← hl]
      rfl
  · rw [List.getElem?_eq_none (by omega), List.getElem?_eq_none (by simp; omega)]

theorem var_heap {n : String} {g : Nat} {cs : Array Value} (hg : P.globalNamed n = some g) (h : w.var? P n = some cs) : ∃ t fr, w.heap[g]? = some (.cells cs t fr) := by
  simp only [World.var?, hg, Option.bind_some] at h
  split at h
  · rename_i c t fr hb
    cases h
    exact ⟨_, _, hb⟩
  · cases h

noncomputable def globOf (g : Nat) (lits : List Lit) : T (T AV) := T.set (some (storeList .leaf 0 (lits.map litA))) .leaf g

theorem globs_one {name : String} {g : Nat} {cs : Array Value} {lits : List Lit} (hg : P.globalNamed name = some g) (hv : w.var? P name = some cs) (hcs : cs.toList = lits.map litV) : Globs (globOf g lits) w := by
  intro g' c e
  unfold globOf at e
  rw [T.get_set] at e
  split at e
  · rename_i hgg
    subst hgg
    cases e
    obtain ⟨t, fr, hh⟩ := var_heap hg hv
    refine ⟨heap_lt hh, cs, t, fr, hh, fun k v hk => ?_⟩
    rw [storeList_get] at hk
    split at hk
    · rename_i hlt
      rw [Nat.sub_zero, List.getElem?_map] at hk
      cases hl : lits[k]? with
      | none => rw [hl] at hk; cases hk
      | some l =>
        rw [hl] at hk
        cases hk
        refine ⟨litV l, ?_, litA_rel _ l⟩
        rw [← Array.getElem?_toList, hcs, List.getElem?_map, hl]
        rfl
    · cases hk
  · cases e

/-- One variable more. -/
theorem globs_add {G : T (T AV)} (hG : Globs G w) {name : String} {g : Nat} {cs : Array Value} {lits : List Lit} (hg : P.globalNamed name = some g) (hv : w.var? P name = some cs) (hcs : cs.toList = lits.map litV) : Globs (T.set (some (storeList .leaf 0 (lits.map litA))) G g) w := by
  intro g' c e
  rw [T.get_set] at e
  split at e
  · rename_i hgg
    subst hgg
    cases e
    exact globs_one hg hv hcs _ _ (by unfold globOf; rw [T.get_set, if_pos rfl])
  · exact hG _ _ e

end

end Go.Proofs.YtdbfpjgnlfejmaaDoor.Ev
