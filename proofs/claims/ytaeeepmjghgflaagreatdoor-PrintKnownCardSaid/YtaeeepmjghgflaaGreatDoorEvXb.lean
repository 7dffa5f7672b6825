/- What package variables hold: rows of rows, the library's errors, a type's handle. -/
import Derived.Test.YtaeeepmjghgflaaGreatDoorEvX
import Derived.LaidLaws
import Derived.LaidHandle
namespace Go.Proofs.YtaeeepmjghgflaaGreatDoor.Ev
open Go Go.ChangeShapes

section
variable {H : Type} {enc : TypeId × Value → H} {P : Program} {w : World} {base : Nat} {sp : Nat → Bool} {held : Bool}

theorem globs_list {G : T (T AV)} (hG : Globs G w) {name : String} {g : Nat} {cs : Array Value} {l : List AV} (hg : P.globalNamed name = some g) (hv : w.var? P name = some cs) (hr : VRels (fun _ _ => none) l cs.toList) : Globs (T.set (some (storeList .leaf 0 l)) G g) w := by
  intro g' c e
  rw [T.get_set] at e
  split at e
  · rename_i hgg
    subst hgg
    cases e
    obtain ⟨t, fr, hh⟩ := var_heap hg hv
    refine ⟨heap_lt hh, cs, t, fr, hh, fun k v hk => ?_⟩
    rw [storeList_get] at hk
    split at hk
    · rw [Nat.sub_zero] at hk
      obtain ⟨y, hy, hyr⟩ := hr.get k v hk
      exact ⟨y, by rw [← Array.getElem?_toList]; exact hy, hyr⟩
    · cases hk
  · exact hG _ _ e

theorem lits_rel (R : Bij) : ∀ (l : List Lit), VRels R (l.map litA) (l.map litV)
  | [] => rfl
  | a :: l => ⟨_, _, rfl, litA_rel R a, lits_rel R l⟩

/-- An error of the library that a variable holds: where its text lies, nobody knows. -/
theorem error_rel {u b : Nat} {a : Addr} (ha : a.spot = none) (hb : a.block = b) (ho : a.off = 0) : VRels (fun _ _ => none) [.ifc u (.gp b 0)] [.iface u (.pointer (some a))] := by
  obtain ⟨x, y, z⟩ := a
  simp only at ha hb ho
  subst ha; subst hb; subst ho
  exact ⟨_, _, rfl, ⟨_, rfl, rfl⟩, rfl⟩

theorem pairs_rel (R : Bij) {k : IntKind} : ∀ (l : List (Int × Int)), VRels R (l.flatMap fun r => [.int k r.1, .int k r.2]) (l.flatMap fun r => [.int k r.1, .int k r.2])
  | [] => rfl
  | _ :: l => ⟨_, _, rfl, rfl, _, _, rfl, rfl, pairs_rel R l⟩

/-- A row of structs of two integers of one kind. -/
theorem pairs_cells {t e q : TypeId} {n fuel : Nat} {k : IntKind} {f0 f1 : Field} {cs : List Value} {rows : List (Int × Int)} {p : List MemPlace} (ht : P.underlying t = some (.array n e)) (he : P.underlying e = some (.struct #[f0, f1]))
    (h0 : f0.type = q ∧ f0.offset = 0) (h1 : f1.type = q ∧ f1.offset = 1) (hq : P.underlying q = some (.int k)) (hcq : P.cellsOf q = 1)
    (hce : P.cellsOf e = 2) (hct : P.cellsOf t = n * 2) (hd : DataW.trod enc P w base sp held fuel t cs = some (.agg (rows.map fun r => .agg [.lit (.int k r.1), .lit (.int k r.2)]), p)) : cs = rows.flatMap fun r => [.int k r.1, .int k r.2] := by
  obtain ⟨xs, m, rfl, hx, hlen, hxl, hel⟩ := DataW.trod_array ht hd
  simp only [Prod.mk.injEq, DataW.agg.injEq] at hx
  obtain ⟨hx, _⟩ := hx
  have hll : rows.length = n := by
    have := congrArg List.length hx
    simpa [hxl] using this
  rw [hct] at hlen
  have part : ∀ i, i < n → cs[i * 2]? = rows[i]?.map (fun r => Value.int k r.1) ∧ cs[i * 2 + 1]? = rows[i]?.map (fun r => Value.int k r.2) := by
    intro i hi
    have h := hel i hi
    have hxi : i < xs.length := by omega
    have hri : i < rows.length := by omega
    rw [List.getElem?_eq_getElem hxi] at h
    have hl : (xs[i]).1 = .agg [.lit (.int k rows[i].1), .lit (.int k rows[i].2)] := by
      have := congrArg (fun l => l[i]?) hx
      simp only [List.getElem?_map, List.getElem?_eq_getElem hri, List.getElem?_eq_getElem hxi, Option.map_some, Option.some.injEq] at this
      exact this.symm
    obtain ⟨ys, m2, rfl, hy, hyl, hys, hfs⟩ := DataW.trod_struct he (x := ((xs[i]).1, (xs[i]).2)) h
    simp only [Prod.mk.injEq] at hy
    rw [hl] at hy
    obtain ⟨hy, _⟩ := hy
    simp only [DataW.agg.injEq] at hy
    obtain ⟨y0, y1, rfl⟩ : ∃ y0 y1, ys = [y0, y1] := by
      match ys, hys with
      | [a, b], _ => exact ⟨a, b, rfl⟩
    simp only [List.map_cons, List.map_nil, List.cons.injEq, and_true] at hy
    have g0 := hfs 0 f0 rfl
    have g1 := hfs 1 f1 rfl
    rw [h0.1, h0.2, hcq] at g0
    rw [h1.1, h1.2, hcq] at g1
    simp only [List.getElem?_cons_zero, List.getElem?_cons_succ] at g0 g1
    obtain ⟨s0, e0, e0', _⟩ := DataW.trod_int hq g0
    obtain ⟨s1, e1, e1', _⟩ := DataW.trod_int hq g1
    rw [hce] at e0 e1
    rw [e0', e1'] at hy
    simp only [DataW.lit.injEq, Lit.int.injEq, true_and] at hy
    obtain ⟨hy0, hy1⟩ := hy
    subst hy0; subst hy1
    rw [List.getElem?_eq_getElem hri]
    constructor
    · have := congrArg (fun l => l[0]?) e0
      simpa [List.getElem?_take, List.getElem?_drop] using this
    · have := congrArg (fun l => l[0]?) e1
      simpa [List.getElem?_take, List.getElem?_drop] using this
  apply List.ext_getElem?
  intro j
  have flat : ∀ (l : List (Int × Int)) (i : Nat), (l.flatMap fun r => [Value.int k r.1, Value.int k r.2])[i * 2]? = l[i]?.map (fun r => Value.int k r.1) ∧ (l.flatMap fun r => [Value.int k r.1, Value.int k r.2])[i * 2 + 1]? = l[i]?.map (fun r => Value.int k r.2) := by
    intro l
    induction l with
    | nil => intro i; simp
    | cons a l ih =>
      intro i
      cases i with
      | zero => simp
      | succ i =>
        have := ih i
        rw [List.flatMap_cons, show (i + 1) * 2 = (i * 2) + 2 by omega, show (i * 2) + 2 + 1 = (i * 2 + 1) + 2 by omega]
        simpa using this
  rcases Nat.lt_or_ge j (n * 2) with hj | hj
  · rcases Nat.mod_two_eq_zero_or_one j with hm | hm
    · obtain ⟨i, rfl⟩ : ∃ i, j = i * 2 := ⟨j / 2, by omega⟩
      rw [(part i (by omega)).1, (flat rows i).1]
    · obtain ⟨i, rfl⟩ : ∃ i, j = i * 2 + 1 := ⟨j / 2, by omega⟩
      rw [(part i (by omega)).2, (flat rows i).2]
  · rw [List.getElem?_eq_none (by omega), List.getElem?_eq_none]
    have : (rows.flatMap fun r => [Value.int k r.1, Value.int k r.2]).length = rows.length * 2 := by
      clear hx part flat hll hj hd hel
      induction rows with
      | nil => rfl
      | cons a l ih => simp only [List.flatMap_cons, List.length_append, List.length_cons, List.length_nil, ih]; omega
    omega

end

end Go.Proofs.YtaeeepmjghgflaaGreatDoor.Ev
