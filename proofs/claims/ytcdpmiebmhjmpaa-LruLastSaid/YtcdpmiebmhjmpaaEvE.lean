/- What the evaluator's operations say is what the model's do: operations that make nothing. -/
import Derived.Test.YtcdpmiebmhjmpaaEvD
namespace Go.Proofs.Ytcdpmiebmhjmpaa.Ev
open Go

section
variable {P : Program} {B : Base} {R : Bij} {h : AHeap} {w : World}

theorem r_underlying {t : TypeId} {d : TypeDesc} (w : World) (e : P.underlying t = some d) : (underlying t).run P w = .ok d w := by
  simp [underlying, e]
theorem r_typeInfo {t : TypeId} {i : TypeInfo} (w : World) (e : P.info? t = some i) : (typeInfo t).run P w = .ok i w := by
  simp [typeInfo, e]
theorem r_sizeOf {t : TypeId} {i : TypeInfo} (w : World) (e : P.info? t = some i) : (sizeOf t).run P w = .ok i.size w := by
  simp [sizeOf, r_typeInfo w e]
theorem r_zeroValue {t : TypeId} {i : TypeInfo} {v : Value} (w : World) (e : P.info? t = some i) (z : i.zero = some v) : (zeroValue t).run P w = .ok v w := by
  simp [zeroValue, r_typeInfo w e, z]
theorem cellsOf_info {t : TypeId} {i : TypeInfo} (e : P.info? t = some i) : P.cellsOf t = i.size := by simp [Program.cellsOf, e]

theorem aggT_sound {t : TypeId} {b : Bool} (w : World) (e : aggT P t = some b) : (isAgg t).run P w = .ok b w := by
  unfold aggT at e
  split at e
  · cases e
  · cases e; rename_i x hx; simp [isAgg, r_underlying w hx]
  · cases e; rename_i x hx; simp [isAgg, r_underlying w hx]
  · rename_i d h1 h2 hd
    cases e
    simp only [isAgg, Sem.run_bind, r_underlying w hd, Result.andThen_ok]
    exact rfl

theorem zeroA_sound {t : TypeId} {z : AV} (R : Bij) (e : zeroA P t = some z) : ∃ i v, P.info? t = some i ∧ i.zero = some v ∧ VRel R z v := by
  unfold zeroA at e
  split at e
  · cases e
  · rename_i i hi
    split at e
    · cases e
    · rename_i v hv
      exact ⟨i, v, hi, hv, absV_rel R 9 v z e⟩

/-- A version that may be read, in the heap. -/
theorem HRel.ver (k : HRel P B R h w) {i r : Nat} {c : T AV} {n : Nat} {el : TypeId} {lo hi nv fz : Nat} {sg : Bool} {ex : T Nat} {e r0 : Nat} {L0 : Loc} (h0 : R i r0 = some L0)
    (ho : h.get i = some (.cells c n el lo hi nv fz sg ex)) (h1 : lo ≤ r) (h2 : r ≤ hi) (he : extOf ex n hi r = some e) :
    ∃ L, R i r = some L ∧ VerRel P R w c el fz sg e L := (k.obj' h0 ho).2.2.2.1 r e h1 h2 he

theorem loadG_get {c : T AV} {off : Nat} : ∀ {n : Nat} {acc l : List AV}, loadG c off n acc = some l → ∃ l0 : List AV, l = l0 ++ acc ∧ l0.length = n ∧ ∀ (j : Nat) (v : AV), l0[j]? = some v → c.get (off + j) = some v
  | 0, acc, l, e => by simp [loadG] at e; subst e; exact ⟨[], rfl, rfl, fun j v h => by simp at h⟩
  | n + 1, acc, l, e => by
    simp only [loadG] at e
    cases hv : c.get (off + n) with
    | none => simp [hv] at e
    | some v =>
      rw [hv] at e
      obtain ⟨l0, e1, e2, e3⟩ := loadG_get e
      refine ⟨l0 ++ [v], by rw [e1]; simp, by simp [e2], fun j x ej => ?_⟩
      rw [List.getElem?_append] at ej
      split at ej
      · exact e3 j x ej
      · rename_i hj
        have : j = n := by
          rcases Nat.lt_trichotomy j n with h | h | h
          · omega
          · exact h
          · rw [List.getElem?_eq_none (by simp; omega)] at ej; cases ej
        subst this
        rw [e2, Nat.sub_self] at ej
        simp at ej; subst ej; exact hv

theorem loadList_get {n : Nat} {c : T AV} {off : Nat} {l : List AV} (e : loadList c off n = some l) : l.length = n ∧ ∀ (j : Nat) (v : AV), l[j]? = some v → c.get (off + j) = some v := by
  obtain ⟨l0, rfl, e2, e3⟩ := loadG_get e
  rw [List.append_nil]
  exact ⟨e2, e3⟩

/-- Cells of a version, loaded. -/
theorem loadRow_sound {c : T AV} {el : TypeId} {fz : Nat} {sg : Bool} {e : Nat} {L : Loc} (hv : VerRel P R w c el fz sg e L) {off n : Nat} {l : List AV}
    (hl : loadList c off n = some l) (h1 : off + n ≤ e) (h2 : L.minus ≤ off) :
    ∃ vs : List Value, (loadCells ⟨L.block, off - L.minus, none⟩ n).run P w = .ok vs.toArray w ∧ VRels R l vs := by
  obtain ⟨cs, a, b, hb, he, _, _, hc⟩ := hv
  obtain ⟨g1, g2⟩ := loadList_get hl
  refine ⟨(cs.extract (off - L.minus) (off - L.minus + n)).toList, ?_, .of_get (by simp [g1]; omega) fun j x ej => ?_⟩
  · rw [loadCells, run_loadRow P _ _ el (a, b) w cs hb n 0 #[] (by omega), Array.empty_append, Array.toArray_toList]
    simp only [Nat.add_zero]
  · have hj : j < n := by
      rw [← g1]; rcases Nat.lt_or_ge j l.length with h | h
      · exact h
      · rw [List.getElem?_eq_none h] at ej; cases ej
    obtain ⟨y, hy, hr⟩ := hc (off + j) x (by omega) (by omega) (g2 j x ej)
    refine ⟨y, ?_, hr⟩
    rw [Array.getElem?_toList, Array.getElem?_extract, if_pos (by omega)]
    rw [show off - L.minus + j = off + j - L.minus from by omega]; exact hy

theorem loadRo_sound {off n lo m b : Nat} {c : T AV} {cs : Array Value} {el : TypeId} {fz : Nat × Nat} {l : List AV} (hb : w.heap[b]? = some (.cells cs el fz)) (hm : m ≤ cs.size) (hc : ∀ k v, lo ≤ k → k < m → c.get k = some v → ∃ x, cs[k]? = some x ∧ VRel R v x)
    (hl : loadList c off n = some l) (ho : lo ≤ off ∧ off + n ≤ m) :
    ∃ vs : List Value, (loadCells ⟨b, off, none⟩ n).run P w = .ok vs.toArray w ∧ VRels R l vs := by
  obtain ⟨g1, g2⟩ := loadList_get hl
  refine ⟨(cs.extract off (off + n)).toList, ?_, .of_get (by simp [g1]; omega) fun j x ej => ?_⟩
  · rw [loadCells, run_loadRow P _ _ el fz w cs hb n 0 #[] (by omega), Array.empty_append, Array.toArray_toList]
    simp only [Nat.add_zero]
  · have hj : j < n := by
      rw [← g1]; rcases Nat.lt_or_ge j l.length with h | h
      · exact h
      · rw [List.getElem?_eq_none h] at ej; cases ej
    obtain ⟨y, hy, hr⟩ := hc (off + j) x (by omega) (by omega) (g2 j x ej)
    exact ⟨y, by rw [Array.getElem?_toList, Array.getElem?_extract, if_pos (by omega)]; exact hy, hr⟩

theorem loadCellsA_sound (k : HRel P B R h w) {i r off n : Nat} {l : List AV} (e : loadCellsA h i r off n = some l) {L : Loc} (hL : R i r = some L) (h2 : L.minus ≤ off) :
    ∃ vs : List Value, (loadCells ⟨L.block, off - L.minus, none⟩ n).run P w = .ok vs.toArray w ∧ VRels R l vs ∧ l.length = n := by
  unfold loadCellsA at e
  split at e
  · rename_i c m el lo hi nv fz sg ex ho
    split at e
    · cases e
    · rename_i e' he
      split at e
      · rename_i hc
        obtain ⟨L', hL', hv⟩ := k.ver hL ho hc.1 hc.2.1 he
        rw [hL] at hL'; cases hL'
        obtain ⟨vs, e1, e2⟩ := loadRow_sound hv e hc.2.2 h2
        exact ⟨vs, e1, e2, (loadList_get e).1⟩
      · cases e
  · rename_i c lo m ho
    split at e
    · rename_i hc
      obtain ⟨L', cs, el, fz, hL', q1, q2, q3, q4⟩ := k.obj' hL ho
      rw [hc.1, hL'] at hL; cases hL
      obtain ⟨vs, e1, e2⟩ := loadRo_sound (P := P) (R := R) q2 q3 (fun k v a a' b => let ⟨x, e1, e2⟩ := q4 k v a a' b; ⟨x, e1, VRel.mono (fun _ _ _ e => by cases e) _ _ e2⟩) e hc.2
      exact ⟨vs, by rw [q1, Nat.sub_zero]; exact e1, e2, (loadList_get e).1⟩
    · cases e
  · cases e

/-- A package's variable, loaded. -/
theorem loadGlob_sound {g off n : Nat} {c : T AV} {cs : Array Value} {el : TypeId} {fz : Nat × Nat} {l : List AV} (hb : w.heap[g]? = some (.cells cs el fz)) (hc : ∀ k v, c.get k = some v → ∃ x, cs[k]? = some x ∧ VRel R v x) (hl : loadList c off n = some l) :
    ∃ vs : List Value, (loadCells ⟨g, off, none⟩ n).run P w = .ok vs.toArray w ∧ VRels R l vs := by
  obtain ⟨g1, g2⟩ := loadList_get hl
  by_cases hn : n = 0
  · subst hn
    obtain rfl := List.length_eq_zero_iff.1 g1
    exact ⟨[], by simp [loadCells, loadCellsFrom], rfl⟩
  · have hlt : off + n ≤ cs.size := by
      have hj : n - 1 < l.length := by omega
      obtain ⟨x, hx, _⟩ := hc _ _ (g2 (n - 1) _ (List.getElem?_eq_getElem hj))
      have := (Array.getElem?_eq_some_iff.1 hx).1
      omega
    refine ⟨(cs.extract off (off + n)).toList, ?_, .of_get (by simp [g1]; omega) fun j x ej => ?_⟩
    · rw [loadCells, run_loadRow P _ _ el fz w cs hb n 0 #[] (by omega), Array.empty_append, Array.toArray_toList]
      simp only [Nat.add_zero]
    · have hj : j < n := by
        rw [← g1]; rcases Nat.lt_or_ge j l.length with h | h
        · exact h
        · rw [List.getElem?_eq_none h] at ej; cases ej
      obtain ⟨y, hy, hr⟩ := hc (off + j) x (g2 j x ej)
      exact ⟨y, by rw [Array.getElem?_toList, Array.getElem?_extract, if_pos (by omega)]; exact hy, hr⟩

theorem loadA_sound (k : HRel P B R h w) {t : TypeId} {p v : AV} {p' : Value} (e : loadA P h t p = some v) (hp : VRel R p p') :
    ∃ v', (Instr.loadAt t p').run P w = .ok v' w ∧ VRel R v v' := by
  unfold loadA at e
  split at e
  · rename_i i r off
    obtain ⟨L, hL, hm, rfl⟩ := hp
    simp only [Instr.loadAt, Instr.sureAddr, loadVar]
    split at e
    · cases e
    · rename_i ha
      split at e
      · cases e
      · rename_i inf hi
        split at e
        · cases e
        · rename_i l hl
          cases e
          obtain ⟨vs, e1, e2, _⟩ := loadCellsA_sound k hl hL hm
          refine ⟨.agg vs.toArray, ?_, vs, rfl, e2⟩
          simp [aggT_sound w ha, r_sizeOf w hi, e1]
    · rename_i ha
      split at e
      · rename_i x hx
        cases e
        obtain ⟨vs, e1, e2, _⟩ := loadCellsA_sound k hx hL hm
        obtain ⟨y, ys, rfl, hy, hys⟩ := e2
        cases hys
        refine ⟨y, ?_, hy⟩
        simp only [loadCells, loadCellsFrom, Sem.run_bind, add_plain, Nat.add_zero] at e1
        cases hl : (load ⟨L.block, off - L.minus, none⟩).run P w with
        | halt hh w' => rw [hl] at e1; cases e1
        | ok z w' =>
          rw [hl] at e1
          simp at e1
          obtain ⟨e1, rfl⟩ := e1
          subst e1
          rw [run_load] at hl
          simp only [Sem.run_bind, Sem.run_pure, Result.andThen_ok, aggT_sound _ ha, Bool.false_eq_true, if_false, run_load, hl]
      · cases e
  · rename_i g off
    cases hp
    simp only [Instr.loadAt, Instr.sureAddr, loadVar]
    split at e
    · cases e
    · rename_i c hg
      obtain ⟨_, cs, el, fz, hb, hc0⟩ := k.glob g c hg
      have hc : ∀ k v, c.get k = some v → ∃ x, cs[k]? = some x ∧ VRel R v x := fun k v e => let ⟨x, e1, e2⟩ := hc0 k v e; ⟨x, e1, VRel.mono (fun _ _ _ e => by cases e) _ _ e2⟩
      split at e
      · cases e
      · rename_i ha
        split at e
        · cases e
        · rename_i inf hi
          split at e
          · cases e
          · rename_i l hl
            cases e
            obtain ⟨vs, e1, e2⟩ := loadGlob_sound (P := P) hb hc hl
            refine ⟨.agg vs.toArray, ?_, vs, rfl, e2⟩
            simp [aggT_sound w ha, r_sizeOf w hi, e1]
      · rename_i ha
        obtain ⟨x, hx, hxr⟩ := hc off v e
        refine ⟨x, ?_, hxr⟩
        have hl : w.cell? ⟨g, off, none⟩ = some x := by rw [cell?_row w _ _ hb]; exact hx
        simp only [Sem.run_bind, Sem.run_pure, Result.andThen_ok, aggT_sound _ ha, Bool.false_eq_true, if_false, run_load, hl]
  · cases e

theorem partA_sound {t : TypeId} {cs : List AV} {off : Nat} {v : AV} {cs' : List Value} (w : World) (e : partA P t cs off = some v) (hr : VRels R cs cs') :
    ∃ v', (part t cs'.toArray off).run P w = .ok v' w ∧ VRel R v v' := by
  unfold partA at e
  split at e
  · cases e
  · rename_i ha
    split at e
    · cases e
    · rename_i i hi
      cases e
      refine ⟨.agg (cs'.toArray.extract off (off + i.size)), by simp [part, aggT_sound w ha, r_sizeOf w hi], (cs'.drop off).take i.size, ?_, (hr.drop off).take _⟩
      congr 1
      apply Array.ext'
      simp
  · rename_i ha
    obtain ⟨y, hy, hyr⟩ := hr.get off v e
    exact ⟨y, by simp [part, aggT_sound w ha, hy], hyr⟩


theorem sizeT_info {t : TypeId} {s : Nat} (e : sizeT P t = some s) : ∃ i, P.info? t = some i ∧ i.size = s := by
  unfold sizeT at e
  split at e
  · cases e
  · rename_i i hi; cases e; exact ⟨i, hi, rfl⟩

theorem fieldAddrA_sound {s : TypeId} {x v : AV} {x' : Value} {f : Nat} (w : World) (e : fieldAddrA P s x f = some v) (hx : VRel R x x') :
    ∃ v', (Instr.fieldAt s x' f).run P w = .ok v' w ∧ VRel R v v' := by
  unfold fieldAddrA at e
  split at e
  · cases e
  · rename_i u hu
    split at e
    · rename_i fs
      split at e
      · cases e
      · rename_i fl hf
        unfold fieldPtr at e
        split at e
        · rename_i i r o
          obtain ⟨L, hL, hm, rfl⟩ := hx
          split at e
          · cases e
          · cases e
          · rename_i n hs
            cases e
            obtain ⟨inf, hi, hn⟩ := sizeT_info hs
            refine ⟨.pointer (some ⟨L.block, o + fl.offset - L.minus, none⟩), ?_, L, hL, by omega, rfl⟩
            simp [Instr.fieldAt, r_underlying w hu, hf, Instr.sureAddr, fieldPlace, r_sizeOf w hi, hn, add_plain]
            omega
        · cases e
    · cases e

theorem fieldA_sound {s : TypeId} {x v : AV} {x' : Value} {f : Nat} (w : World) (e : fieldA P s x f = some v) (hx : VRel R x x') :
    ∃ v', (Instr.field s x' f).run P w = .ok v' w ∧ VRel R v v' := by
  unfold fieldA at e
  split at e
  · cases e
  · rename_i u hu
    split at e
    · rename_i fs
      split at e
      · cases e
      · rename_i fl hf
        unfold partOf at e
        split at e
        · obtain ⟨a, rfl, hr⟩ := hx
          obtain ⟨v', e1, e2⟩ := partA_sound w e hr
          exact ⟨v', by simp [Instr.field, r_underlying w hu, hf, asAgg, e1], e2⟩
        · cases e
    · cases e

theorem indexAddrA_sound {t : TypeId} {x ix v : AV} {x' ix' : Value} (w : World) (e : indexAddrA P t x ix = some v) (hx : VRel R x x') (hix : VRel R ix ix') :
    ∃ v', (Instr.indexAt t x' ix').run P w = .ok v' w ∧ VRel R v v' := by
  unfold indexAddrA at e
  split at e
  · rename_i k n
    cases hix
    split at e
    · cases e
    · rename_i u hu
      split at e
      · rename_i len el
        unfold elemArr at e
        split at e
        · cases e
        · rename_i s hs
          obtain ⟨inf, hi, rfl⟩ := sizeT_info hs
          split at e
          · rename_i i r o
            obtain ⟨L, hL, hm, rfl⟩ := hx
            unfold elemPtr at e
            split at e
            · rename_i hb
              cases e
              refine ⟨.pointer (some ⟨L.block, o + n.toNat * inf.size - L.minus, none⟩), ?_, L, hL, by omega, rfl⟩
              simp [Instr.indexAt, asIntOf, r_underlying w hu, Instr.sureAddr, hb.1, hb.2, r_sizeOf w hi, add_plain]
              omega
            · cases e
          · rename_i g o
            cases hx
            split at e
            · rename_i hb
              cases e
              refine ⟨.pointer (some ⟨g, o + n.toNat * inf.size, none⟩), ?_, rfl⟩
              simp [Instr.indexAt, asIntOf, r_underlying w hu, Instr.sureAddr, hb.1, hb.2, r_sizeOf w hi, add_plain]
            · cases e
          · cases e
      · rename_i el
        unfold elemSl at e
        split at e
        · cases e
        · rename_i s hs
          obtain ⟨inf, hi, rfl⟩ := sizeT_info hs
          split at e
          · rename_i i r o len c
            obtain ⟨L, hL, hm, rfl⟩ := hx
            unfold elemPtr at e
            split at e
            · rename_i hb
              cases e
              refine ⟨.pointer (some ⟨L.block, o + n.toNat * inf.size - L.minus, none⟩), ?_, L, hL, by omega, rfl⟩
              simp [Instr.indexAt, asIntOf, r_underlying w hu, hb.1, hb.2, r_sizeOf w hi, add_plain]
              omega
            · cases e
          · rename_i i r o len st
            obtain ⟨L, a, hL, hm, hk, rfl, ha⟩ := hx
            unfold elemPtr at e
            split at e
            · rename_i hb
              cases e
              obtain rfl := ha (by omega)
              refine ⟨.pointer (some ⟨L.block, o + n.toNat * inf.size - L.minus, none⟩), ?_, L, hL, by omega, rfl⟩
              simp [Instr.indexAt, asIntOf, r_underlying w hu, hb.1, hb.2, r_sizeOf w hi, add_plain]
              omega
            · cases e
          · cases e
      · cases e
  · cases e

theorem indexA_sound {t : TypeId} {x ix v : AV} {x' ix' : Value} (w : World) (e : indexA P t x ix = some v) (hx : VRel R x x') (hix : VRel R ix ix') :
    ∃ v', (Instr.index t x' ix').run P w = .ok v' w ∧ VRel R v v' := by
  unfold indexA at e
  split at e
  · rename_i k n
    cases hix
    split at e
    · cases e
    · rename_i u hu
      split at e
      · rename_i len el
        unfold indexArr at e
        split at e
        · cases e
        · rename_i s hs
          obtain ⟨inf, hi, rfl⟩ := sizeT_info hs
          split at e
          · obtain ⟨a, rfl, hr⟩ := hx
            split at e
            · rename_i hb
              obtain ⟨v', e1, e2⟩ := partA_sound w e hr
              exact ⟨v', by simp [Instr.index, asIntOf, r_underlying w hu, hb.1, hb.2, r_sizeOf w hi, e1], e2⟩
            · cases e
          · cases e
      · unfold indexStr at e
        split at e
        · rename_i s
          cases hx
          split at e
          · rename_i hb
            unfold byteOf' at e
            split at e
            · cases e
            · rename_i b hs
              cases e
              refine ⟨.int .u8 b.toNat, ?_, rfl⟩
              have : (ByteArray.mk s.toArray)[n.toNat]? = some b := by
                obtain ⟨hlt, hg⟩ := List.getElem?_eq_some_iff.1 hs
                have hlt' : n.toNat < (ByteArray.mk s.toArray).size := by simpa [ByteArray.size] using hlt
                rw [getElem?_pos (ByteArray.mk s.toArray) n.toNat hlt']
                exact congrArg some hg
              simp [Instr.index, asIntOf, r_underlying w hu, hb, this]
          · cases e
        · cases e
      · cases e
  · cases e

theorem boundA_sound {v : Int} {k : IntKind} {y n : Nat} (code : BoundsCode) (w : World) (e : boundA v y = some n) : (Instr.sliceBound (.int k v) y code).run P w = .ok n w := by
  unfold boundA at e
  split at e
  · rename_i hb
    cases e
    simp [Instr.sliceBound, asIntOf, hb.1, hb.2]
  · cases e

/-- Operands of a slice expression. -/
def ORel (_R : Bij) (o : Option Int) (v : Option Value) : Prop := match o with
  | none => v = none
  | some n => ∃ k, v = some (.int k n)

theorem boundsA_sound {isSl : Bool} {len cap : Nat} {lo hi mx : Option Int} {lo' hi' mx' : Option Value} {r : Nat × Nat × Nat} (w : World) (e : boundsA len cap lo hi mx = some r)
    (h1 : ORel R lo lo') (h2 : ORel R hi hi') (h3 : ORel R mx mx') : (Instr.sliceBounds isSl len cap lo' hi' mx').run P w = .ok r w := by
  unfold boundsA at e
  split at e
  · cases e
  · rename_i m hm
    split at e
    · cases e
    · rename_i hh hhi
      split at e
      · cases e
      · rename_i l hl
        cases e
        unfold Instr.sliceBounds
        cases mx with
        | none =>
          cases h3
          simp only [boundsMx] at hm
          cases hm
          cases hi with
          | none =>
            cases h2
            simp [boundsHi] at hhi
            subst hhi
            cases lo with
            | none => cases h1; simp [boundsLo] at hl; subst hl; simp
            | some v => obtain ⟨k, rfl⟩ := h1; simp only [boundsLo] at hl; simp [boundA_sound _ w hl]
          | some u =>
            obtain ⟨k2, rfl⟩ := h2
            simp only [boundsHi] at hhi
            cases lo with
            | none => cases h1; simp [boundsLo] at hl; subst hl; simp [boundA_sound _ w hhi]
            | some v => obtain ⟨k, rfl⟩ := h1; simp only [boundsLo] at hl; simp [boundA_sound _ w hl, boundA_sound _ w hhi]
        | some u =>
          obtain ⟨k3, rfl⟩ := h3
          simp only [boundsMx] at hm
          cases hi with
          | none => cases h2; simp [boundsHi] at hhi
          | some u2 =>
            obtain ⟨k2, rfl⟩ := h2
            simp only [boundsHi] at hhi
            cases lo with
            | none => cases h1; simp [boundsLo] at hl; subst hl; simp [boundA_sound _ w hhi, boundA_sound _ w hm]
            | some v => obtain ⟨k, rfl⟩ := h1; simp only [boundsLo] at hl; simp [boundA_sound _ w hl, boundA_sound _ w hhi, boundA_sound _ w hm]

theorem boundsA_le {len cap : Nat} {lo hi mx : Option Int} {l hh m : Nat} (e : boundsA len cap lo hi mx = some (l, hh, m)) :
    l ≤ hh ∧ m ≤ cap ∧ (mx = none → m = cap) ∧ (hh ≤ m ∨ hh = len) := by
  unfold boundsA at e
  split at e
  · cases e
  · rename_i m' hm
    split at e
    · cases e
    · rename_i h' hhi
      split at e
      · cases e
      · rename_i l' hl
        cases e
        refine ⟨?_, ?_, ?_, ?_⟩
        · cases lo with
          | none => simp [boundsLo] at hl; omega
          | some v => simp only [boundsLo, boundA] at hl; split at hl <;> simp at hl; omega
        · cases mx with
          | none => simp [boundsMx] at hm; omega
          | some v => simp only [boundsMx, boundA] at hm; split at hm <;> simp at hm; omega
        · intro h0; subst h0; simp [boundsMx] at hm; omega
        · cases hi with
          | none =>
            cases mx with
            | none => simp [boundsHi] at hhi; omega
            | some v => simp [boundsHi] at hhi
          | some v => simp only [boundsHi, boundA] at hhi; split at hhi <;> simp at hhi; omega

theorem boundsA_cap {len c c' : Nat} {lo hi : Option Int} {l hh m : Nat} (hc : c ≤ c') (e : boundsA len c lo hi none = some (l, hh, m)) : boundsA len c' lo hi none = some (l, hh, c') := by
  unfold boundsA at e ⊢
  simp only [boundsMx] at e ⊢
  cases hi with
  | none =>
    simp only [boundsHi, Option.isSome_none] at e ⊢
    cases hl : boundsLo lo len with
    | none => simp [hl] at e
    | some x => simp [hl] at e ⊢; omega
  | some v =>
    simp only [boundsHi] at e ⊢
    have : boundA v c' = boundA v c ∨ boundA v c = none := by
      unfold boundA
      by_cases hv : 0 ≤ v ∧ v ≤ (c : Int)
      · left; rw [if_pos hv, if_pos ⟨hv.1, by omega⟩]
      · right; rw [if_neg hv]
    rcases this with e1 | e1
    · rw [e1]
      cases hb : boundA v c with
      | none => simp [hb] at e
      | some y =>
        simp only [hb] at e ⊢
        cases hl : boundsLo lo y with
        | none => simp [hl] at e
        | some x => simp [hl] at e ⊢; omega
    · rw [e1] at e; simp at e

end

end Go.Proofs.Ytcdpmiebmhjmpaa.Ev
