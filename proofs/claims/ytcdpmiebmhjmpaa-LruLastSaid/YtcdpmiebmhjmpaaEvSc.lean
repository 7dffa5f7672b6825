/- A law's call: what comes in is only read; and its row's step. -/
import Derived.Test.YtcdpmiebmhjmpaaEvSe
import Derived.Test.YtcdpmiebmhjmpaaEvZ
import Derived.Carry
import Derived.ChangeSlices
import Derived.SliceStrings
import Derived.Deep.Slices
namespace Go.Proofs.Ytcdpmiebmhjmpaa.Ev
open Go Go.ChangeShapes Go.WideShapes

/-! ## What comes in -/

/-- A row that is only read: where it is, what is told of it. -/
structure Inp where
  there : Bool
  block : Nat
  cells : T AV
  lo : Nat
  n : Nat

def Inp.holds (x : Inp) (w : World) : Prop := x.there = true → ∃ cs el fz, w.heap[x.block]? = some (.cells cs el fz) ∧ x.n ≤ cs.size ∧ ∀ k v, x.lo ≤ k → k < x.n → x.cells.get k = some v → ∃ y, cs[k]? = some y ∧ VRel (fun _ _ => none) v y

/-- What it is to the evaluator. -/
def Inp.obj (x : Inp) : Option AObj := match x.there with
  | true => some (.ro x.cells x.lo x.n)
  | false => none

noncomputable def inpObjs : List Inp → Nat → T AObj → T AObj
  | [], _, t => t
  | x :: r, i, t => inpObjs r (i + 1) (t.set x.obj i)

noncomputable def inpHeap (l : List Inp) (G : T (T AV)) : AHeap := ⟨inpObjs l 0 .leaf, l.length, G⟩

def inpBij (l : List Inp) : Bij := fun i r => if r = 0 then match l[i]? with
  | none => none
  | some x => match x.there with
    | true => some ⟨x.block, 0, 0⟩
    | false => none else none

theorem inpObjs_get : ∀ (l : List Inp) (i : Nat) (t : T AObj) (j : Nat), (inpObjs l i t).get j = if i ≤ j ∧ j < i + l.length then (l[j - i]?).bind Inp.obj else t.get j
  | [], i, t, j => by simp [inpObjs]; omega
  | x :: r, i, t, j => by
    rw [inpObjs, inpObjs_get r (i + 1), T.get_set]
    by_cases h0 : j = i
    · subst h0
      rw [if_neg (by omega), if_pos rfl, if_pos (by simp)]
      simp
    · by_cases h1 : i + 1 ≤ j ∧ j < i + 1 + r.length
      · rw [if_pos h1, if_pos (by simp; omega)]
        rw [show j - i = (j - (i + 1)) + 1 by omega, List.getElem?_cons_succ]
      · rw [if_neg h1, if_neg h0, if_neg (by simp; omega)]

def Env.inp (w : World) (l : List Inp) : Env := { Env.of w with rob := fun b => ∃ x ∈ l, x.block = b }

def Base.inp (w : World) (l : List Inp) : Base := ⟨Env.inp w l, fun i => i < l.length, fun _ => none, fun _ => (0, 0)⟩

theorem HRel.inp {P : Program} {G : T (T AV)} {w : World} {l : List Inp} (hG : Globs G w) (hl : ∀ x ∈ l, x.holds w) : HRel P (Base.inp w l) (inpBij l) (inpHeap l G) w := by
  have hR : ∀ {i r L}, inpBij l i r = some L → r = 0 ∧ ∃ x, l[i]? = some x ∧ L = ⟨x.block, 0, 0⟩ ∧ i < l.length ∧ x.there = true := by
    intro i r L e
    unfold inpBij at e
    split at e
    · rename_i hr
      split at e
      · cases e
      · rename_i x hx
        split at e
        · rename_i ht; cases e; exact ⟨hr, x, hx, rfl, (List.getElem?_eq_some_iff.1 hx).1, ht⟩
        · cases e
    · cases e
  have hget : ∀ {i o}, (inpHeap l G).get i = some o → ∃ x, l[i]? = some x ∧ o = .ro x.cells x.lo x.n ∧ x.there = true := by
    intro i o e
    change (inpObjs l 0 .leaf).get i = some o at e
    rw [inpObjs_get] at e
    split at e
    · rw [Nat.sub_zero] at e
      cases hx : l[i]? with
      | none => rw [hx] at e; cases e
      | some x =>
        rw [hx] at e
        change x.obj = some o at e
        unfold Inp.obj at e
        split at e
        · rename_i ht; cases e; exact ⟨x, rfl, rfl, ht⟩
        · cases e
    · cases e
  exact {
    fresh := fun i hi r => by
      cases h : inpBij l i r with
      | none => rfl
      | some L =>
        obtain ⟨_, x, _, _, h1, _⟩ := hR h
        exact absurd h1 (Nat.not_lt.2 hi)
    obj := fun i o e _ => by
      obtain ⟨x, hx, rfl, ht⟩ := hget e
      obtain ⟨cs, el, fz, h1, h2, h3⟩ := hl x (List.mem_of_getElem? hx) ht
      exact ⟨⟨x.block, 0, 0⟩, cs, el, fz, by simp [inpBij, hx, ht], rfl, h1, h2, h3⟩
    pend := fun i o e => by cases e
    place := fun i r L e => by
      obtain ⟨_, x, hx, rfl, h1, ht⟩ := hR e
      obtain ⟨cs, el, fz, h2, _⟩ := hl x (List.mem_of_getElem? hx) ht
      exact ⟨.inr h1, heap_lt h2⟩
    rd := fun i hi => ⟨hi, fun o e => by obtain ⟨x, _, rfl, _⟩ := hget e; rfl⟩
    low := fun b _ => rfl
    rp := fun i _ => rfl
    rol := fun i r L _ e => by
      obtain ⟨_, x, hx, rfl, _⟩ := hR e
      exact ⟨x, List.mem_of_getElem? hx, rfl⟩
    pin := fun i r L e => by cases e
    apart := fun i r i' r' L L' e e' _ hor => by
      obtain ⟨_, _, _, _, h1, _⟩ := hR e
      obtain ⟨_, _, _, _, h2, _⟩ := hR e'
      rcases hor with h | h
      · exact absurd h1 h
      · exact absurd h2 h
    same := fun i r r' L L' e e' _ => by
      obtain ⟨_, x, hx, rfl, _⟩ := hR e
      obtain ⟨_, x', hx', rfl, _⟩ := hR e'
      rfl
    glob := fun g c e => ⟨fun hm => hm.elim (fun hl => absurd (hG g c e).1 (Nat.not_lt.2 hl)) id, (hG g c e).2⟩ }

/-- Where a call begins. -/
noncomputable def startL (P : Program) (f : FuncId) (args : List AV) (l : List Inp) (G : T (T AV)) : Option AM := match enterA P f args .normal with
  | none => none
  | some a => some ⟨a, [], inpHeap l G⟩

/-- A call, of arguments of which some are rows that are only read. -/
theorem law_calls {P : Program} {G : T (T AV)} {l : List Inp} {f : FuncId} {args : List AV} {vs : List Value} {a : AFrame} (ha : enterA P f args .normal = some a) {w : World} (hG : Globs G w) (hl : ∀ x ∈ l, x.holds w)
    (hv : VRels (inpBij l) args vs) (k : Goal P 0 f (fun v _ => v = .bool true) ⟨a, [], inpHeap l G⟩) : Calls P f vs.toArray w fun r w' => r = .returned (.bool true) ∧ Old w w' := by
  intro cs
  have hs : Sim P (Env.inp w l) cs ⟨a, [], inpHeap l G⟩ (Frame.enter P f vs.toArray .normal) cs w :=
    ⟨Base.inp w l, inpBij l, [], rfl, rfl, .inp hG hl, .start w, enter_rel ha hv (.inl rfl), rfl⟩
  obtain ⟨fr', w', B, R, v, v', h', s1, s2, s3, s4, s5, s6, s7, rfl⟩ := k (Env.inp w l) cs _ _ _ (fun i r L e => by cases e) hs
  cases s4
  exact ⟨.returned (.bool true), w', fr', ⟨rfl, (s7.all s5 s6).old fun _ e => e⟩, s1, s3, s2⟩

/-- A row of cells that came in, at a slice's address. -/
theorem inp_at {w : World} {a : Addr} {n : Nat} {f : Nat → Value} {g : Nat → AV} (h : ∀ i, i < n → w.cell? (a.add i) = some (f i)) (hfg : ∀ i, i < n → VRel (fun _ _ => none) (g i) (f i)) (hp : 0 < n) :
    ∃ b off, a = ⟨b, off, none⟩ ∧ (Inp.mk true b (.fn fun j => some (g (j - off))) off (off + n)).holds w := by
  obtain ⟨b, off, spot⟩ := a
  have hspot : spot = none := by simpa [Addr.add] using World.cell?_spot (h 0 hp)
  subst hspot
  have hc : ∀ i, i < n → w.cell? ⟨b, off + i, none⟩ = some (f i) := fun i hi => by rw [← Go.WideShapes.add_plain]; exact h i hi
  have h0 := hc 0 hp
  cases hb : w.heap[b]? with
  | none => rw [World.cell?] at h0; simp [hb] at h0
  | some o =>
    cases o with
    | cells cs el fz =>
      have hcell : ∀ i, i < n → cs[off + i]? = some (f i) := fun i hi => by
        have := hc i hi
        rwa [cell?_row w b _ hb] at this
      refine ⟨b, off, rfl, fun _ => ⟨cs, el, fz, hb, ?_, fun k v h1 h2 e => ?_⟩⟩
      · have := (Array.getElem?_eq_some_iff.1 (hcell (n - 1) (by omega))).1
        show off + n ≤ cs.size
        omega
      · cases e
        have hk : k - off < n := by
          have : k < off + n := h2
          omega
        have := hcell (k - off) hk
        rw [show off + (k - off) = k by have : off ≤ k := h1; omega] at this
        exact ⟨_, this, hfg _ hk⟩
    | _ => simp [World.cell?, hb] at h0

/-- What has to be shown of a law. -/
theorem law_ok {P : Program} [XT P] [XTOk P] (hmix : P.follows .mixedOrders = true) {G : T (T AV)} {l : List Inp} {f : FuncId} {args : List AV} {vs : List Value} {cmds : List Cmd} {K : AM → Prop} (e : optK (startL P f args l G) (Obl P f (fun v _ => v = .bool true) 0 K cmds))
    (hK : ∀ m, K m → Goal P 0 f (fun v _ => v = .bool true) m) {w : World} (hG : Globs G w) (hl : ∀ x ∈ l, x.holds w) (hv : VRels (inpBij l) args vs) : Calls P f vs.toArray w fun r w' => r = .returned (.bool true) ∧ Old w w' := by
  obtain ⟨m, h1, h2⟩ := optK_some e
  unfold startL at h1
  split at h1
  · cases h1
  · rename_i a ha
    cases h1
    exact law_calls ha hG hl hv (Obl.goal hmix hK h2)

/-! ## The row's step -/

/-- A slice of integers that comes in. -/
theorem in_ints {H : Type} {enc : TypeId × Value → H} {P : Program} {w : World} {b0 : Nat} {t e : TypeId} {k : IntKind} {v : Value} {d : DataW H} {ps : List MemPlace} (ht : P.underlying t = some (.slice e)) (he : P.underlying e = some (.int k)) (hc : P.cellsOf e = 1)
    (hv : Value.okWide P w .any b0 t v) (h : DataW.Trod enc P w 0 (fun _ => true) true t v d ps) :
    v = .slice none 0 0 ∨ ∃ (a : Addr) (len cap : Nat) (zs : List Int), v = .slice (some a) len cap ∧ len ≤ cap ∧ cap ≤ maxLen ∧ zs.length = cap ∧ (∀ i, i < zs.length → w.cell? (a.add i) = some (.int k (zs.getD i 0))) ∧ (∀ n ∈ zs, (Lit.int k n).wf = true) := by
  obtain ⟨a, l, c, rfl⟩ := okWide_slice ht hv
  obtain ⟨fuel, h⟩ := h
  rcases open_ints ht he hc h with ⟨hcs, _⟩ | ⟨a, len, cap, zs, hcs, _, hl, hm, hz, _, hc, hwf⟩
  · simp only [Value.cells, List.cons.injEq, and_true] at hcs
    exact .inl hcs
  · simp only [Value.cells, List.cons.injEq, and_true] at hcs
    exact .inr ⟨a, len, cap, zs, hcs, hl, hm, by simpa using hz, hc, hwf⟩

/-- A slice of texts that comes in. -/
theorem in_strings {H : Type} {enc : TypeId × Value → H} {P : Program} {w : World} {b0 : Nat} {t e : TypeId} {v : Value} {d : DataW H} {ps : List MemPlace} (ht : P.underlying t = some (.slice e)) (he : P.underlying e = some .string) (hc : P.cellsOf e = 1)
    (hv : Value.okWide P w .any b0 t v) (h : DataW.Trod enc P w 0 (fun _ => true) true t v d ps) :
    v = .slice none 0 0 ∨ ∃ (a : Addr) (len cap : Nat) (zs : List ByteArray), v = .slice (some a) len cap ∧ len ≤ cap ∧ cap ≤ maxLen ∧ zs.length = cap ∧ (∀ i, i < zs.length → w.cell? (a.add i) = some (.string (zs.getD i .empty))) ∧ (∀ s ∈ zs, s.size ≤ maxLen) := by
  obtain ⟨a, l, c, rfl⟩ := okWide_slice ht hv
  obtain ⟨fuel, h⟩ := h
  rcases open_strings ht he hc h with ⟨hcs, _⟩ | ⟨a, len, cap, zs, hcs, _, hl, hm, hz, _, hc, hwf⟩
  · simp only [Value.cells, List.cons.injEq, and_true] at hcs
    exact .inl hcs
  · simp only [Value.cells, List.cons.injEq, and_true] at hcs
    exact .inr ⟨a, len, cap, zs, hcs, hl, hm, by simpa using hz, hc, hwf⟩

theorem trodAll_stays {H : Type} {enc : TypeId × Value → H} {P : Program} (hl : laidOutB P = true) {W W' : World} (hb : ∀ b, b < W.heap.size → W'.heap[b]? = W.heap[b]?) {sp : Nat → Bool} :
    ∀ {ts : List TypeId} {vs : List Value} {ds : List (DataW H)} {ps : List MemPlace}, (ts.all fun t => P.readableRec t && decide (t < P.types.size)) = true → DataW.TrodAll enc P W 0 (fun _ => true) true ts vs ds ps →
      (∀ x ∈ ps, x.block < W.heap.size) → (∀ x ∈ ps, sp x.block = true) → DataW.TrodAll enc P W' 0 sp true ts vs ds ps
  | [], vs, ds, ps, _, h, _, _ => by
    obtain ⟨rfl, rfl, rfl⟩ := trodAll_nil h
    exact trodAll_mk0
  | t :: ts, vs, ds, ps, ht, h, hlt, hsp => by
    obtain ⟨v, vs', d, ds', p, q, rfl, rfl, rfl, h1, h2⟩ := trodAll_cons h
    simp only [List.all_cons, Bool.and_eq_true, decide_eq_true_eq] at ht
    have hs : ∀ x ∈ p, W.sameAt W' x := fun x hx => by
      have := hlt x (List.mem_append_left _ hx)
      cases x with
      | cell b o => exact World.cell?_of_block (w := W) (hb b this)
      | map b => exact hb b this
    exact trodAll_cons_mk (WideElems.Trod_stays hl ht.1.1 ht.1.2 h1 hs (fun x hx => hsp x (List.mem_append_left _ hx)))
      (trodAll_stays hl hb (by simpa using ht.2) h2 (fun x hx => hlt x (List.mem_append_right _ hx)) (fun x hx => hsp x (List.mem_append_right _ hx)))

/-- What a law leaves that has answered true: what came in reads as it did. -/
theorem post_law {H : Type} {enc : TypeId × Value → H} {P : Program} {f : Func} {s : ChangeSpec} {apart fresh handsOn again : Bool} {W W' : World} {args : Array Value} {ds gs : List (DataW H)} {before : List MemPlace} {tb : TypeId}
    (hl : laidOutB P = true) (ht : (f.params.toList.all fun t => P.readableRec t && decide (t < P.types.size)) = true) (hr : f.resultTypes = #[tb]) (hbool : P.underlying tb = some .bool) (hvars : s.vars = [])
    (hW : DataW.Whole enc P f.params.toList s.vars apart W args.toList ds gs before) (hfn : s.fn H (ds ++ gs) = { results := [.lit (.bool true)], args := ds }) (k : Old W W') :
    s.post enc P f apart fresh handsOn again W args (.bool true) W' := by
  have hlt := hW.lt
  have hW' := hW
  obtain ⟨p, q, hA, hV, hpq, hz, hn⟩ := hW
  rw [hvars] at hV
  have hgq : gs = [] ∧ q = [] := by
    cases gs with
    | nil => exact ⟨rfl, hV⟩
    | cons g r => exact hV.elim
  obtain ⟨rfl, rfl⟩ := hgq
  rw [List.append_nil] at hpq
  subst hpq
  have hargs : ∀ sp : Nat → Bool, (∀ x ∈ before, sp x.block = true) → DataW.TrodAll enc P W' 0 sp true f.params.toList args.toList ds before := fun sp hsp => trodAll_stays hl k.other ht hA hlt hsp
  have hres : ∀ (b : Nat) (sp : Nat → Bool) (hd : Bool), DataW.TrodAll enc P W' b sp hd f.resultTypes.toList ((Value.bool true).resultList f.resultTypes.size) [.lit (.bool true)] [] := fun b sp hd => by
    rw [hr]
    exact trodAll_cons_mk (RowKit.shut_bool hbool true) trodAll_mk0
  have hold : ∀ x ∈ before, (fun b => decide (b < W.heap.size)) x.block = true := fun x hx => by simpa using hlt x hx
  refine ⟨ds, [], before, [], before, [], hW', ?_, ?_, ?_, k.kept _, fun _ => ?_⟩
  · rw [hfn]; exact hres _ _ _
  · rw [hfn]; exact hargs _ hold
  · rw [hvars, hfn]; rfl
  · refine ⟨RowKit.ok_one hr rfl (RowKit.okWide_bool_mk hbool true), [.lit (.bool true)] ++ ds, [], ([] ++ before) ++ [], ⟨[] ++ before, [], trodAll_append (hargs _ (fun _ _ => rfl)) (hres _ _ _), by rw [hvars]; rfl, rfl, ?_, ?_⟩, ?_⟩
    · intro b off hp
      simp only [List.nil_append, List.append_nil] at hp
      have hb : b < W.heap.size := hlt _ hp
      have := hz b off hp
      simp only [World.frozen?, k.other b hb] at this ⊢
      exact this
    · intro ha
      simpa using hn ha
    · intro x hx _
      simpa using hx

end Go.Proofs.Ytcdpmiebmhjmpaa.Ev
