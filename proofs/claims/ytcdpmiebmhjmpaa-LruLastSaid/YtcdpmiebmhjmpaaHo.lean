/- Rows on a heap of which nothing else is told: loads, stores, new ones. -/
import Derived.Test.YtcdpmiebmhjmpaaEvSc
set_option maxRecDepth 100000
namespace Go.Proofs.Ytcdpmiebmhjmpaa.Ev
open Go

/-- An object is a row of n cells, which are f. -/
def Row (O : T AObj) (id n : Nat) (f : Nat → AV) : Prop := ∃ c el, O.get id = some (.cells c n el 0 0 1 0 false .leaf) ∧ ∀ k, k < n → c.get k = some (f k)

/-- All others are what they were. -/
def Frm (O O' : T AObj) (id : Nat) : Prop := ∀ j, j ≠ id → O'.get j = O.get j

def upd (f : Nat → AV) (off : Nat) (vs : List AV) (k : Nat) : AV := if off ≤ k ∧ k < off + vs.length then vs.getD (k - off) undefA else f k

variable {O O' : T AObj} {N id n off : Nat} {G : T (T AV)} {f : Nat → AV}

theorem Row.same (h : Row O id n f) (e : O'.get id = O.get id) : Row O' id n f := by
  obtain ⟨c, el, h1, h2⟩ := h
  exact ⟨c, el, e.trans h1, h2⟩

theorem Row.fr {i : Nat} (h : Row O id n f) (e : Frm O O' i) (hi : id ≠ i) : Row O' id n f := h.same (e id hi)

theorem Row.to {g : Nat → AV} (h : Row O id n f) (e : ∀ k, k < n → f k = g k) : Row O id n g := by
  obtain ⟨c, el, h1, h2⟩ := h
  exact ⟨c, el, h1, fun k hk => by rw [h2 k hk, e k hk]⟩

theorem load_row {c : T AV} {el : TypeId} (h : O.get id = some (.cells c n el 0 0 1 0 false .leaf)) {k : Nat} {l : List AV} (hk : off + k ≤ n) (hl : loadList c off k = some l) : loadCellsA ⟨O, N, G⟩ id 0 off k = some l := by
  unfold loadCellsA
  show (match O.get id with | some (.cells c n _ lo hi _ _ _ ex) => _ | some (.ro c lo n) => _ | _ => _) = _
  rw [h]
  show (if 0 ≤ 0 ∧ 0 ≤ 0 ∧ off + k ≤ n then loadList c off k else none) = _
  rw [if_pos ⟨Nat.le_refl _, Nat.le_refl _, hk⟩, hl]

theorem Row.load1 (h : Row O id n f) (hk : off + 1 ≤ n) : loadCellsA ⟨O, N, G⟩ id 0 off 1 = some [f off] := by
  obtain ⟨c, el, h1, h2⟩ := h
  refine load_row h1 hk ?_
  show (match c.get (off + 0) with | none => none | some v => some [v]) = _
  rw [h2 (off + 0) (by omega)]
  rfl

theorem Row.load5 (h : Row O id n f) (hk : off + 5 ≤ n) : loadCellsA ⟨O, N, G⟩ id 0 off 5 = some [f off, f (off + 1), f (off + 2), f (off + 3), f (off + 4)] := by
  obtain ⟨c, el, h1, h2⟩ := h
  refine load_row h1 hk ?_
  unfold loadList loadG
  simp only [h2 (off + 4) (by omega)]
  unfold loadG
  simp only [h2 (off + 3) (by omega)]
  unfold loadG
  simp only [h2 (off + 2) (by omega)]
  unfold loadG
  simp only [h2 (off + 1) (by omega)]
  unfold loadG
  simp only [h2 (off + 0) (by omega)]
  rfl

theorem Row.store (h : Row O id n f) (N : Nat) (G : T (T AV)) {vs : List AV} (hv : vs.all AV.one = true) (ho : off + vs.length ≤ n) :
    ∃ O', storeCellsA ⟨O, N, G⟩ id 0 off vs = some ⟨O', N, G⟩ ∧ Row O' id n (upd f off vs) ∧ Frm O O' id := by
  obtain ⟨c, el, h1, h2⟩ := h
  refine ⟨O.set (some (.cells (storeList c off vs) n el 0 0 1 0 false .leaf)) id, ?_, ⟨storeList c off vs, el, ?_, fun k hk => ?_⟩, fun j hj => ?_⟩
  · unfold storeCellsA
    show (match O.get id with | some (.cells c n el lo hi nv fz sg ex) => _ | _ => _) = _
    rw [h1]
    show (if 0 ≤ 0 ∧ 0 ≤ 0 ∧ off + vs.length ≤ n ∧ 0 ≤ off ∧ vs.all AV.one = true then (storeList c off vs).seq fun c => some (AHeap.put ⟨O, N, G⟩ id (.cells c n el 0 0 1 0 false .leaf)) else none) = _
    rw [if_pos ⟨Nat.le_refl _, Nat.le_refl _, ho, Nat.zero_le _, hv⟩, T.seq_eq]
    rfl
  · rw [T.get_set, if_pos rfl]
  · rw [storeList_get]
    unfold upd
    split
    · rename_i hk'
      rw [List.getD_eq_getElem?_getD]
      rw [List.getElem?_eq_getElem (by omega)]
      rfl
    · exact h2 k hk
  · rw [T.get_set, if_neg hj]

theorem Row.mk {c : T AV} {el : TypeId} (O : T AObj) (N : Nat) (hc : ∀ k, k < n → c.get k = some (f k)) : ∃ O', T.set (some (.cells c n el 0 0 1 0 false .leaf)) O N = O' ∧ Row O' N n f ∧ Frm O O' N :=
  ⟨_, rfl, ⟨c, el, by rw [T.get_set, if_pos rfl], hc⟩, fun j hj => by rw [T.get_set, if_neg hj]⟩

/-- A row that came in, read only. -/
theorem ro_load {c : T AV} {lo : Nat} {v : AV} (h : O.get id = some (.ro c lo n)) (h0 : lo ≤ off) (h1 : off + 1 ≤ n) (hv : c.get off = some v) : loadCellsA ⟨O, N, G⟩ id 0 off 1 = some [v] := by
  unfold loadCellsA
  show (match O.get id with | some (.cells c n _ lo hi _ _ _ ex) => _ | some (.ro c lo n) => _ | _ => _) = _
  rw [h]
  show (if 0 = 0 ∧ lo ≤ off ∧ off + 1 ≤ n then loadList c off 1 else none) = _
  rw [if_pos ⟨rfl, h0, h1⟩]
  show (match c.get (off + 0) with | none => none | some v => some [v]) = _
  rw [Nat.add_zero, hv]

def q4 (a b c d : AV) : Nat → AV
  | 0 => a
  | 1 => b
  | 2 => c
  | _ => d

theorem upd40 {a b c d x : AV} : ∀ k, k < 4 → upd (q4 a b c d) 0 [x] k = q4 x b c d k := fun k hk => by
  rcases k with _ | _ | _ | _ | k
  · rfl
  · rfl
  · rfl
  · rfl
  · omega
theorem upd41 {a b c d x : AV} : ∀ k, k < 4 → upd (q4 a b c d) 1 [x] k = q4 a x c d k := fun k hk => by
  rcases k with _ | _ | _ | _ | k
  · rfl
  · rfl
  · rfl
  · rfl
  · omega
theorem upd42 {a b c d x : AV} : ∀ k, k < 4 → upd (q4 a b c d) 2 [x] k = q4 a b x d k := fun k hk => by
  rcases k with _ | _ | _ | _ | k
  · rfl
  · rfl
  · rfl
  · rfl
  · omega
theorem upd43 {a b c d x : AV} : ∀ k, k < 4 → upd (q4 a b c d) 3 [x] k = q4 a b c x k := fun k hk => by
  rcases k with _ | _ | _ | _ | k
  · rfl
  · rfl
  · rfl
  · rfl
  · omega

theorem upd_in {vs : List AV} {u : Nat} (hu : u < vs.length) : upd f off vs (off + u) = vs.getD u undefA := by
  unfold upd
  rw [if_pos (by omega), Nat.add_sub_cancel_left]
theorem upd_out {vs : List AV} {k : Nat} (h : k < off ∨ off + vs.length ≤ k) : upd f off vs k = f k := by
  unfold upd
  rw [if_neg (by omega)]

end Go.Proofs.Ytcdpmiebmhjmpaa.Ev
