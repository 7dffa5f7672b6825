/- Variables on a heap of which nothing else is told, one by one; and rings of them. -/
import Derived.Test.YtcdpmiebmhjmpaaHo
set_option maxRecDepth 100000
set_option linter.unusedVariables false
namespace Go.Proofs.Ytcdpmiebmhjmpaa.Ev
open Go

/-- A cell of a row. -/
def Cell (O : T AObj) (id k : Nat) (v : AV) : Prop := ∃ n f, Row O id n f ∧ k < n ∧ f k = v

variable {O O' : T AObj} {id k : Nat} {v w : AV}

theorem Cell.same (h : Cell O id k v) (e : O'.get id = O.get id) : Cell O' id k v := by
  obtain ⟨n, f, h1, h2, h3⟩ := h
  exact ⟨n, f, h1.same e, h2, h3⟩

theorem Cell.load (h : Cell O id k v) (N : Nat) (G : T (T AV)) : loadCellsA ⟨O, N, G⟩ id 0 k 1 = some [v] := by
  obtain ⟨n, f, h1, h2, h3⟩ := h
  rw [h1.load1 (by omega), h3]

theorem Row.cell {n : Nat} {f : Nat → AV} (h : Row O id n f) (hk : k < n) : Cell O id k (f k) := ⟨n, f, h, hk, rfl⟩

/-- All cells but one are what they were. -/
def But (O O' : T AObj) (id k : Nat) : Prop := (∀ i j u, (i ≠ id ∨ j ≠ k) → Cell O i j u → Cell O' i j u) ∧ Frm O O' id

theorem Cell.store (h : Cell O id k w) (hv : AV.one v = true) (N : Nat) (G : T (T AV)) : ∃ O', storeCellsA ⟨O, N, G⟩ id 0 k [v] = some ⟨O', N, G⟩ ∧ Cell O' id k v ∧ But O O' id k := by
  obtain ⟨n, f, h1, h2, h3⟩ := h
  obtain ⟨O', e, r, fr⟩ := h1.store N G (off := k) (vs := [v]) (by simp [hv]) (by show k + 1 ≤ n; omega)
  refine ⟨O', e, ⟨n, _, r, h2, ?_⟩, fun i j u hne hc => ?_, fr⟩
  · exact (upd_in (f := f) (off := k) (vs := [v]) (u := 0) Nat.zero_lt_one)
  · by_cases hi : i = id
    · subst hi
      obtain ⟨n', f', g1, g2, g3⟩ := hc
      obtain ⟨c, el, q1, q2⟩ := h1
      obtain ⟨c', el', q3, q4⟩ := g1
      rw [q1] at q3
      cases q3
      refine ⟨n, _, r, g2, ?_⟩
      rw [upd_out (by show _ ∨ k + 1 ≤ j; omega)]
      have a := q2 j g2
      have b := q4 j g2
      rw [a] at b
      rw [Option.some.inj b, g3]
    · exact hc.same (fr i hi)

/-- A node of a ring: where its link to the newer one is; that to the elder one is behind it. -/
abbrev Node := Nat × Nat
def pt (x : Node) : AV := .ptr x.1 0 x.2

/-- Each is linked to the next one, both ways. -/
def Lk (O : T AObj) : List Node → Prop
  | [] => True
  | a :: r => (match r with
    | [] => True
    | b :: _ => Cell O a.1 (a.2 + 1) (pt b) ∧ Cell O b.1 b.2 (pt a)) ∧ Lk O r

theorem Lk.two {a b : Node} {r : List Node} : Lk O (a :: b :: r) ↔ (Cell O a.1 (a.2 + 1) (pt b) ∧ Cell O b.1 b.2 (pt a)) ∧ Lk O (b :: r) := Iff.rfl
theorem Lk.one (a : Node) : Lk O [a] := ⟨trivial, trivial⟩

theorem Lk.app : ∀ {u : List Node} {a : Node} {v : List Node}, Lk O (u ++ a :: v) ↔ Lk O (u ++ [a]) ∧ Lk O (a :: v)
  | [], a, v => ⟨fun h => ⟨Lk.one a, h⟩, fun h => h.2⟩
  | [x], a, v => by
    show Lk O (x :: a :: v) ↔ Lk O (x :: a :: []) ∧ _
    rw [Lk.two, Lk.two]
    exact ⟨fun h => ⟨⟨h.1, Lk.one a⟩, h.2⟩, fun h => ⟨h.1.1, h.2⟩⟩
  | x :: y :: u, a, v => by
    show Lk O (x :: y :: (u ++ a :: v)) ↔ Lk O (x :: y :: (u ++ [a])) ∧ _
    rw [Lk.two, Lk.two]
    have ih := Lk.app (u := y :: u) (a := a) (v := v)
    simp only [List.cons_append] at ih
    rw [ih]
    exact ⟨fun h => ⟨⟨h.1, h.2.1⟩, h.2.2⟩, fun h => ⟨h.1.1, h.1.2, h.2⟩⟩

theorem Lk.mono : ∀ {L : List Node}, (∀ x ∈ L.dropLast, ∀ u, Cell O x.1 (x.2 + 1) u → Cell O' x.1 (x.2 + 1) u) → (∀ x ∈ L.tail, ∀ u, Cell O x.1 x.2 u → Cell O' x.1 x.2 u) → Lk O L → Lk O' L
  | [], _, _, _ => trivial
  | [a], _, _, _ => Lk.one a
  | a :: b :: r, h1, h2, h => by
    rw [Lk.two] at h ⊢
    refine ⟨⟨h1 a (by simp) _ h.1.1, h2 b (by simp) _ h.1.2⟩, Lk.mono (fun x hx => h1 x (by simp only [List.dropLast_cons_cons, List.mem_cons]; exact .inr hx)) (fun x hx => h2 x ?_) h.2⟩
    simp only [List.tail_cons] at hx ⊢
    exact List.mem_cons_of_mem _ hx

/-- A node, and the ring's own. -/
def nd (x : Nat) : Node := (x, 0)

/-- The ring of some: the newest first. -/
def Ring (O : T AObj) (l : Nat) (xs : List Nat) : Prop := Lk O ((l, 3) :: (xs.map nd ++ [(l, 3)]))

/-- No link to an elder one is where a link to a newer one is. -/
theorem el_nw {l : Nat} {x y : Node} (hx : x = (l, 3) ∨ ∃ i, i ≠ l ∧ x = nd i) (hy : y = (l, 3) ∨ ∃ i, i ≠ l ∧ y = nd i) : x.1 ≠ y.1 ∨ x.2 + 1 ≠ y.2 := by
  rcases hx with rfl | ⟨i, hi, rfl⟩ <;> rcases hy with rfl | ⟨j, hj, rfl⟩
  · right; simp
  · right; simp [nd]
  · left; exact hi
  · right; simp [nd]

theorem nd_ne {l : Nat} {x y : Node} (hx : x = (l, 3) ∨ ∃ i, i ≠ l ∧ x = nd i) (hy : y = (l, 3) ∨ ∃ i, i ≠ l ∧ y = nd i) (h : x ≠ y) : x.1 ≠ y.1 := by
  rcases hx with rfl | ⟨i, hi, rfl⟩ <;> rcases hy with rfl | ⟨j, hj, rfl⟩
  · exact absurd rfl h
  · exact fun e => hj e.symm
  · exact hi
  · exact fun e => h (by show nd i = nd j; rw [show i = j from e])

theorem split_last {α : Type} : ∀ (a : α) (u : List α), ∃ (A : List α) (n : α), a :: u = A ++ [n] ∧ n ∈ a :: u
  | a, [] => ⟨[], a, rfl, by simp⟩
  | a, b :: u => by
    obtain ⟨A, n, h1, h2⟩ := split_last b u
    exact ⟨a :: A, n, by rw [h1]; rfl, List.mem_cons_of_mem _ h2⟩

/-- One leaves: two links are laid anew. -/
theorem Ring.leave {l p : Nat} {u v : List Nat} (h : Ring O l (u ++ p :: v)) (hn : (u ++ p :: v).Nodup) (hl : ∀ x ∈ u ++ p :: v, x ≠ l) (N : Nat) (G : T (T AV)) :
    ∃ (e n : Node) (O1 O2 : T AObj), (e = (l, 3) ∨ ∃ i, i ∈ v ∧ e = nd i) ∧ (n = (l, 3) ∨ ∃ i, i ∈ u ∧ n = nd i) ∧ Cell O p 1 (pt e) ∧ Cell O p 0 (pt n) ∧
      storeCellsA ⟨O, N, G⟩ e.1 0 e.2 [pt n] = some ⟨O1, N, G⟩ ∧ storeCellsA ⟨O1, N, G⟩ n.1 0 (n.2 + 1) [pt e] = some ⟨O2, N, G⟩ ∧ Ring O2 l (u ++ v) ∧ But O O1 e.1 e.2 ∧ But O1 O2 n.1 (n.2 + 1) := by
  -- what is ahead, and what is behind
  obtain ⟨A, n, hA, hnA⟩ := split_last ((l, 3) : Node) (u.map nd)
  obtain ⟨e, B, hB⟩ : ∃ e B, v.map nd ++ [((l, 3) : Node)] = e :: B := by
    cases v with
    | nil => exact ⟨_, _, rfl⟩
    | cons a r => exact ⟨_, _, rfl⟩
  have heB : e ∈ v.map nd ++ [((l, 3) : Node)] := by rw [hB]; simp
  unfold Ring at h
  have hsplit : (((l, 3) : Node) :: ((u ++ p :: v).map nd ++ [(l, 3)])) = A ++ n :: nd p :: e :: B := by
    rw [List.map_append, List.map_cons, List.append_assoc, List.cons_append, ← hB, ← List.cons_append, hA]
    simp
  rw [hsplit, Lk.app, Lk.two, Lk.two] at h
  obtain ⟨k1, ⟨k2, k3⟩, ⟨k4, k5⟩, k6⟩ := h
  have he : e = (l, 3) ∨ ∃ i, i ∈ v ∧ e = nd i := by
    rcases List.mem_append.1 heB with a | a
    · obtain ⟨i, hi, rfl⟩ := List.mem_map.1 a
      exact .inr ⟨i, hi, rfl⟩
    · exact .inl (List.mem_singleton.1 a)
  have hnn : n = (l, 3) ∨ ∃ i, i ∈ u ∧ n = nd i := by
    rcases List.mem_cons.1 hnA with a | a
    · exact .inl a
    · obtain ⟨i, hi, rfl⟩ := List.mem_map.1 a
      exact .inr ⟨i, hi, rfl⟩
  have hul : ∀ x ∈ u, x ≠ l := fun x hx => hl x (List.mem_append_left _ hx)
  have hvl : ∀ x ∈ v, x ≠ l := fun x hx => hl x (List.mem_append_right _ (List.mem_cons_of_mem _ hx))
  have ge : e = (l, 3) ∨ ∃ i, i ≠ l ∧ e = nd i := he.imp id fun ⟨i, hi, h⟩ => ⟨i, hvl i hi, h⟩
  have gn : n = (l, 3) ∨ ∃ i, i ≠ l ∧ n = nd i := hnn.imp id fun ⟨i, hi, h⟩ => ⟨i, hul i hi, h⟩
  obtain ⟨hn1, hn2, hn3⟩ := List.nodup_append.1 hn
  have hdis : ∀ x ∈ u, ∀ y ∈ v, x ≠ y := fun x hx y hy => hn3 x hx y (List.mem_cons_of_mem _ hy)
  obtain ⟨O1, s1, c1, b1⟩ := k5.store (v := pt n) rfl N G
  have k2' : Cell O1 n.1 (n.2 + 1) (pt (nd p)) := b1.1 _ _ _ (el_nw gn ge) k2
  obtain ⟨O2, s2, c2, b2⟩ := k2'.store (v := pt e) rfl N G
  refine ⟨e, n, O1, O2, he, hnn, k4, k3, s1, s2, ?_, b1, b2⟩
  -- cells that stay
  have stay_el : ∀ x : Node, (x = (l, 3) ∨ ∃ i, i ≠ l ∧ x = nd i) → x ≠ n → ∀ w, Cell O x.1 (x.2 + 1) w → Cell O2 x.1 (x.2 + 1) w := fun x gx hx w hc =>
    b2.1 _ _ _ (.inl (nd_ne gx gn hx)) (b1.1 _ _ _ (el_nw gx ge) hc)
  have stay_nw : ∀ x : Node, (x = (l, 3) ∨ ∃ i, i ≠ l ∧ x = nd i) → x ≠ e → ∀ w, Cell O x.1 x.2 w → Cell O2 x.1 x.2 w := fun x gx hx w hc =>
    b2.1 _ _ _ ((el_nw gn gx).imp Ne.symm Ne.symm) (b1.1 _ _ _ (.inl (nd_ne gx ge hx)) hc)
  unfold Ring
  have hsplit2 : (((l, 3) : Node) :: ((u ++ v).map nd ++ [(l, 3)])) = A ++ n :: e :: B := by
    rw [List.map_append, List.append_assoc, hB, ← List.cons_append, hA]
    simp
  rw [hsplit2, Lk.app, Lk.two]
  have hnu : ∀ x ∈ A, x ≠ n := by
    have hnd : (((l, 3) : Node) :: u.map nd).Nodup := by
      rw [List.nodup_cons]
      refine ⟨fun hm => ?_, ?_⟩
      · obtain ⟨i, hi, h⟩ := List.mem_map.1 hm
        exact hul i hi (congrArg Prod.fst h)
      · exact hn1.map (f := nd) (fun a b hab h => hab (congrArg Prod.fst h))
    rw [hA] at hnd
    intro x hx h
    exact (List.nodup_append.1 hnd).2.2 x hx n (by simp) h
  have gA : ∀ x ∈ A ++ [n], x = (l, 3) ∨ ∃ i, i ≠ l ∧ x = nd i := fun x hx => by
    rw [← hA] at hx
    rcases List.mem_cons.1 hx with a | a
    · exact .inl a
    · obtain ⟨i, hi, rfl⟩ := List.mem_map.1 a
      exact .inr ⟨i, hul i hi, rfl⟩
  refine ⟨k1.mono (fun x hx => ?_) (fun x hx => ?_), ⟨c2, b2.1 _ _ _ ((el_nw gn ge).imp Ne.symm Ne.symm) c1⟩, k6.mono (fun x hx => ?_) (fun x hx => ?_)⟩
  · rw [List.dropLast_concat] at hx
    exact stay_el x (gA x (List.mem_append_left _ hx)) (hnu x hx)
  · rw [← hA, List.tail_cons] at hx
    obtain ⟨i, hi, rfl⟩ := List.mem_map.1 hx
    refine stay_nw _ (.inr ⟨i, hul i hi, rfl⟩) fun h => ?_
    rcases he with h' | ⟨j, hj, h'⟩
    · rw [h'] at h; exact hul i hi (congrArg Prod.fst h)
    · rw [h'] at h; exact hdis i hi j hj (congrArg Prod.fst h)
  · rw [← hB, List.dropLast_concat] at hx
    obtain ⟨i, hi, rfl⟩ := List.mem_map.1 hx
    refine stay_el _ (.inr ⟨i, hvl i hi, rfl⟩) fun h => ?_
    rcases hnn with h' | ⟨j, hj, h'⟩
    · rw [h'] at h; exact hvl i hi (congrArg Prod.fst h)
    · rw [h'] at h; exact hdis j hj i hi (congrArg Prod.fst h).symm
  · have hndB : (v.map nd ++ [((l, 3) : Node)]).Nodup := by
      rw [List.nodup_append]
      refine ⟨(List.nodup_cons.1 hn2).2.map (f := nd) (fun a b hab h => hab (congrArg Prod.fst h)), by simp, fun a ha b hb h => ?_⟩
      obtain ⟨i, hi, rfl⟩ := List.mem_map.1 ha
      rw [List.mem_singleton.1 hb] at h
      exact hvl i hi (congrArg Prod.fst h)
    rw [List.tail_cons] at hx
    have hxm : x ∈ v.map nd ++ [((l, 3) : Node)] := by rw [hB]; exact List.mem_cons_of_mem _ hx
    have gx : x = (l, 3) ∨ ∃ i, i ≠ l ∧ x = nd i := by
      rcases List.mem_append.1 hxm with a | a
      · obtain ⟨i, hi, rfl⟩ := List.mem_map.1 a
        exact .inr ⟨i, hvl i hi, rfl⟩
      · exact .inl (List.mem_singleton.1 a)
    rw [hB] at hndB
    exact stay_nw x gx (fun h => (List.nodup_cons.1 hndB).1 (h ▸ hx))

/-- One enters, as the newest: four links. -/
theorem Ring.enter {l p : Nat} {xs : List Nat} (h : Ring O l xs) (hl : ∀ x ∈ xs, x ≠ l) (hp : p ∉ xs) (hpl : p ≠ l) {w0 w1 : AV} (c0 : Cell O p 0 w0) (c1 : Cell O p 1 w1) (hn : xs.Nodup) (N : Nat) (G : T (T AV)) :
    ∃ (a : Node) (O1 O2 O3 O4 : T AObj), (a = (l, 3) ∨ ∃ i, i ∈ xs ∧ a = nd i) ∧ Cell O l 4 (pt a) ∧ storeCellsA ⟨O, N, G⟩ p 0 0 [pt (l, 3)] = some ⟨O1, N, G⟩ ∧ storeCellsA ⟨O1, N, G⟩ p 0 1 [pt a] = some ⟨O2, N, G⟩ ∧ Cell O2 p 1 (pt a) ∧
      storeCellsA ⟨O2, N, G⟩ a.1 0 a.2 [pt (nd p)] = some ⟨O3, N, G⟩ ∧ storeCellsA ⟨O3, N, G⟩ l 0 4 [pt (nd p)] = some ⟨O4, N, G⟩ ∧ Ring O4 l (p :: xs) ∧ But O O1 p 0 ∧ But O1 O2 p 1 ∧ But O2 O3 a.1 a.2 ∧ But O3 O4 l 4 := by
  obtain ⟨a, B, hB⟩ : ∃ e B, xs.map nd ++ [((l, 3) : Node)] = e :: B := by
    cases xs with
    | nil => exact ⟨_, _, rfl⟩
    | cons a r => exact ⟨_, _, rfl⟩
  have haB : a ∈ xs.map nd ++ [((l, 3) : Node)] := by rw [hB]; simp
  have ha : a = (l, 3) ∨ ∃ i, i ∈ xs ∧ a = nd i := by
    rcases List.mem_append.1 haB with x | x
    · obtain ⟨i, hi, rfl⟩ := List.mem_map.1 x
      exact .inr ⟨i, hi, rfl⟩
    · exact .inl (List.mem_singleton.1 x)
  have ga : a = (l, 3) ∨ ∃ i, i ≠ l ∧ a = nd i := ha.imp id fun ⟨i, hi, h⟩ => ⟨i, hl i hi, h⟩
  have hap : a.1 ≠ p := by
    rcases ha with rfl | ⟨i, hi, rfl⟩
    · exact Ne.symm hpl
    · exact fun h => hp (h ▸ hi)
  unfold Ring at h
  rw [hB, Lk.two] at h
  obtain ⟨⟨k1, k2⟩, k3⟩ := h
  obtain ⟨O1, s1, d1, b1⟩ := c0.store (v := pt (l, 3)) rfl N G
  obtain ⟨O2, s2, d2, b2⟩ := (b1.1 _ _ _ (.inr (by omega)) c1).store (v := pt a) rfl N G
  have k2' : Cell O2 a.1 a.2 (pt (l, 3)) := b2.1 _ _ _ (.inl hap) (b1.1 _ _ _ (.inl hap) k2)
  obtain ⟨O3, s3, d3, b3⟩ := k2'.store (v := pt (nd p)) rfl N G
  have hl4 : l ≠ a.1 ∨ 4 ≠ a.2 := by
    rcases ha with rfl | ⟨i, hi, rfl⟩
    · right; simp
    · left; exact Ne.symm (hl i hi)
  have k1' : Cell O3 l 4 (pt a) := b3.1 _ _ _ hl4 (b2.1 _ _ _ (.inl (Ne.symm hpl)) (b1.1 _ _ _ (.inl (Ne.symm hpl)) k1))
  obtain ⟨O4, s4, d4, b4⟩ := k1'.store (v := pt (nd p)) rfl N G
  refine ⟨a, O1, O2, O3, O4, ha, k1, s1, s2, d2, s3, s4, ?_, b1, b2, b3, b4⟩
  unfold Ring
  rw [List.map_cons, List.cons_append, hB, Lk.two, Lk.two]
  have e1 : Cell O4 a.1 a.2 (pt (nd p)) := b4.1 _ _ _ (by rcases hl4 with h | h; exact .inl (Ne.symm h); exact .inr (Ne.symm h)) d3
  have e2 : Cell O4 p 1 (pt a) := b4.1 _ _ _ (.inl hpl) (b3.1 _ _ _ (.inl (Ne.symm hap)) d2)
  have e3 : Cell O4 p 0 (pt (l, 3)) := b4.1 _ _ _ (.inl hpl) (b3.1 _ _ _ (.inl (Ne.symm hap)) (b2.1 _ _ _ (.inr (by omega)) d1))
  refine ⟨⟨d4, e3⟩, ⟨e2, e1⟩, k3.mono (fun x hx => ?_) (fun x hx => ?_)⟩
  · rw [← hB, List.dropLast_concat] at hx
    obtain ⟨i, hi, rfl⟩ := List.mem_map.1 hx
    intro w hc
    have hip : i ≠ p := fun h => hp (h ▸ hi)
    exact b4.1 _ _ _ (.inl (hl i hi)) (b3.1 _ _ _ (el_nw (.inr ⟨i, hl i hi, rfl⟩) ga) (b2.1 _ _ _ (.inl hip) (b1.1 _ _ _ (.inl hip) hc)))
  · have hndB : (xs.map nd ++ [((l, 3) : Node)]).Nodup := by
      rw [List.nodup_append]
      refine ⟨hn.map (f := nd) (fun a b hab h => hab (congrArg Prod.fst h)), by simp, fun a ha b hb h => ?_⟩
      obtain ⟨i, hi, rfl⟩ := List.mem_map.1 ha
      rw [List.mem_singleton.1 hb] at h
      exact hl i hi (congrArg Prod.fst h)
    rw [List.tail_cons] at hx
    have hxm : x ∈ xs.map nd ++ [((l, 3) : Node)] := by rw [hB]; exact List.mem_cons_of_mem _ hx
    rw [hB] at hndB
    have hxa : x ≠ a := fun h => (List.nodup_cons.1 hndB).1 (h ▸ hx)
    intro w hc
    rcases List.mem_append.1 hxm with y | y
    · obtain ⟨i, hi, rfl⟩ := List.mem_map.1 y
      have hip : i ≠ p := fun h => hp (h ▸ hi)
      exact b4.1 _ _ _ (.inl (hl i hi)) (b3.1 _ _ _ (.inl (nd_ne (.inr ⟨i, hl i hi, rfl⟩) ga hxa)) (b2.1 _ _ _ (.inl hip) (b1.1 _ _ _ (.inl hip) hc)))
    · obtain rfl := List.mem_singleton.1 y
      exact b4.1 _ _ _ (.inr (by simp)) (b3.1 _ _ _ (.inl (nd_ne (.inl rfl) ga hxa)) (b2.1 _ _ _ (.inl (Ne.symm hpl)) (b1.1 _ _ _ (.inl (Ne.symm hpl)) hc)))

end Go.Proofs.Ytcdpmiebmhjmpaa.Ev
