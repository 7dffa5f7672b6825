/- What a store of what was used lately is: one comes, and one goes. -/
import Derived.Test.YtcdpmiebmhjmpaaLc
set_option maxRecDepth 100000
set_option linter.unusedVariables false
namespace Go.Proofs.Ytcdpmiebmhjmpaa.lr
open Go Ev

variable {O O' O1 O2 : T AObj} {N l mi cap : Nat} {G : T (T AV)} {L u w : List Ent} {k v : Int}

/-- The length is told anew. -/
theorem ring_len {c c' : AV} {xs : List Nat} (h : Ring O l xs) (hl : ∀ x ∈ xs, x ≠ l) (b : But O O' l 1) : Ring O' l xs := by
  refine Lk.mono (fun y hy c hc => b.1 _ _ _ ?_ hc) (fun y hy c hc => b.1 _ _ _ ?_ hc) h
  · rw [← List.cons_append, List.dropLast_concat] at hy
    rcases List.mem_cons.1 hy with rfl | hm
    · right; show (3 + 1 : Nat) ≠ 1; omega
    · obtain ⟨i, hi, rfl⟩ := List.mem_map.1 hm
      left; exact hl i hi
  · rw [List.tail_cons] at hy
    rcases List.mem_append.1 hy with hm | hm
    · obtain ⟨i, hi, rfl⟩ := List.mem_map.1 hm
      left; exact hl i hi
    · obtain rfl := List.mem_singleton.1 hm
      right; show (3 : Nat) ≠ 1; omega

theorem ring_same {xs : List Nat} (h : Ring O l xs) (e : ∀ i, i = l ∨ i ∈ xs → O'.get i = O.get i) : Ring O' l xs := by
  refine Lk.mono (fun y hy c hc => hc.same ?_) (fun y hy c hc => hc.same ?_) h
  · rw [← List.cons_append, List.dropLast_concat] at hy
    rcases List.mem_cons.1 hy with rfl | hm
    · exact e _ (.inl rfl)
    · obtain ⟨i, hi, rfl⟩ := List.mem_map.1 hm
      exact e _ (.inr hi)
  · rw [List.tail_cons] at hy
    rcases List.mem_append.1 hy with hm | hm
    · obtain ⟨i, hi, rfl⟩ := List.mem_map.1 hm
      exact e _ (.inr hi)
    · obtain rfl := List.mem_singleton.1 hm
      exact e _ (.inl rfl)

theorem LR.ids (h : LR O l mi cap L) : ∀ i ∈ L.map (·.1), i ≠ l ∧ i ≠ mi := fun i hi => by
  obtain ⟨y, hy, rfl⟩ := List.mem_map.1 hi
  exact ⟨(h.2.2.2.2.2.1 y hy).1, (h.2.2.2.2.2.1 y hy).2.1⟩

/-- A new one comes. -/
theorem add (h : LR O l mi cap L) (hl : l < N) (hm : mi < N) (hx : ∀ x ∈ L, x.1 < N) (hk : ∀ x ∈ L, x.2.1 ≠ k) (hlen : L.length < cap) (hc : cap < 1000000000) (G : T (T AV)) :
    ∃ (a : Ev.Node) (O1 O2 O3 O4 O5 O6 O7 : T AObj), T.set (some (.cells (.node (.node (.node .leaf (some (.int .i64 v)) .leaf) (some .nilp) .leaf) (some .nilp) (.node .leaf (some (.int .i64 k)) .leaf)) 4 49 0 0 1 0 false .leaf)) O N = O1 ∧ Cell O1 N 2 (.int .i64 k) ∧ Cell O1 l 2 (.mp mi) ∧
      mapPutA P ⟨O1, N + 1, G⟩ 44 (.mp mi) (.int .i64 k) (.ptr N 0 0) = some ⟨O2, N + 1, G⟩ ∧ Cell O2 l 1 (.int .i64 ((L.length : Nat) : Int)) ∧ storeCellsA ⟨O2, N + 1, G⟩ l 0 1 [.int .i64 ((L.length + 1 : Nat) : Int)] = some ⟨O3, N + 1, G⟩ ∧ Cell O3 l 4 (pt a) ∧
      storeCellsA ⟨O3, N + 1, G⟩ N 0 0 [pt (l, 3)] = some ⟨O4, N + 1, G⟩ ∧ storeCellsA ⟨O4, N + 1, G⟩ N 0 1 [pt a] = some ⟨O5, N + 1, G⟩ ∧ Cell O5 N 1 (pt a) ∧
      storeCellsA ⟨O5, N + 1, G⟩ a.1 0 a.2 [pt (nd N)] = some ⟨O6, N + 1, G⟩ ∧ storeCellsA ⟨O6, N + 1, G⟩ l 0 4 [pt (nd N)] = some ⟨O7, N + 1, G⟩ ∧
      LR O7 l mi cap ((N, k, v) :: L) ∧ ∀ j, j ≠ N → j ≠ l → j ≠ mi → (∀ y ∈ L, y.1 ≠ j) → O7.get j = O.get j := by
  have hids := h.ids
  obtain ⟨h0, h1, h2, h3, h4, h5, h6, h7, h8, h9⟩ := h
  have hxN : ∀ i ∈ L.map (·.1), i < N := fun i hi => by obtain ⟨y, hy, rfl⟩ := List.mem_map.1 hi; exact hx y hy
  have hNx : N ∉ L.map (·.1) := fun hi => by have := hxN N hi; omega
  obtain ⟨O1, s1, r1, f1⟩ := Row.mk (n := 4) (f := q4 .nilp .nilp (.int .i64 k) (.int .i64 v)) (c := (.node (.node (.node .leaf (some (.int .i64 v)) .leaf) (some .nilp) .leaf) (some .nilp) (.node .leaf (some (.int .i64 k)) .leaf))) (el := 49) O N (fun j hj => by rcases j with _ | _ | _ | _ | j <;> first | rfl | omega)
  have g1 : ∀ j, j ≠ N → O1.get j = O.get j := f1
  obtain ⟨O2, s2, m2, f2⟩ := (h8.same (g1 mi (by omega))).put (N := N + 1) (G := G) hk N v
  have hlm : l ≠ mi := Ne.symm h0
  have c2 : ∀ i j c, i ≠ N → i ≠ mi → Cell O i j c → Cell O2 i j c := fun i j c a b hc => (hc.same (g1 i a)).same (f2 i b)
  have n2 : ∀ j c, Cell O1 N j c → Cell O2 N j c := fun j c hc => hc.same (f2 N (by omega))
  have hl2 := c2 l 1 _ (by omega) hlm h2
  obtain ⟨O3, s3, d3, b3⟩ := hl2.store (v := .int .i64 ((L.length + 1 : Nat) : Int)) rfl (N + 1) G
  have hR2 : Ring O2 l (L.map (·.1)) := ring_same h4 fun i hi => by
    rcases hi with rfl | hi
    · exact (f2 _ hlm).trans (g1 _ (by omega))
    · exact (f2 _ (hids i hi).2).trans (g1 _ (by have := hxN i hi; omega))
  have hR3 : Ring O3 l (L.map (·.1)) := ring_len (c := .nilp) (c' := .nilp) hR2 (fun i hi => (hids i hi).1) b3
  have hNl : N ≠ l := by omega
  have q0 : Cell O3 N 0 .nilp := b3.1 _ _ _ (.inl hNl) (n2 _ _ (r1.cell (by omega)))
  have q1 : Cell O3 N 1 .nilp := b3.1 _ _ _ (.inl hNl) (n2 _ _ (r1.cell (by omega)))
  obtain ⟨a, O4, O5, O6, O7, ha, c3, s4, s5, c4, s6, s7, hR7, b4, b5, b6, b7⟩ := hR3.enter (fun i hi => (hids i hi).1) hNx hNl q0 q1 h6 (N + 1) G
  have ga := gd_of ha fun i hi => (hids i hi).1
  have gp : gd l (nd N) := .inr ⟨N, hNl, rfl⟩
  have stay : ∀ i j c, dat l i j → Cell O3 i j c → Cell O7 i j c := fun i j c hd hc =>
    dat_el (x := (l, 3)) b7 (.inl rfl) hd (dat_nw b6 ga hd (dat_el (x := nd N) b5 gp hd (dat_nw (x := nd N) b4 gp hd hc)))
  have stay0 : ∀ i j c, dat l i j → i ≠ N → i ≠ mi → (i ≠ l ∨ j ≠ 1) → Cell O i j c → Cell O7 i j c := fun i j c hd e1 e2 e3 hc => stay i j c hd (b3.1 _ _ _ e3 (c2 _ _ _ e1 e2 hc))
  have get : ∀ j, j ≠ N → j ≠ l → (∀ y ∈ L, y.1 ≠ j) → O7.get j = O2.get j := fun j hj hjl hy => by
    have hja : j ≠ a.1 := gd_id ha hjl fun i hi => by obtain ⟨y, hm, rfl⟩ := List.mem_map.1 hi; exact hy y hm
    exact (b7.2 j hjl).trans ((b6.2 j hja).trans ((b5.2 j hj).trans ((b4.2 j hj).trans (b3.2 j hjl))))
  refine ⟨a, O1, O2, O3, O4, O5, O6, O7, s1, r1.cell (by omega), h3.same (g1 l (by omega)), s2, hl2, s3, c3, s4, s5, c4, s6, s7, ⟨h0, stay0 _ _ _ (.inl ⟨rfl, by omega⟩) (by omega) hlm (.inr (by omega)) h1, stay _ _ _ (.inl ⟨rfl, by omega⟩) d3, stay0 _ _ _ (.inl ⟨rfl, by omega⟩) (by omega) hlm (.inr (by omega)) h3, hR7, fun y hy => ?_, ?_, ?_, ?_, by show L.length + 1 ≤ cap; omega⟩, fun j e1 e2 e3 e4 => (get j e1 e2 e4).trans ((f2 j e3).trans (g1 j e1))⟩
  · rcases List.mem_cons.1 hy with rfl | hy
    · exact ⟨hNl, by show N ≠ mi; omega, stay _ _ _ (.inr ⟨hNl, by omega⟩) (b3.1 _ _ _ (.inl hNl) (n2 _ _ (r1.cell (by omega)))), stay _ _ _ (.inr ⟨hNl, by omega⟩) (b3.1 _ _ _ (.inl hNl) (n2 _ _ (r1.cell (by omega))))⟩
    · obtain ⟨p1, p2, p3, p4⟩ := h5 y hy
      have := hx y hy
      exact ⟨p1, p2, stay0 _ _ _ (.inr ⟨p1, by omega⟩) (by omega) p2 (.inl p1) p3, stay0 _ _ _ (.inr ⟨p1, by omega⟩) (by omega) p2 (.inl p1) p4⟩
  · rw [List.map_cons, List.nodup_cons]
    exact ⟨hNx, h6⟩
  · rw [List.map_cons, List.nodup_cons]
    refine ⟨fun hm => ?_, h7⟩
    obtain ⟨y, hy, e⟩ := List.mem_map.1 hm
    exact hk y hy e
  · exact m2.same (get mi (by omega) h0 fun y hy => (h5 y hy).2.1)

theorem ring_last {p : Nat} {us : List Nat} (h : Ring O l (us ++ [p])) : Cell O l 3 (pt (nd p)) := by
  unfold Ring at h
  rw [List.map_append, List.append_assoc, ← List.cons_append] at h
  have h' : Lk O (((l, 3) :: us.map nd) ++ nd p :: [(l, 3)]) := h
  rw [Lk.app, Lk.two] at h'
  exact h'.2.1.2

/-- The oldest goes. -/
theorem drop {y : Ent} (h : LR O l mi cap (u ++ [y])) (hc : cap < 1000000000) (N : Nat) (G : T (T AV)) :
    ∃ (e n : Ev.Node) (O1 O2 O3 O4 : T AObj), Cell O l 3 (pt (nd y.1)) ∧ Cell O y.1 2 (.int .i64 y.2.1) ∧ builtinE P ⟨O, N, G⟩ .delete (some 44) (some 3) [.mp mi, .int .i64 y.2.1] = some (.val (.tup []) ⟨O1, N, G⟩) ∧
      Cell O1 l 1 (.int .i64 (((u ++ [y]).length : Nat) : Int)) ∧ storeCellsA ⟨O1, N, G⟩ l 0 1 [.int .i64 ((u.length : Nat) : Int)] = some ⟨O2, N, G⟩ ∧ Cell O2 y.1 1 (pt e) ∧ Cell O2 y.1 0 (pt n) ∧
      storeCellsA ⟨O2, N, G⟩ e.1 0 e.2 [pt n] = some ⟨O3, N, G⟩ ∧ storeCellsA ⟨O3, N, G⟩ n.1 0 (n.2 + 1) [pt e] = some ⟨O4, N, G⟩ ∧ LR O4 l mi cap u ∧ ∀ j, j ≠ l → j ≠ mi → (∀ x ∈ u ++ [y], x.1 ≠ j) → O4.get j = O.get j := by
  have hids := h.ids
  obtain ⟨h0, h1, h2, h3, h4, h5, h6, h7, h8, h9⟩ := h
  have h8' : MapOk O mi (u ++ y :: []) := h8
  have hlm : l ≠ mi := Ne.symm h0
  rw [List.map_append, List.map_cons, List.map_nil] at h4 h6 h7 hids
  obtain ⟨nd1, nd2⟩ := nodup_mid h6
  obtain ⟨nk1, nk2⟩ := nodup_mid h7
  rw [List.append_nil] at nd1 nd2 nk1 nk2
  obtain ⟨O1, s1, m1, f1⟩ := h8'.del (N := N) (G := G) u [] (fun z hz e => nk2 (by rw [List.append_nil] at hz; rw [← e]; exact List.mem_map_of_mem hz)) (fun z hz e => by
    rcases List.mem_append.1 hz with b | b
    · exact absurd (List.mem_map_of_mem b) (fun hh => nd2 (e ▸ hh))
    · exact List.mem_singleton.1 b)
  rw [List.append_nil] at m1
  obtain ⟨y1, y2, y3, y4⟩ := h5 y (by simp)
  have c1 : ∀ i j c, i ≠ mi → Cell O i j c → Cell O1 i j c := fun i j c a hc => hc.same (f1 i a)
  have hl1 := c1 l 1 _ hlm h2
  obtain ⟨O2, s2, d2, b2⟩ := hl1.store (v := .int .i64 ((u.length : Nat) : Int)) rfl N G
  have hR1 : Ring O1 l (u.map (·.1) ++ [y.1]) := ring_same h4 fun i hi => by
    rcases hi with rfl | hi
    · exact f1 _ hlm
    · exact f1 _ (hids i hi).2
  have hR2 : Ring O2 l (u.map (·.1) ++ y.1 :: []) := ring_len (c := .nilp) (c' := .nilp) hR1 (fun i hi => (hids i hi).1) b2
  obtain ⟨e, n, O3, O4, he, hn, k1, k2, s3, s4, hR4, b3, b4⟩ := hR2.leave h6 (fun i hi => (hids i hi).1) N G
  rw [List.append_nil] at hR4
  have hul : ∀ i ∈ u.map (·.1), i ≠ l := fun i hi => (hids i (List.mem_append_left _ hi)).1
  have ge : gd l e := gd_of he fun i hi => absurd hi List.not_mem_nil
  have gn := gd_of hn hul
  have stay : ∀ i j c, dat l i j → Cell O2 i j c → Cell O4 i j c := fun i j c hd hc => dat_el b4 gn hd (dat_nw b3 ge hd hc)
  have stay0 : ∀ i j c, dat l i j → i ≠ mi → (i ≠ l ∨ j ≠ 1) → Cell O i j c → Cell O4 i j c := fun i j c hd e2 e3 hc => stay i j c hd (b2.1 _ _ _ e3 (c1 _ _ _ e2 hc))
  have get : ∀ j, j ≠ l → (∀ x ∈ u ++ [y], x.1 ≠ j) → O4.get j = O1.get j := fun j hjl hx => by
    have hjn : j ≠ n.1 := gd_id hn hjl fun i hi => by obtain ⟨z, hm, rfl⟩ := List.mem_map.1 hi; exact hx z (by simp [hm])
    have hje : j ≠ e.1 := gd_id he hjl fun i hi => absurd hi List.not_mem_nil
    exact (b4.2 j hjn).trans ((b3.2 j hje).trans (b2.2 j hjl))
  refine ⟨e, n, O1, O2, O3, O4, ring_last h4, y3, s1, hl1, s2, k1, k2, s3, s4, ⟨h0, stay0 _ _ _ (.inl ⟨rfl, by omega⟩) hlm (.inr (by omega)) h1, stay _ _ _ (.inl ⟨rfl, by omega⟩) d2, stay0 _ _ _ (.inl ⟨rfl, by omega⟩) hlm (.inr (by omega)) h3, hR4, fun x hx => ?_, nd1, nk1, m1.same (get mi h0 fun x hx => (h5 x hx).2.1), ?_⟩, fun j e1 e2 e3 => (get j e1 e3).trans (f1 j e2)⟩
  · obtain ⟨p1, p2, p3, p4⟩ := h5 x (List.mem_append_left _ hx)
    exact ⟨p1, p2, stay0 _ _ _ (.inr ⟨p1, by omega⟩) p2 (.inl p1) p3, stay0 _ _ _ (.inr ⟨p1, by omega⟩) p2 (.inl p1) p4⟩
  · rw [List.length_append] at h9
    omega

end Go.Proofs.Ytcdpmiebmhjmpaa.lr
