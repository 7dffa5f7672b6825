/- A map from numbers to variables, and what is kept, on a heap of which nothing else is told. -/
import Derived.Test.YtcdpmiebmhjmpaaLa
import Derived.Test.YtcdpmiebmhjmpaaProg
set_option maxRecDepth 100000
set_option linter.unusedVariables false
namespace Go.Proofs.Ytcdpmiebmhjmpaa.lr
open Go Ev
noncomputable abbrev P : Program := Try.prog

/-- A pair that is kept: its variable, key and value. -/
abbrev Ent := Nat × Int × Int

def kAV (k : Int) : AV := .int .i64 k

def MapOk (O : T AObj) (mi : Nat) (L : List Ent) : Prop := ∃ es clock, O.get mi = some (.map es clock) ∧ (∀ e ∈ es, ∃ x ∈ L, e.key = kAV x.2.1 ∧ e.val = .ptr x.1 0 0) ∧
  (∀ x ∈ L, ∃ e ∈ es, e.key = kAV x.2.1) ∧ es.Pairwise fun a b => a.key ≠ b.key

theorem map_44 : mapOf P 44 = some (3, 45) := by kernel_rfl
theorem zero_45 : zeroA P 45 = some .nilp := by kernel_rfl
theorem key_ok (k : Int) : keyOk P 9 3 (.int .i64 k) = true := by kernel_rfl
theorem eq_int (h : AHeap) (a b : Int) : eqA P h 9 3 (.int .i64 a) (.int .i64 b) = some (a == b) := by kernel_rfl

theorem find_int {h : AHeap} {k : Int} : ∀ {es : List AEntry} {i : Nat}, (∀ e ∈ es, ∃ a, e.key = kAV a) →
    (∃ j e, es[j]? = some e ∧ e.key = kAV k ∧ findA (eqA P h 9 3) (.int .i64 k) es i = some (some (i + j, e))) ∨ ((∀ e ∈ es, e.key ≠ kAV k) ∧ findA (eqA P h 9 3) (.int .i64 k) es i = some none)
  | [], i, _ => .inr ⟨fun e he => absurd he List.not_mem_nil, rfl⟩
  | e :: r, i, hk => by
    obtain ⟨a, ha⟩ := hk e (by simp)
    have hb : eqA P h 9 3 (.int .i64 k) e.key = some (k == a) := by rw [ha]; exact eq_int h k a
    unfold findA
    rw [hb]
    by_cases hka : k = a
    · subst hka
      refine .inl ⟨0, e, rfl, ha, ?_⟩
      simp only [beq_self_eq_true]
      rfl
    · have hf : (k == a) = false := by rw [beq_eq_false_iff_ne]; exact hka
      simp only [hf]
      rcases find_int (h := h) (k := k) (es := r) (i := i + 1) (fun e he => hk e (List.mem_cons_of_mem _ he)) with ⟨j, e', h1, h2, h3⟩ | ⟨h1, h2⟩
      · refine .inl ⟨j + 1, e', by simpa using h1, h2, ?_⟩
        rw [h3, show i + 1 + j = i + (j + 1) by omega]
      · refine .inr ⟨fun e' he => ?_, h2⟩
        rcases List.mem_cons.1 he with rfl | he
        · rw [ha]
          intro h
          exact hka (by cases h; rfl)
        · exact h1 e' he

variable {O O' : T AObj} {N mi : Nat} {G : T (T AV)} {L : List Ent} {k : Int}

theorem MapOk.same (h : MapOk O mi L) (e : O'.get mi = O.get mi) : MapOk O' mi L := by
  obtain ⟨es, clock, h1, h2⟩ := h
  exact ⟨es, clock, e.trans h1, h2⟩

theorem MapOk.keys (h : MapOk O mi L) : ∀ (es : List AEntry) (clock : Nat), O.get mi = some (.map es clock) → ∀ e ∈ es, ∃ a, e.key = kAV a := by
  obtain ⟨es, clock, h1, h2, h3, h4⟩ := h
  intro es' clock' h' e he
  rw [h1] at h'
  cases h'
  obtain ⟨x, _, hx, _⟩ := h2 e he
  exact ⟨_, hx⟩

theorem find_in {es : List AEntry} {clock : Nat} (h1 : O.get mi = some (.map es clock)) : findIn P ⟨O, N, G⟩ 3 (.int .i64 k) (.mp mi) = findA (eqA P ⟨O, N, G⟩ 9 3) (.int .i64 k) es 0 := by
  unfold findIn
  rw [if_pos (key_ok k)]
  have : entriesOf ⟨O, N, G⟩ (.mp mi) = some es := by
    unfold entriesOf
    show (match O.get mi with | some (.map es _) => some es | _ => none) = _
    rw [h1]
  rw [this]

theorem kAV_inj {a b : Int} (h : kAV a = kAV b) : a = b := by cases h; rfl

theorem MapOk.hit (h : MapOk O mi L) {x : Ent} (hx : x ∈ L) (hk : x.2.1 = k) (hd : ∀ y ∈ L, y.2.1 = x.2.1 → y = x) : lookupA P ⟨O, N, G⟩ 44 (.mp mi) (.int .i64 k) false = some (.ptr x.1 0 0) := by
  have hkeys := h.keys
  obtain ⟨es, clock, h1, h2, h3, h4⟩ := h
  unfold lookupA
  rw [map_44]
  simp only [find_in h1]
  rcases find_int (h := ⟨O, N, G⟩) (k := k) (es := es) (i := 0) (hkeys _ _ h1) with ⟨j, e, q1, q2, q3⟩ | ⟨q1, _⟩
  · rw [q3]
    obtain ⟨y, hy, y1, y2⟩ := h2 e (List.mem_of_getElem? q1)
    have : y = x := hd y hy (by rw [hk]; exact kAV_inj (y1.symm.trans q2))
    subst this
    simp only [y2]
    rfl
  · obtain ⟨e, he, hek⟩ := h3 x hx
    exact absurd (hek.trans (by rw [hk])) (q1 e he)

theorem MapOk.miss (h : MapOk O mi L) (hk : ∀ x ∈ L, x.2.1 ≠ k) : lookupA P ⟨O, N, G⟩ 44 (.mp mi) (.int .i64 k) false = some .nilp ∧
    findIn P ⟨O, N, G⟩ 3 (.int .i64 k) (.mp mi) = some none := by
  have hkeys := h.keys
  obtain ⟨es, clock, h1, h2, h3, h4⟩ := h
  have hn : findIn P ⟨O, N, G⟩ 3 (.int .i64 k) (.mp mi) = some none := by
    rw [find_in h1]
    rcases find_int (h := ⟨O, N, G⟩) (k := k) (es := es) (i := 0) (hkeys _ _ h1) with ⟨j, e, q1, q2, q3⟩ | ⟨_, q2⟩
    · obtain ⟨y, hy, y1, y2⟩ := h2 e (List.mem_of_getElem? q1)
      exact absurd (kAV_inj (y1.symm.trans q2)) (hk y hy)
    · exact q2
  refine ⟨?_, hn⟩
  unfold lookupA
  rw [map_44]
  simp only [hn, zero_45]
  rfl

theorem MapOk.put (h : MapOk O mi L) (hk : ∀ x ∈ L, x.2.1 ≠ k) (p : Nat) (v : Int) : ∃ O', mapPutA P ⟨O, N, G⟩ 44 (.mp mi) (.int .i64 k) (.ptr p 0 0) = some ⟨O', N, G⟩ ∧ MapOk O' mi ((p, k, v) :: L) ∧ Frm O O' mi := by
  have hn := (h.miss (N := N) (G := G) hk).2
  obtain ⟨es, clock, h1, h2, h3, h4⟩ := h
  refine ⟨O.set (some (.map (es ++ [{ key := .int .i64 k, val := .ptr p 0 0, born := clock }]) (clock + 1))) mi, ?_, ⟨_, _, by rw [T.get_set, if_pos rfl], fun e he => ?_, fun x hx => ?_, ?_⟩, fun j hj => by rw [T.get_set, if_neg hj]⟩
  · unfold mapPutA
    rw [map_44]
    simp only [hn]
    unfold putEntry
    show (match O.get mi with | some (.map es clock) => _ | _ => _) = _
    rw [h1]
    rfl
  · rcases List.mem_append.1 he with a | a
    · obtain ⟨x, hx, e1, e2⟩ := h2 e a
      exact ⟨x, List.mem_cons_of_mem _ hx, e1, e2⟩
    · obtain rfl := List.mem_singleton.1 a
      exact ⟨_, List.mem_cons_self, rfl, rfl⟩
  · rcases List.mem_cons.1 hx with rfl | hx
    · exact ⟨_, List.mem_append_right _ (List.mem_singleton_self _), rfl⟩
    · obtain ⟨e, he, hek⟩ := h3 x hx
      exact ⟨e, List.mem_append_left _ he, hek⟩
  · rw [List.pairwise_append]
    refine ⟨h4, by simp, fun a ha b hb => ?_⟩
    obtain rfl := List.mem_singleton.1 hb
    obtain ⟨x, hx, e1, _⟩ := h2 a ha
    rw [e1]
    exact fun h => hk x hx (kAV_inj h)

theorem MapOk.del (u w : List Ent) {x : Ent} (h : MapOk O mi (u ++ x :: w)) (hd : ∀ y ∈ u ++ w, y.2.1 ≠ x.2.1) (hp : ∀ y ∈ u ++ x :: w, y.1 = x.1 → y = x) : ∃ O', builtinE P ⟨O, N, G⟩ .delete (some 44) (some 3) [.mp mi, .int .i64 x.2.1] = some (.val (.tup []) ⟨O', N, G⟩) ∧ MapOk O' mi (u ++ w) ∧ Frm O O' mi := by
  have hkeys := h.keys
  obtain ⟨es, clock, h1, h2, h3, h4⟩ := h
  rcases find_int (h := ⟨O, N, G⟩) (k := x.2.1) (es := es) (i := 0) (hkeys _ _ h1) with ⟨j, e, q1, q2, q3⟩ | ⟨q1, _⟩
  rotate_left
  · obtain ⟨e, he, hek⟩ := h3 x (by simp)
    exact absurd hek (q1 e he)
  have hj : j < es.length := (List.getElem?_eq_some_iff.1 q1).1
  have hsplit : es = es.take j ++ e :: es.drop (j + 1) := by
    have : es.drop j = e :: es.drop (j + 1) := by
      rw [List.drop_eq_getElem_cons hj]
      rw [(List.getElem?_eq_some_iff.1 q1).2]
    rw [← this, List.take_append_drop]
  have hmem : ∀ a, a ∈ es.take j ++ es.drop (j + 1) → a ∈ es ∧ a.key ≠ e.key := by
    intro a ha
    rw [hsplit, List.pairwise_append, List.pairwise_cons] at h4
    rcases List.mem_append.1 ha with b | b
    · exact ⟨List.mem_of_mem_take b, h4.2.2 a b e (by simp)⟩
    · exact ⟨List.mem_of_mem_drop b, Ne.symm (h4.2.1.1 a b)⟩
  refine ⟨O.set (some (.map (es.take j ++ es.drop (j + 1)) clock)) mi, ?_, ⟨_, _, by rw [T.get_set, if_pos rfl], fun a ha => ?_, fun y hy => ?_, ?_⟩, fun j hj => by rw [T.get_set, if_neg hj]⟩
  · show deleteE P ⟨O, N, G⟩ 44 [.mp mi, .int .i64 x.2.1] = _
    unfold deleteE
    show unitH (deleteA P ⟨O, N, G⟩ 44 (.mp mi) (.int .i64 x.2.1)) = _
    unfold deleteA
    rw [map_44]
    simp only [find_in h1, q3]
    unfold dropEntry
    show unitH (match O.get mi with | some (.map es clock) => _ | _ => _) = _
    rw [h1]
    simp only [Nat.zero_add]
    rfl
  · obtain ⟨m1, m2⟩ := hmem a ha
    obtain ⟨y, hy, e1, e2⟩ := h2 a m1
    refine ⟨y, ?_, e1, e2⟩
    rcases List.mem_append.1 hy with b | b
    · exact List.mem_append_left _ b
    · rcases List.mem_cons.1 b with rfl | b
      · exact absurd (e1.trans q2.symm) m2
      · exact List.mem_append_right _ b
  · have hy' : y ∈ u ++ x :: w := by
      rcases List.mem_append.1 hy with b | b
      · exact List.mem_append_left _ b
      · exact List.mem_append_right _ (List.mem_cons_of_mem _ b)
    obtain ⟨a, ha, hak⟩ := h3 y hy'
    refine ⟨a, ?_, hak⟩
    rw [hsplit] at ha
    rcases List.mem_append.1 ha with b | b
    · exact List.mem_append_left _ b
    · rcases List.mem_cons.1 b with rfl | b
      · exact absurd (kAV_inj (hak.symm.trans q2)) (hd y hy)
      · exact List.mem_append_right _ b
  · rw [hsplit, List.pairwise_append, List.pairwise_cons] at h4
    rw [List.pairwise_append]
    exact ⟨h4.1, h4.2.1.2, fun a ha b hb => h4.2.2 a ha b (List.mem_cons_of_mem _ hb)⟩

end Go.Proofs.Ytcdpmiebmhjmpaa.lr
