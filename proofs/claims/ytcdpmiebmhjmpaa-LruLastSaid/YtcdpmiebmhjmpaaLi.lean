/- Get, wherever it is called; what is so of all that is kept. -/
import Derived.Test.YtcdpmiebmhjmpaaLg
set_option maxRecDepth 100000
set_option linter.unusedVariables false
namespace Go.Proofs.Ytcdpmiebmhjmpaa.lr
open Go Ev

theorem q_gh (R : AV → AHeap → Prop) (keep : Nat) (f0 : FuncId) (rest : List AFrame) (k : Int) (v : Int) (O : T AObj) (O1 : T AObj) (O2 : T AObj) (O3 : T AObj) (O4 : T AObj) (O5 : T AObj) (O6 : T AObj) (N : Nat) (l : Nat) (p : Nat) (a : Nat) (ao : Nat) (e : Nat) (eo : Nat) (h : Nat) (ho : Nat) (mi : Nat) (G : T (T AV)) (K : AM → Prop) : Obl P f0 (fun v h => R v h) keep K [.run 18, .run 9, .callv [0] (.bool true), .run 9, .hop (.mp mi) O, .run 1, .hop (.ptr p 0 0) O, .run 18, .run 5, .hop (.ptr e 0 eo) O, .run 4, .hop (.ptr h 0 ho) O, .run 4, .hop (.ptr h 0 ho) O, .run 4, .hop (.ptr e 0 eo) O, .run 3, .hop .nilp O1, .run 3, .hop .nilp O2, .run 9, .run 12, .hop (.ptr a 0 ao) O2, .run 3, .hop .nilp O3, .run 3, .hop .nilp O4, .run 6, .hop (.ptr a 0 ao) O4, .run 6, .hop .nilp O5, .run 4, .hop .nilp O6, .run 9, .hop (.int .i64 v) O6, .run 4, .keep [4, 5]] ((AM.mk (enF 8 [.ptr l 0 0, .int .i64 k]) rest ⟨O, N, G⟩)) = ((Goal P (0) 25 (fun x x_1 => x = AV.bool true) (startM P 25 [.int .i64 k] G)) ∧ (loadCellsA (⟨O, N, G⟩) (l) (0) (2) (1) = (some [.mp mi])) ∧ (lookupA P (⟨O, N, G⟩) (44) (.mp mi) (.int .i64 k) (false) = (some (.ptr p 0 0))) ∧ (loadCellsA (⟨O, N, G⟩) (p) (0) (1) (1) = (some [.ptr e 0 eo])) ∧ (loadCellsA (⟨O, N, G⟩) (p) (0) (0) (1) = (some [.ptr h 0 ho])) ∧ (loadCellsA (⟨O, N, G⟩) (p) (0) (0) (1) = (some [.ptr h 0 ho])) ∧ (loadCellsA (⟨O, N, G⟩) (p) (0) (1) (1) = (some [.ptr e 0 eo])) ∧ (storeCellsA (⟨O, N, G⟩) (e) (0) (eo) ([.ptr h 0 ho]) = (some ⟨O1, N, G⟩)) ∧ (storeCellsA (⟨O1, N, G⟩) (h) (0) (ho + 1) ([.ptr e 0 eo]) = (some ⟨O2, N, G⟩)) ∧ (loadCellsA (⟨O2, N, G⟩) (l) (0) (4) (1) = (some [.ptr a 0 ao])) ∧ (storeCellsA (⟨O2, N, G⟩) (p) (0) (0) ([.ptr l 0 3]) = (some ⟨O3, N, G⟩)) ∧ (storeCellsA (⟨O3, N, G⟩) (p) (0) (1) ([.ptr a 0 ao]) = (some ⟨O4, N, G⟩)) ∧ (loadCellsA (⟨O4, N, G⟩) (p) (0) (1) (1) = (some [.ptr a 0 ao])) ∧ (storeCellsA (⟨O4, N, G⟩) (a) (0) (ao) ([.ptr p 0 0]) = (some ⟨O5, N, G⟩)) ∧ (storeCellsA (⟨O5, N, G⟩) (l) (0) (4) ([.ptr p 0 0]) = (some ⟨O6, N, G⟩)) ∧ (loadCellsA (⟨O6, N, G⟩) (p) (0) (3) (1) = (some [.int .i64 v])) ∧ K (AM.mk (RF 8 25 (.node (.node .leaf none (.node .leaf (some (.bool true)) .leaf)) none (.node (.node .leaf (some (.int .i64 v)) .leaf) none .leaf)) [.code (cd P 8 [1, 0, 1, 0, 1])]) rest ⟨O6, N, G⟩)) := by kernel_rfl

theorem q_gm (R : AV → AHeap → Prop) (keep : Nat) (f0 : FuncId) (rest : List AFrame) (k : Int) (O : T AObj) (N : Nat) (l : Nat) (mi : Nat) (G : T (T AV)) (K : AM → Prop) : Obl P f0 (fun v h => R v h) keep K [.run 18, .run 9, .callv [0] (.bool true), .run 9, .hop (.mp mi) O, .run 1, .hop (.nilp) O, .run 20, .keep [4, 5]] ((AM.mk (enF 8 [.ptr l 0 0, .int .i64 k]) rest ⟨O, N, G⟩)) = ((Goal P (0) 25 (fun x x_1 => x = AV.bool true) (startM P 25 [.int .i64 k] G)) ∧ (loadCellsA (⟨O, N, G⟩) (l) (0) (2) (1) = (some [.mp mi])) ∧ (lookupA P (⟨O, N, G⟩) (44) (.mp mi) (.int .i64 k) (false) = (some .nilp)) ∧ K (AM.mk (RF 8 25 (.node (.node .leaf none (.node .leaf (some (.bool false)) .leaf)) none (.node (.node .leaf (some (.int .i64 0)) .leaf) none .leaf)) [.code (cd P 8 [1, 0, 1, 0, 1]), .code (cd P 8 [1, 1, 1, 1])]) rest ⟨O, N, G⟩)) := by kernel_rfl

variable {O O' : T AObj} {N l mi cap : Nat} {G : T (T AV)} {L : List Ent} {k v : Int}

theorem get_ok (h : LR O l mi cap L) {keep : Nat} {f0 : FuncId} {Q : AV → AHeap → Prop} {rest : List AFrame}
    (hM : (∀ x ∈ L, x.2.1 ≠ k) → ∀ td, Goal P keep f0 Q (AM.mk (RF 8 25 (.node (.node .leaf none (.node .leaf (some (.bool false)) .leaf)) none (.node (.node .leaf (some (.int .i64 0)) .leaf) none .leaf)) td) rest ⟨O, N, G⟩))
    (hH : ∀ (p : Ent) (u w : List Ent) (O' : T AObj) (td : List AItem), L = u ++ p :: w → p.2.1 = k → LR O' l mi cap (p :: (u ++ w)) → (∀ j, j ≠ l → (∀ y ∈ L, y.1 ≠ j) → O'.get j = O.get j) → Goal P keep f0 Q (AM.mk (RF 8 25 (.node (.node .leaf none (.node .leaf (some (.bool true)) .leaf)) none (.node (.node .leaf (some (.int .i64 p.2.2)) .leaf) none .leaf)) td) rest ⟨O', N, G⟩)) :
    Goal P keep f0 Q (AM.mk (enF 8 [.ptr l 0 0, .int .i64 k]) rest ⟨O, N, G⟩) := by
  have h' := h
  obtain ⟨h0, h1, h2, h3, h4, h5, h6, h7, h8, h9⟩ := h
  by_cases hin : ∃ x ∈ L, x.2.1 = k
  · obtain ⟨p, hp, hpk⟩ := hin
    obtain ⟨u, w, rfl⟩ := split_of hp
    have hlook := h8.hit (N := N) (G := G) hp hpk fun y hy e => inj_of h7 p hp y hy e
    have b0 : But O O p.1 3 := ⟨fun _ _ _ _ h => h, fun _ _ => rfl⟩
    obtain ⟨e, n, a, O2, O3, O4, O5, O6, O7, c1, c2, s1, s2, c3, s3, s4, c4, s5, s6, hLR, hget⟩ := move h' O b0 (h5 p hp).2.2.2 N G
    have hv := (hLR.2.2.2.2.2.1 _ List.mem_cons_self).2.2.2
    exact (Obl.goal mix (K := Goal P keep f0 Q) (fun _ h => h) (cast (q_gh Q keep f0 rest k (p.2.2) O O2 O3 O4 O5 O6 O7 N l (p.1) (a.1) (a.2) (e.1) (e.2) (n.1) (n.2) mi G ((Goal P keep f0 Q))).symm ⟨cbf_ok, h3.load _ _, hlook, c1.load _ _, c2.load _ _, c2.load _ _, c1.load _ _, s1, s2, c3.load _ _, s3, s4, c4.load _ _, s5, s6, hv.load _ _, hH p u w O7 _ rfl hpk hLR (fun j e1 e3 => hget j e1 e3)⟩))
  · have hk : ∀ x ∈ L, x.2.1 ≠ k := fun x hx e => hin ⟨x, hx, e⟩
    exact (Obl.goal mix (K := Goal P keep f0 Q) (fun _ h => h) (cast (q_gm Q keep f0 rest k O N l mi G ((Goal P keep f0 Q))).symm ⟨cbf_ok, h3.load _ _, (h8.miss (N := N) (G := G) hk).1, hM hk _⟩))

/-! ## What is kept, and what was done -/

/-- What is looked for becomes the first. -/
def getP (k : Int) (ps : List (Int × Int)) : List (Int × Int) := ps.filter (fun q => q.1 == k) ++ ps.filter (fun q => !(q.1 == k))

theorem filt_eq {k : Int} {l : List (Int × Int)} (h : ∀ x ∈ l, x.1 ≠ k) : l.filter (fun q => q.1 == k) = [] := List.filter_eq_nil_iff.2 fun x hx => by
  have := beq_eq_false_iff_ne.2 (h x hx)
  simp only [this]
  simp

theorem getP_miss {ps : List (Int × Int)} (h : ∀ x ∈ ps, x.1 ≠ k) : getP k ps = ps := by
  unfold getP
  rw [filt_eq h, filt_none h, List.nil_append]

theorem getP_hit {us ws : List (Int × Int)} {q : Int × Int} (hq : q.1 = k) (hn : ((us ++ q :: ws).map (·.1)).Nodup) : getP k (us ++ q :: ws) = q :: (us ++ ws) := by
  rw [List.map_append, List.map_cons] at hn
  obtain ⟨m1, m2⟩ := nodup_mid hn
  rw [← List.map_append] at m2
  have hu : ∀ x ∈ us ++ ws, x.1 ≠ k := fun x hx e => m2 (by rw [hq, ← e]; exact List.mem_map_of_mem hx)
  unfold getP
  rw [filt_mid hq hu, List.filter_append, List.filter_cons, filt_eq fun x hx => hu x (List.mem_append_left _ hx), filt_eq fun x hx => hu x (List.mem_append_right _ hx)]
  have : (q.1 == k) = true := by rw [hq, beq_self_eq_true]
  simp [this]

abbrev Act := Bool × Int × Int
variable {act : Nat → Act} {n i : Nat} {ps : List (Int × Int)}

/-- A key is put by one act. -/
abbrev puts (act : Nat → Act) (m : Nat) (k : Int) : Prop := (act m).1 = false ∧ (act m).2.1 = k
/-- Whatever is kept was put last under its key. -/
def I1 (act : Nat → Act) (i : Nat) (ps : List (Int × Int)) : Prop := ∀ q ∈ ps, ∃ p, p < i ∧ act p = (false, q.1, q.2) ∧ ∀ m, p < m → m < i → ¬ puts act m q.1
/-- Whatever was put is kept, and what is ahead of it was used since; or as many others were used since as there is room for. -/
def I2 (act : Nat → Act) (n i : Nat) (ps : List (Int × Int)) : Prop := ∀ p, p < i → (act p).1 = false → (∀ m, p < m → m < i → ¬ puts act m (act p).2.1) →
  (∃ U v W, ps = U ++ ((act p).2.1, v) :: W ∧ ∀ u ∈ U, ∃ m, p < m ∧ m < i ∧ (act m).2.1 = u.1) ∨ ∃ D : List Int, D.Nodup ∧ n ≤ D.length ∧ ∀ d ∈ D, d ≠ (act p).2.1 ∧ ∃ m, p < m ∧ m < i ∧ (act m).2.1 = d

theorem I1.put (h : I1 act i ps) (ha : act i = (false, k, v)) (hl : ps.length ≤ n) : I1 act (i + 1) (putP n k v ps) := by
  intro q hq
  unfold putP at hq
  have old : q ∈ ps → q.1 ≠ k → ∃ p, p < i + 1 ∧ act p = (false, q.1, q.2) ∧ ∀ m, p < m → m < i + 1 → ¬ puts act m q.1 := fun hm hk => by
    obtain ⟨p, h1, h2, h3⟩ := h q hm
    refine ⟨p, by omega, h2, fun m m1 m2 hp => ?_⟩
    by_cases hmi : m = i
    · subst hmi
      rw [puts, ha] at hp
      exact hk hp.2.symm
    · exact h3 m m1 (by omega) hp
  by_cases hz : n = 0
  · rw [if_pos hz] at hq
    have : ps = [] := List.eq_nil_of_length_eq_zero (by omega)
    rw [this] at hq
    exact absurd hq List.not_mem_nil
  rw [if_neg hz] at hq
  rcases List.mem_cons.1 hq with rfl | hq
  · exact ⟨i, by omega, ha, fun m m1 m2 => by omega⟩
  · have hq := List.mem_filter.1 (List.mem_of_mem_take hq)
    refine old hq.1 fun e => ?_
    have := hq.2
    rw [e, beq_self_eq_true] at this
    cases this

theorem I1.get (h : I1 act i ps) (ha : (act i).1 = true) : I1 act (i + 1) (getP k ps) := by
  intro q hq
  have hm : q ∈ ps := by
    rcases List.mem_append.1 hq with a | a
    · exact (List.mem_filter.1 a).1
    · exact (List.mem_filter.1 a).1
  obtain ⟨p, h1, h2, h3⟩ := h q hm
  refine ⟨p, by omega, h2, fun m m1 m2 hp => ?_⟩
  by_cases hmi : m = i
  · subst hmi
    rw [puts, ha] at hp
    cases hp.1
  · exact h3 m m1 (by omega) hp

theorem ahead {U W : List (Int × Int)} {K v : Int} (hn : ((U ++ (K, v) :: W).map (·.1)).Nodup) : (U.map (·.1)).Nodup ∧ (∀ u ∈ U, u.1 ≠ K) ∧ ∀ u ∈ W, u.1 ≠ K := by
  rw [List.map_append, List.map_cons] at hn
  obtain ⟨m1, m2⟩ := nodup_mid hn
  exact ⟨(List.nodup_append.1 m1).1, fun u hu e => m2 (List.mem_append_left _ (List.mem_map.2 ⟨u, hu, e⟩)), fun u hu e => m2 (List.mem_append_right _ (List.mem_map.2 ⟨u, hu, e⟩))⟩

theorem I2.put (h : I2 act n i ps) (ha : act i = (false, k, v)) (hl : ps.length ≤ n) (hn : (ps.map (·.1)).Nodup) : I2 act n (i + 1) (putP n k v ps) := by
  intro p hp hput hlast
  by_cases hz : n = 0
  · exact .inr ⟨[], List.nodup_nil, by omega, fun d hd => absurd hd List.not_mem_nil⟩
  unfold putP
  rw [if_neg hz]
  by_cases hpi : p = i
  · subst hpi
    refine .inl ⟨[], v, _, by rw [ha]; rfl, fun u hu => absurd hu List.not_mem_nil⟩
  have hk : k ≠ (act p).2.1 := fun e => hlast i (by omega) (by omega) ⟨by rw [ha], by rw [ha]; exact e⟩
  rcases h p (by omega) hput (fun m m1 m2 => hlast m m1 (by omega)) with ⟨U, v0, W, rfl, hU⟩ | ⟨D, d1, d2, d3⟩
  rotate_left
  · exact .inr ⟨D, d1, d2, fun d hd => ⟨(d3 d hd).1, by obtain ⟨m, m1, m2, m3⟩ := (d3 d hd).2; exact ⟨m, m1, by omega, m3⟩⟩⟩
  obtain ⟨a1, a2, a3⟩ := ahead hn
  have hkb : (!((act p).2.1 == k)) = true := by rw [beq_eq_false_iff_ne.2 (Ne.symm hk)]; rfl
  rw [List.filter_append, List.filter_cons, if_pos hkb]
  by_cases hlen : (U.filter fun q => !(q.1 == k)).length < n - 1
  · refine .inl ⟨(k, v) :: U.filter fun q => !(q.1 == k), v0, ((W.filter fun q => !(q.1 == k)).take (n - 1 - (U.filter fun q => !(q.1 == k)).length - 1)), ?_, fun u hu => ?_⟩
    · rw [List.take_append, List.take_of_length_le (by omega), List.cons_append]
      congr 2
      obtain ⟨t, ht⟩ : ∃ t, n - 1 - (U.filter fun q => !(q.1 == k)).length = t + 1 := ⟨n - 1 - (U.filter fun q => !(q.1 == k)).length - 1, by omega⟩
      rw [ht, List.take_succ_cons, Nat.add_sub_cancel]
    · rcases List.mem_cons.1 hu with rfl | hu
      · exact ⟨i, by omega, by omega, by rw [ha]⟩
      · obtain ⟨m, m1, m2, m3⟩ := hU u (List.mem_filter.1 hu).1
        exact ⟨m, m1, by omega, m3⟩
  · refine .inr ⟨k :: (U.filter fun q => !(q.1 == k)).map (·.1), ?_, by rw [List.length_cons, List.length_map]; omega, fun d hd => ?_⟩
    · rw [List.nodup_cons]
      refine ⟨fun hm => ?_, List.Nodup.sublist (List.Sublist.map _ List.filter_sublist) a1⟩
      obtain ⟨u, hu, e⟩ := List.mem_map.1 hm
      have := (List.mem_filter.1 hu).2
      rw [e, beq_self_eq_true] at this
      cases this
    · rcases List.mem_cons.1 hd with rfl | hd
      · exact ⟨hk, i, by omega, by omega, by rw [ha]⟩
      · obtain ⟨u, hu, rfl⟩ := List.mem_map.1 hd
        have hu := (List.mem_filter.1 hu).1
        obtain ⟨m, m1, m2, m3⟩ := hU u hu
        exact ⟨a2 u hu, m, m1, by omega, m3⟩

theorem I2.get (h : I2 act n i ps) (ha : (act i).1 = true) (hk : (act i).2.1 = k) (hn : (ps.map (·.1)).Nodup) : I2 act n (i + 1) (getP k ps) := by
  intro p hp hput hlast
  have hpi : p ≠ i := fun e => by rw [e, ha] at hput; cases hput
  rcases h p (by omega) hput (fun m m1 m2 => hlast m m1 (by omega)) with ⟨U, v0, W, rfl, hU⟩ | ⟨D, d1, d2, d3⟩
  rotate_left
  · exact .inr ⟨D, d1, d2, fun d hd => ⟨(d3 d hd).1, by obtain ⟨m, m1, m2, m3⟩ := (d3 d hd).2; exact ⟨m, m1, by omega, m3⟩⟩⟩
  obtain ⟨a1, a2, a3⟩ := ahead hn
  by_cases hkK : (act p).2.1 = k
  · rw [getP_hit (q := ((act p).2.1, v0)) hkK hn]
    exact .inl ⟨[], v0, U ++ W, rfl, fun u hu => absurd hu List.not_mem_nil⟩
  · have hkb : (!((act p).2.1 == k)) = true := by rw [beq_eq_false_iff_ne.2 hkK]; rfl
    refine .inl ⟨(U ++ ((act p).2.1, v0) :: W).filter (fun q => q.1 == k) ++ U.filter (fun q => !(q.1 == k)), v0, W.filter (fun q => !(q.1 == k)), ?_, fun u hu => ?_⟩
    · unfold getP
      have e : (U ++ ((act p).2.1, v0) :: W).filter (fun q : Int × Int => !(q.1 == k)) = U.filter (fun q => !(q.1 == k)) ++ ((act p).2.1, v0) :: W.filter (fun q => !(q.1 == k)) := by rw [List.filter_append, List.filter_cons, if_pos hkb]
      rw [e, List.append_assoc]
    · rcases List.mem_append.1 hu with b | b
      · have := eq_of_beq (List.mem_filter.1 b).2
        exact ⟨i, by omega, by omega, by rw [hk, this]⟩
      · obtain ⟨m, m1, m2, m3⟩ := hU u (List.mem_filter.1 b).1
        exact ⟨m, m1, by omega, m3⟩

/-- Those that are told apart are no more than those among which they are. -/
theorem nodup_le : ∀ (D zs : List Int), D.Nodup → (∀ d ∈ D, d ∈ zs) → D.length ≤ zs.length
  | [], zs, _, _ => Nat.zero_le _
  | d :: D, zs, hn, h => by
    rw [List.nodup_cons] at hn
    have hd := h d List.mem_cons_self
    have := nodup_le D (zs.erase d) hn.2 fun x hx => (List.mem_erase_of_ne (fun e => hn.1 (by rw [← e]; exact hx))).2 (h x (List.mem_cons_of_mem _ hx))
    rw [List.length_erase_of_mem hd] at this
    have hpos : 0 < zs.length := List.length_pos_of_mem hd
    rw [List.length_cons]
    omega

end Go.Proofs.Ytcdpmiebmhjmpaa.lr
