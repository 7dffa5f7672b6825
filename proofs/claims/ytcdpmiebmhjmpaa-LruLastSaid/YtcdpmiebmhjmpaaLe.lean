/- What Put does, wherever it is called. -/
import Derived.Test.YtcdpmiebmhjmpaaLd
set_option maxRecDepth 100000
set_option linter.unusedVariables false
namespace Go.Proofs.Ytcdpmiebmhjmpaa.lr
open Go Ev

/-- A pair is put among pairs. -/
def putP (cap : Nat) (k v : Int) (ps : List (Int × Int)) : List (Int × Int) := if cap = 0 then ps else (k, v) :: (ps.filter fun q => !(q.1 == k)).take (cap - 1)

theorem filt_mid {k : Int} {us ws : List (Int × Int)} {q : Int × Int} (hq : q.1 = k) (hu : ∀ x ∈ us ++ ws, x.1 ≠ k) : (us ++ q :: ws).filter (fun q => !(q.1 == k)) = us ++ ws := by
  have h1 : ∀ l : List (Int × Int), (∀ x ∈ l, x.1 ≠ k) → l.filter (fun q => !(q.1 == k)) = l := fun l h => List.filter_eq_self.2 fun x hx => by
    have := beq_eq_false_iff_ne.2 (h x hx)
    simp only [this, Bool.not_false]
  rw [List.filter_append, List.filter_cons, h1 us fun x hx => hu x (List.mem_append_left _ hx), h1 ws fun x hx => hu x (List.mem_append_right _ hx)]
  have : (q.1 == k) = true := by rw [hq, beq_self_eq_true]
  simp [this]

theorem filt_none {k : Int} {l : List (Int × Int)} (h : ∀ x ∈ l, x.1 ≠ k) : l.filter (fun q => !(q.1 == k)) = l := List.filter_eq_self.2 fun x hx => by
  have := beq_eq_false_iff_ne.2 (h x hx)
  simp only [this, Bool.not_false]

variable {O : T AObj} {N l mi cap : Nat} {G : T (T AV)} {L : List Ent} {k v : Int}

theorem split_of {x : Ent} : ∀ {L : List Ent}, x ∈ L → ∃ u w, L = u ++ x :: w
  | [], h => absurd h List.not_mem_nil
  | a :: r, h => by
    rcases List.mem_cons.1 h with rfl | h
    · exact ⟨[], r, rfl⟩
    · obtain ⟨u, w, e⟩ := split_of h
      exact ⟨a :: u, w, by rw [e]; rfl⟩

theorem put_ok (h : LR O l mi cap L) (hl : l < N) (hm : mi < N) (hx : ∀ x ∈ L, x.1 < N) (hc : cap < 1000000000) {keep : Nat} {f0 : FuncId} {Q : AV → AHeap → Prop} {rest : List AFrame}
    (hK : ∀ (O' : T AObj) (N' : Nat) (L' : List Ent) (td : List AItem), LR O' l mi cap L' → N ≤ N' → (∀ x ∈ L', x.1 < N' ∧ (x.1 = N ∨ ∃ y ∈ L, y.1 = x.1)) → L'.map (·.2) = putP cap k v (L.map (·.2)) → (∀ j, j < N → j ≠ l → j ≠ mi → (∀ y ∈ L, y.1 ≠ j) → O'.get j = O.get j) → Goal P keep f0 Q (AM.mk (RF 10 53 .leaf td) rest ⟨O', N', G⟩)) :
    Goal P keep f0 Q (AM.mk (enF 10 [.ptr l 0 0, .int .i64 k, .int .i64 v]) rest ⟨O, N, G⟩) := by
  have h' := h
  obtain ⟨h0, h1, h2, h3, h4, h5, h6, h7, h8, h9⟩ := h
  by_cases hz : cap = 0
  · subst hz
    have hL : L = [] := List.eq_nil_of_length_eq_zero (by omega)
    subst hL
    exact (Obl.goal mix (K := Goal P keep f0 Q) (fun _ h => h) (cast (q_pz Q keep f0 rest k v (((0 : Nat) : Int)) O N l G ((Goal P keep f0 Q))).symm ⟨h1.load _ _, rfl, hK O N [] _ h' (Nat.le_refl _) (fun x hx => absurd hx List.not_mem_nil) rfl (fun j _ _ _ _ => rfl)⟩))
  have hcz : (((cap : Nat) : Int) == (0 : Int)) = false := by rw [beq_eq_false_iff_ne]; omega
  by_cases hin : ∃ x ∈ L, x.2.1 = k
  · obtain ⟨p, hp, hpk⟩ := hin
    obtain ⟨u, w, rfl⟩ := split_of hp
    have hpl := (h5 p hp).1
    obtain ⟨O1, s0, d0, b0⟩ := (h5 p hp).2.2.2.store (v := .int .i64 v) rfl N G
    obtain ⟨e, n, a, O2, O3, O4, O5, O6, O7, c1, c2, s1, s2, c3, s3, s4, c4, s5, s6, hLR, hget⟩ := move h' O1 b0 d0 N G
    have hlook := h8.hit (N := N) (G := G) hp hpk fun y hy e => inj_of h7 p hp y hy e
    rw [List.map_append, List.map_cons] at h7
    obtain ⟨m1, m2⟩ := nodup_mid h7
    refine (Obl.goal mix (K := Goal P keep f0 Q) (fun _ h => h) (cast (q_ph Q keep f0 rest k v (((cap : Nat) : Int)) O O1 O2 O3 O4 O5 O6 O7 N l (p.1) (a.1) (a.2) (e.1) (e.2) (n.1) (n.2) mi G ((Goal P keep f0 Q))).symm ⟨h1.load _ _, hcz, cbf_ok, h3.load _ _, hlook, s0, c1.load _ _, c2.load _ _, c2.load _ _, c1.load _ _, s1, s2, c3.load _ _, s3, s4, c4.load _ _, s5, s6, hK O7 N _ _ hLR (Nat.le_refl _) (fun x hx' => ?_) ?_ (fun j _ e1 _ e3 => hget j e1 e3)⟩))
    · have : ∃ y ∈ u ++ p :: w, y.1 = x.1 := by
        rcases List.mem_cons.1 hx' with rfl | hx'
        · exact ⟨p, hp, rfl⟩
        · refine ⟨x, ?_, rfl⟩
          rcases List.mem_append.1 hx' with b | b
          · exact List.mem_append_left _ b
          · exact List.mem_append_right _ (List.mem_cons_of_mem _ b)
      obtain ⟨y, hy, e⟩ := this
      exact ⟨by have := hx y hy; omega, .inr ⟨y, hy, e⟩⟩
    · unfold putP
      rw [if_neg hz, List.map_cons, List.map_append, List.map_append, List.map_cons, filt_mid hpk ?_]
      · rw [List.take_of_length_le, hpk]
        simp only [List.length_append, List.length_cons, List.length_map] at h9 ⊢
        omega
      · intro q hq
        rw [← List.map_append] at hq
        obtain ⟨z, hz, rfl⟩ := List.mem_map.1 hq
        intro hzk
        rw [← List.map_append] at m2
        exact m2 (by rw [← hpk] at hzk; exact hzk ▸ List.mem_map_of_mem (f := fun x : Ent => x.2.1) hz)
  · have hk : ∀ x ∈ L, x.2.1 ≠ k := fun x hx e => hin ⟨x, hx, e⟩
    have hlook := (h8.miss (N := N) (G := G) hk).1
    have hkq : ∀ q ∈ L.map (·.2), q.1 ≠ k := fun q hq => by obtain ⟨z, hz, rfl⟩ := List.mem_map.1 hq; exact hk z hz
    by_cases hful : L.length < cap
    · obtain ⟨a, O1, O2, O3, O4, O5, O6, O7, s1, c1, c2, s2, c3, s3, c4, s4, s5, c5, s6, s7, hLR, hget⟩ := add (v := v) h' hl hm hx hk hful hc G
      have wk : IntKind.i64.wrap (((L.length : Nat) : Int) + (1 : Int)) = ((L.length + 1 : Nat) : Int) := by rw [IntKind.wrap_i64]; omega
      refine (Obl.goal mix (K := Goal P keep f0 Q) (fun _ h => h) (cast (q_pr Q keep f0 rest k v (((cap : Nat) : Int)) (((L.length : Nat) : Int)) O O1 O2 O3 O4 O5 O6 O7 N l (a.1) (a.2) mi G ((Goal P keep f0 Q))).symm ⟨h1.load _ _, hcz, cbf_ok, h3.load _ _, hlook, h2.load _ _, h1.load _ _, decide_eq_false (by omega), s1, c1.load _ _, cbf_ok, c2.load _ _, c1.load _ _, s2, c3.load _ _, by rw [wk]; exact s3, c4.load _ _, s4, s5, c5.load _ _, s6, s7, hK O7 (N + 1) _ _ hLR (Nat.le_succ _) (fun x hx' => ?_) ?_ (fun j hj e1 e2 e3 => hget j (by omega) e1 e2 e3)⟩))
      · rcases List.mem_cons.1 hx' with rfl | hx'
        · exact ⟨Nat.lt_succ_self _, .inl rfl⟩
        · exact ⟨by have := hx x hx'; omega, .inr ⟨x, hx', rfl⟩⟩
      · unfold putP
        rw [if_neg hz, List.map_cons, filt_none hkq, List.take_of_length_le]
        rw [List.length_map]
        omega
    · have hlen : L.length = cap := by omega
      obtain ⟨u, y, rfl⟩ : ∃ u y, L = u ++ [y] := ⟨L.dropLast, L.getLast (fun e => by rw [e] at hlen; exact hz hlen.symm), (List.dropLast_concat_getLast _).symm⟩
      obtain ⟨e, n, O1, O2, O3, O4, c1, c2, s1, c3, s2, c4, c5, s3, s4, hLR4, hget4⟩ := drop h' hc N G
      have hx4 : ∀ x ∈ u, x.1 < N := fun x hx' => hx x (List.mem_append_left _ hx')
      have hul : u.length < cap := by rw [List.length_append] at hlen; simp only [List.length_cons, List.length_nil] at hlen; omega
      obtain ⟨a, P1, P2, P3, P4, P5, P6, P7, t1, k1, k2, t2, k3, t3, k4, t4, t5, k5, t6, t7, hLR, hget⟩ := add (v := v) hLR4 hl hm hx4 (fun x hx' => hk x (List.mem_append_left _ hx')) hul hc G
      have e1 : (((u ++ [y]).length : Nat) : Int) = ((u.length + 1 : Nat) : Int) := by rw [List.length_append]; rfl
      have wd : IntKind.i64.wrap ((((u ++ [y]).length : Nat) : Int) - (1 : Int)) = ((u.length : Nat) : Int) := by rw [e1, IntKind.wrap_i64]; omega
      have wk : IntKind.i64.wrap (((u.length : Nat) : Int) + (1 : Int)) = ((u.length + 1 : Nat) : Int) := by rw [IntKind.wrap_i64]; omega
      refine (Obl.goal mix (K := Goal P keep f0 Q) (fun _ h => h) (cast (q_pe Q keep f0 rest k v (((cap : Nat) : Int)) ((((u ++ [y]).length : Nat) : Int)) (y.2.1) O O1 O2 O3 O4 P1 P2 P3 P4 P5 P6 P7 N l (a.1) (a.2) (e.1) (e.2) (n.1) (n.2) mi (y.1) G ((Goal P keep f0 Q))).symm ⟨h1.load _ _, hcz, cbf_ok, h3.load _ _, hlook, h2.load _ _, h1.load _ _, decide_eq_true (by omega), c1.load _ _, c2.load _ _, cbf_ok, h3.load _ _, c2.load _ _, s1, c3.load _ _, by rw [wd]; exact s2, c4.load _ _, c5.load _ _, c5.load _ _, c4.load _ _, s3, s4, t1, k1.load _ _, cbf_ok, k2.load _ _, k1.load _ _, t2, by rw [wd]; exact k3.load _ _, by rw [wd, wk]; exact t3, k4.load _ _, t4, t5, k5.load _ _, t6, t7, hK P7 (N + 1) _ _ hLR (Nat.le_succ _) (fun x hx' => ?_) ?_ (fun j hj e1 e2 e3 => (hget j (by omega) e1 e2 (fun z hz => e3 z (List.mem_append_left _ hz))).trans (hget4 j e1 e2 e3))⟩))
      · rcases List.mem_cons.1 hx' with rfl | hx'
        · exact ⟨Nat.lt_succ_self _, .inl rfl⟩
        · exact ⟨by have := hx4 x hx'; omega, .inr ⟨x, List.mem_append_left _ hx', rfl⟩⟩
      · unfold putP
        rw [if_neg hz, List.map_cons, filt_none hkq, List.map_append, List.take_append_of_le_length, List.take_of_length_le]
        · rw [List.length_map]; omega
        · rw [List.length_map]; omega

end Go.Proofs.Ytcdpmiebmhjmpaa.lr
