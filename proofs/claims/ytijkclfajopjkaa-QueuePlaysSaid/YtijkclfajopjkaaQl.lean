/- QueuePlays: what is put, and the whole. -/
import Derived.Test.YtijkclfajopjkaaQk
set_option maxRecDepth 100000
set_option linter.unusedVariables false
namespace Go.Proofs.Ytijkclfajopjkaa.qo
open Go Ev

theorem put_none {I : Nat → Nat → AV} {qi N p : Nat} {X : Nat → Prop} {O : T AObj} {v0 v1 v2 v3 v4 : AV} (hv : [v0, v1, v2, v3, v4].all AV.one = true) (hI : ∀ u, u < 5 → [v0, v1, v2, v3, v4].getD u undefA = I p u) (G : T (T AV)) (hR : Rep I qi X O N p p) :
    (∃ (fr n : Int) (O1 O2 O3 O4 O5 O6 O7 : T AObj), PA O N qi G fr n v0 v1 v2 v3 v4 O1 O2 O3 O4 O5 O6 O7 ∧ Rep I qi X O7 (N + 2) (p + 1) p ∧ ∀ j, X j → O7.get j = O.get j) := by
  obtain ⟨hq, hqX, hX, hR⟩ := hR
  rcases hR with ⟨_, la, lb, fr, hr⟩ | ⟨htp, _⟩
  rotate_left
  · omega
  obtain ⟨O1, O2, O3, O4, O5, O6, O7, l0, l1, l2, l3, l4, l5, l6, l7, l8, l9, l10, l11, l12, l13, l14, z0, z1, z2⟩ := heap_pa (G := G) (a := 0) (b := 0) (F := zf81) (fr := fr) hv hr hq rfl
  refine ⟨fr, 0, O1, O2, O3, O4, O5, O6, O7, ⟨l0, l1, l2, l3, l4, l5, l6, l7, l8, l9, l10, l11, l12, l13, l14⟩, ⟨by omega, hqX, fun j hj => by have := hX j hj; omega, .inr ⟨by omega, 0, 0, fun _ => N + 1, fun _ => upd zf81 0 [v0, v1, v2, v3, v4], by omega, by omega, by omega, ?_, fun j hj => ⟨(by omega : N + 1 < N + 2), (by omega : N + 1 ≠ qi), fun h => by have := hX (N + 1) h; omega, z1⟩, fun j hj => absurd hj (Nat.not_lt_zero j), fun i j hi hj _ => by omega, fun m hm u hu => ?_⟩⟩, fun j hj => z2 j (by have := hX j hj; omega) (by have := hX j hj; omega) (fun h => hqX (h ▸ hj))⟩
  · have e : (IntKind.i64.wrap (0 + (1 : Int))) = ((p + 1 - p : Nat) : Int) := by rw [IntKind.wrap_i64]; omega
    rw [← e]
    exact z0
  · obtain rfl : m = 0 := by omega
    show upd zf81 0 _ (0 % 16 * 5 + u) = _
    rw [show 0 % 16 * 5 + u = 0 + u by omega]
    exact five hI hu

variable {O0 : T AObj} {md : Nat → Md} {n off cap off2 len2 cap2 : Nat} {ga : Nat → Nat} {L : List Nat} {O : T AObj} {N p t ri i : Nat} {G : T (T AV)} {lv : AV}

theorem w_put (hp : p < 1000000000) (h : QI O0 md n L O N p t p t ri) (ha : HA O0 ga off2 len2 cap2) (hi : i < len2) (h5 : i < 500) (c1 : decide ((((ga i : Nat) : Int)).tmod 4 < 2) = true) (hs : HS O0 md lv off n cap)
    (hK : ∀ (L : List Nat) (O : T AObj) (N wp ri : Nat) (f : Nat → AV), QI O0 md n L O N (p + 1) t (p + 1) t ri → Row O wp 5 f → wp ∈ L → (wp ≠ 0 ∧ wp ≠ 1 ∧ wp ≠ 3 ∧ (p + 1 ≠ 0 → wp ≠ ri)) → GP (QT lv off2 len2 cap2 wp ((p + 1 : Nat) : Int) (i : Int) O N G)) : GP (QL lv off2 len2 cap2 (p : Int) (i : Int) O N G) := by
  obtain rfl := hs.1
  have hn0 := hs.2.1
  obtain ⟨O1, O2, O3, O4, e1, e2, e3, e4, r4, r4', g4⟩ := boxes2 O N G
  have h4 := h.boxed g4
  obtain ⟨_, _, _, _, n1, n2, n3, n4⟩ := new_ok h
  have hact := load_act (N := N + 2) (G := G) ha h4.2.2.2.2 hi
  have hne := ne_n hs p
  have wp1 : IntKind.i64.wrap ((p : Int) + (1 : Int)) = ((p + 1 : Nat) : Int) := by rw [IntKind.wrap_i64]; omega
  have hm1 : N + 1 ∈ L ++ [N, N + 1] := by simp
  have hI : ∀ u, u < 5 → [AV.int .i64 (md (p % n)).1, .str (md (p % n)).2.1, .int .u64 (md (p % n)).2.2.2.1, .str (md (p % n)).2.2.1, .bool (md (p % n)).2.2.2.2].getD u undefA = iq md n p u := fun u _ => rfl
  by_cases e0 : p = 0
  · subst e0
    obtain rfl : t = 0 := by have := (h.1.len (G := G)).1; omega
    obtain ⟨fr, m, T1, T2, T3, T4, T5, T6, T7, hT, hQ, hk⟩ := put_none rfl hI G h4.1
    obtain ⟨l0, l1, l2, l3, l4, l5, l6, l7, l8, l9, l10, l11, l12, l13, l14⟩ := hT
    have h5 := h4.rep hQ hk
    obtain ⟨Ra, Rb, Rc, a1, a2, a3, a4, h6, k6⟩ := rput_nil h5 G
    have rw6 := (r4'.same (hk (N + 1) hm1)).same (k6 (N + 1) (by omega) n3)
    have fin := hK (L ++ [N, N + 1] ++ [N + 2 + 2 + 1]) Rc _ (N + 1) (N + 2 + 2 + 1) _ h6 rw6 (List.mem_append_left _ hm1) ⟨n1, n2, n3, fun _ => by omega⟩
    exact (Obl.goal mix (K := GP) (fun _ h => h) (cast (q_an ((fun v => v = AV.bool true)) off n cap off2 len2 cap2 (((0 : Nat) : Int)) ((i : Int)) (((ga i : Nat) : Int)) ((md (0 % n)).1) ((md (0 % n)).2.2.2.1) fr m O O1 O2 O3 O4 T1 T2 T3 T4 T5 T6 T7 Ra Rb Rc N 0 ((md (0 % n)).2.1) ((md (0 % n)).2.2.1) ((md (0 % n)).2.2.2.2) G GP).symm ⟨decide_eq_true (by omega), decide_eq_true (by omega), e1, e2, e3, e4, ⟨by omega, by omega⟩, hact, c1, decide_eq_true (by omega), hne.1, hne.2, load_made hs h4.2.2.2.1 0, item_ok _, l0, l1, l2, l3, l4, l5, l6, l7, l8, l9, l10, l11, l12, l13, l14, a1, a2, a3, a4, by rw [wp1]; exact fin⟩))
  · have hri := h.lt (h.2.2.1.2.2 e0).1
    have fin0 : ∀ (Oq Or : T AObj) (M : Nat), N + 2 ≤ M → (∀ j, j ∈ L ++ [N, N + 1] → Oq.get j = O4.get j) → QI O0 md n (L ++ [N, N + 1]) Or (M + 1) (p + 1) t (p + 1) t ri → (∀ j, j < M → j ≠ 3 → j ≠ ri → Or.get j = Oq.get j) → GP (QT (.slc 0 0 off n cap) off2 len2 cap2 (N + 1) ((p + 1 : Nat) : Int) (i : Int) Or (M + 1) G) :=
      fun Oq Or M hM hk hq k6 => hK _ Or _ (N + 1) ri _ hq ((r4'.same (hk (N + 1) hm1)).same (k6 (N + 1) (by omega) n3 (by omega))) hm1 ⟨n1, n2, n3, fun _ => by omega⟩
    rcases put_rep rfl hI G h4.1 hp with ⟨fr, m, T1, T2, T3, T4, T5, T6, T7, hT, hQ, hk⟩ | ⟨fr, m, b, T1, T2, T3, T4, T5, T6, hT, hQ, hk⟩ | ⟨fr, m, b, T1, T2, T3, hT, hQ, hk⟩
    · obtain ⟨l0, l1, l2, l3, l4, l5, l6, l7, l8, l9, l10, l11, l12, l13, l14⟩ := hT
      obtain ⟨Ra, Rb, Rc, a1, a2, a3, a4, h6, k6⟩ := rput_slg (h4.rep hQ hk) e0 hp G
      have fin := fin0 T7 Rc _ (by omega) hk h6 k6
      exact (Obl.goal mix (K := GP) (fun _ h => h) (cast (q_asx ((fun v => v = AV.bool true)) off n cap off2 len2 cap2 ((p : Int)) ((i : Int)) (((ga i : Nat) : Int)) ((md (p % n)).1) ((md (p % n)).2.2.2.1) fr m O O1 O2 O3 O4 T1 T2 T3 T4 T5 T6 T7 Ra Rb Rc N ri (p - 1) t (p - t) t ((md (p % n)).2.1) ((md (p % n)).2.2.1) ((md (p % n)).2.2.2.2) G GP).symm ⟨decide_eq_true (by omega), decide_eq_true (by omega), e1, e2, e3, e4, ⟨by omega, by omega⟩, hact, c1, decide_eq_true (by omega), hne.1, hne.2, load_made hs h4.2.2.2.1 p, item_ok _, l0, l1, l2, l3, l4, l5, l6, l7, l8, l9, l10, l11, l12, l13, l14, a1, a2, a3, a4, by rw [wp1]; exact fin⟩))
    · obtain ⟨l0, l1, l2, l3, l4, l5, l6, l7, l8, l9, l10, l11, l12, l13, l14, l15, l16, l17⟩ := hT
      obtain ⟨Ra, Rb, Rc, a1, a2, a3, a4, h6, k6⟩ := rput_slg (h4.rep hQ hk) e0 hp G
      have fin := fin0 T6 Rc _ (by omega) hk h6 k6
      exact (Obl.goal mix (K := GP) (fun _ h => h) (cast (q_bs ((fun v => v = AV.bool true)) off n cap off2 len2 cap2 ((p : Int)) ((i : Int)) (((ga i : Nat) : Int)) ((md (p % n)).1) ((md (p % n)).2.2.2.1) fr m O O1 O2 O3 O4 T1 T2 T3 T4 T5 T6 Ra Rb Rc N b ri (p - 1) t (p - t) t ((md (p % n)).2.1) ((md (p % n)).2.2.1) ((md (p % n)).2.2.2.2) G GP).symm ⟨decide_eq_true (by omega), decide_eq_true (by omega), e1, e2, e3, e4, ⟨by omega, by omega⟩, hact, c1, decide_eq_true (by omega), hne.1, hne.2, load_made hs h4.2.2.2.1 p, item_ok _, l0, l1, l2, l3, l4, l5, l6, l7, l8, l9, l10, l11, l12, l13, l14, l15, l16, l17, a1, a2, a3, a4, by rw [wp1]; exact fin⟩))
    · obtain ⟨l0, l1, l2, l3, l4, l5, l6, l7, l8, l9, l10, l11⟩ := hT
      obtain ⟨Ra, Rb, Rc, a1, a2, a3, a4, h6, k6⟩ := rput_slg (h4.rep hQ hk) e0 hp G
      have fin := fin0 T3 Rc _ (by omega) hk h6 k6
      exact (Obl.goal mix (K := GP) (fun _ h => h) (cast (q_cs ((fun v => v = AV.bool true)) off n cap off2 len2 cap2 ((p : Int)) ((i : Int)) (((ga i : Nat) : Int)) ((md (p % n)).1) ((md (p % n)).2.2.2.1) fr m O O1 O2 O3 O4 T1 T2 T3 Ra Rb Rc N b ri (p - 1) t (p - t) t ((md (p % n)).2.1) ((md (p % n)).2.2.1) ((md (p % n)).2.2.2.2) G GP).symm ⟨decide_eq_true (by omega), decide_eq_true (by omega), e1, e2, e3, e4, ⟨by omega, by omega⟩, hact, c1, decide_eq_true (by omega), hne.1, hne.2, load_made hs h4.2.2.2.1 p, item_ok _, l0, l1, l2, l3, l4, l5, l6, l7, l8, l9, l10, l11, a1, a2, a3, a4, by rw [wp1]; exact fin⟩))

/-- All acts. -/
theorem w_all (ha : HA O0 ga off2 len2 cap2) (hlv : HS O0 md lv off n cap ∨ (∃ cp, lv = .slc 0 0 off 0 cp) ∨ lv = .nils 0 0 ∨ lv = .sle) : ∀ (r i p t N ri : Nat) (O : T AObj) (L : List Nat), 500 = i + r → p + r < 1000000000 → QI O0 md n L O N p t p t ri → (p = 0 ∨ HS O0 md lv off n cap) → GP (QL lv off2 len2 cap2 (p : Int) (i : Int) O N G) := by
  intro r
  induction r with
  | zero =>
    intro i p t N ri O L hr hp h hz
    by_cases hi : i < len2
    · exact (Obl.goal mix (K := GP) (fun _ h => h) (cast (q_e2 ((fun v => v = AV.bool true)) lv off2 len2 cap2 ((p : Int)) ((i : Int)) 0 O N 0 G GP).symm ⟨decide_eq_true (by omega), decide_eq_false (by omega), works_ok, rfl⟩))
    · exact (Obl.goal mix (K := GP) (fun _ h => h) (cast (q_e1 ((fun v => v = AV.bool true)) lv off2 len2 cap2 ((p : Int)) ((i : Int)) 0 O N 0 G GP).symm ⟨decide_eq_false (by omega), works_ok, rfl⟩))
  | succ r ih =>
    intro i p t N ri O L hr hp h hz
    have htp := (h.1.len (G := G)).1
    by_cases hi : i < len2
    rotate_left
    · exact (Obl.goal mix (K := GP) (fun _ h => h) (cast (q_e1 ((fun v => v = AV.bool true)) lv off2 len2 cap2 ((p : Int)) ((i : Int)) 0 O N 0 G GP).symm ⟨decide_eq_false (by omega), works_ok, rfl⟩))
    have hs : t < p → HS O0 md lv off n cap := fun ht => hz.resolve_left (by omega)
    have tl : ∀ (L : List Nat) (O : T AObj) (N wp t : Nat) (f : Nat → AV), QI O0 md n L O N p t p t ri → Row O wp 5 f → wp ∈ L → (wp ≠ 0 ∧ wp ≠ 1 ∧ wp ≠ 3 ∧ (p ≠ 0 → wp ≠ ri)) → GP (QT lv off2 len2 cap2 wp (p : Int) (i : Int) O N G) :=
      fun L O N wp t f h' hw hwL w0 => w_tail (off := off) (cap := cap) (by omega) (by omega) h' hw hwL w0 (fun ht => hz.resolve_left (by omega)) fun L O N h'' => ih (i + 1) p t N ri O L (by omega) (by omega) h'' hz
    by_cases c1 : decide ((((ga i : Nat) : Int)).tmod 4 < 2) = true
    · by_cases hh : HS O0 md lv off n cap
      · exact w_put (by omega) h ha hi (by omega) c1 hh fun L O N wp ri f h' hw hwL w0 => w_tail (off := off) (cap := cap) (by omega) (by omega) h' hw hwL w0 (fun _ => hh) fun L O N h'' => ih (i + 1) (p + 1) t N ri O L (by omega) (by omega) h'' (.inr hh)
      · refine w_d (off := off) (cap := cap) (by omega) h ha hi (by omega) ?_ (.inr (hlv.resolve_left hh)) hs tl
        have c1' := of_decide_eq_true c1
        rw [beq_eq_false_iff_ne]
        omega
    · have c1' : decide ((((ga i : Nat) : Int)).tmod 4 < 2) = false := by simpa using c1
      by_cases c2 : ((((ga i : Nat) : Int)).tmod 4 == 2) = true
      · exact w_m2 (by omega) h ha hi (by omega) c1' c2 fun L O N wp f h' hw hwL w0 => tl L O N wp t f h' hw hwL w0
      · exact w_d (off := off) (cap := cap) (by omega) h ha hi (by omega) (by simpa using c2) (.inl c1') hs tl

end Go.Proofs.Ytijkclfajopjkaa.qo
