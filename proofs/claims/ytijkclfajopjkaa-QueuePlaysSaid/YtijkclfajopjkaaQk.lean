/- QueuePlays: what is taken, and what is put. -/
import Derived.Test.YtijkclfajopjkaaQj
set_option maxRecDepth 100000
set_option linter.unusedVariables false
namespace Go.Proofs.Ytijkclfajopjkaa.qo
open Go Ev

variable {O0 : T AObj} {md : Nat → Md} {n off cap off2 len2 cap2 : Nat} {ga : Nat → Nat} {L : List Nat} {O : T AObj} {N p t ri i wp ap : Nat} {G : T (T AV)} {lv : AV}

theorem sl_first {h : AHeap} {ri p t : Nat} (ht : t < p) : sliceH P h 27 (.slg ri (p - 1) t (p - t) t) (some 1) none none = some (.slg ri (p - 1) (t + 1) (p - t - 1) (t + 1)) := by
  have e : sliceH P h 27 (.slg ri (p - 1) t (p - t) t) (some 1) none none = (match slgOf ri (p - 1) t (p - t) t 1 none (boundsA (p - t) (p - t) (some 1) none none) with | some v => some v | none => sliceX P h 27 (.slg ri (p - 1) t (p - t) t) (some 1) none none) := by kernel_rfl
  rw [e]
  have g : boundA 1 (p - t) = some 1 := by
    unfold boundA
    rw [if_pos (by omega)]
    rfl
  have e2 : boundsA (p - t) (p - t) (some 1) none none = some (1, p - t, p - t) := by
    show (match boundA 1 (p - t) with | none => none | some l => some (l, p - t, p - t)) = _
    rw [g]
  rw [e2]
  show some (AV.slg ri (p - 1) (t + 1 * 1) (p - t - 1) (t + 1)) = _
  rfl

/-- One that is taken. -/
theorem w_dd (hp : p < 1000000000) (h : QI O0 md n L O N p t p t ri) (hra : Row O ap 1 (fun _ => .nils 0 0)) (haL : ap ∈ L) (a0 : ap ≠ 0 ∧ ap ≠ 1 ∧ ap ≠ 3 ∧ (p ≠ 0 → ap ≠ ri)) (hrw : Row O wp 5 (i5 zits)) (hwL : wp ∈ L) (w0 : (wp ≠ 0 ∧ wp ≠ 1 ∧ wp ≠ 3 ∧ (p ≠ 0 → wp ≠ ri))) (hwa : wp ≠ ap) (hs : t < p → HS O0 md lv off n cap)
    (hK : ∀ (L : List Nat) (O : T AObj) (N wp t : Nat) (f : Nat → AV), QI O0 md n L O N p t p t ri → Row O wp 5 f → wp ∈ L → (wp ≠ 0 ∧ wp ≠ 1 ∧ wp ≠ 3 ∧ (p ≠ 0 → wp ≠ ri)) → GP (QT lv off2 len2 cap2 wp (p : Int) (i : Int) O N G)) : GP (QD lv off2 len2 cap2 ap wp (p : Int) (i : Int) O N G) := by
  have haN := h.lt haL
  have hwN := h.lt hwL
  have htp := (h.1.len (G := G)).1
  have hl3 := h.load3 (G := G)
  by_cases e : p = t
  · subst e
    obtain ⟨O1, O2, O3, a1, a2, a3, a4, ra, rn, aK⟩ := atput hra haN (-1) G
    have h3 : QI O0 md n (L ++ [N + 1]) O3 (N + 2) p p p p ri := h.chg [ap] (fun j hj => by obtain rfl := List.mem_singleton.1 hj; exact ⟨haL, a0⟩) (fun j hj hn => aK j hj fun e => hn (e ▸ List.mem_singleton_self _)) (by omega) (fun j hj => by
      rcases List.mem_append.1 hj with x | x
      · exact ⟨.inl x, by have := h.lt x; omega⟩
      · obtain rfl := List.mem_singleton.1 x
        exact ⟨.inr (by omega), by omega⟩) ⟨List.mem_append_left _ h.2.1.1, List.mem_append_left _ h.2.1.2.1, List.mem_append_left _ h.2.1.2.2⟩ (fun hp => List.mem_append_left _ (h.2.2.1.2.2 hp).1)
    obtain ⟨O4, O5, hT, hR, hk⟩ := take_none G h3.1
    obtain ⟨l0, l1, l2, l3, l4⟩ := hT
    have h5 := h3.rep hR hk
    obtain ⟨O6, O7, e1, e2, rB, hB⟩ := box5 (G := G) (O := O5) (M := N + 2 + 1) (v0 := .int .i64 0) (v1 := .str []) (v2 := .int .u64 0) (v3 := .str []) (v4 := .bool false) rfl
    have h7 : QI O0 md n (L ++ [N + 1]) O7 (N + 4) p p p p ri := h5.garb (fun j hj => hB j (by omega)) (by omega) (fun j hj => ⟨.inl hj, by have := h5.lt hj; omega⟩) h5.2.1 (fun hp => (h5.2.2.1.2.2 hp).1)
    have ra7 := (ra.same (hk ap (List.mem_append_left _ haL))).same (hB ap (by omega))
    have rn7 := (rn.same (hk (N + 1) (List.mem_append_right _ (List.mem_singleton_self _)))).same (hB (N + 1) (by omega))
    have rw7 := ((hrw.same (aK wp hwN hwa)).same (hk wp (List.mem_append_left _ hwL))).same (hB wp (by omega))
    have fin := hK (L ++ [N + 1]) O7 (N + 4) wp p _ h7 rw7 (List.mem_append_left _ hwL) w0
    by_cases e0 : p = 0
    · subst e0
      exact (Obl.goal mix (K := GP) (fun _ h => h) (cast (q_dn ((fun v => v = AV.bool true)) lv off2 len2 cap2 (((0 : Nat) : Int)) ((i : Int)) 0 O O1 O2 O3 O4 O5 O6 O7 N 0 wp ap G GP).symm ⟨hl3, a1, a2, a3, a4, l0, l1, l2, l3, l4, e1, e2, ra7.load1 (by omega), rn7.load1 (by omega), ra7.load1 (by omega), rn7.load1 (by omega), rB.load5 (by omega), rw7.load5 (by omega), fin⟩))
    · rw [Lv_slg e0, Nat.sub_self] at hl3
      exact (Obl.goal mix (K := GP) (fun _ h => h) (cast (q_de ((fun v => v = AV.bool true)) lv off2 len2 cap2 ((p : Int)) ((i : Int)) 0 O O1 O2 O3 O4 O5 O6 O7 N ri (p - 1) p p wp ap G GP).symm ⟨hl3, a1, a2, a3, a4, l0, l1, l2, l3, l4, e1, e2, ra7.load1 (by omega), rn7.load1 (by omega), ra7.load1 (by omega), rn7.load1 (by omega), rB.load5 (by omega), rw7.load5 (by omega), fin⟩))
  · have hs := hs (by omega)
    obtain rfl := hs.1
    have hne := ne_n hs t
    rw [Lv_slg (by omega)] at hl3
    have hsl := sl_first (h := ⟨O, N, G⟩) (ri := ri) (show t < p by omega)
    obtain ⟨O1, s1, h1, f1⟩ := rtake h (by omega) G
    obtain ⟨O2, O3, O4, a1, a2, a3, a4, ra, rn, aK⟩ := atput (hra.same (f1 ap a0.2.2.1)) haN (t : Int) G
    have rw4 := (hrw.same (f1 wp w0.2.2.1)).same (aK wp hwN hwa)
    have h6 : QI O0 md n (L ++ [N + 1]) O4 (N + 2) p t p (t + 1) ri := h1.chg [ap] (fun j hj => by obtain rfl := List.mem_singleton.1 hj; exact ⟨haL, a0⟩) (fun j hj hn => aK j hj fun e => hn (e ▸ List.mem_singleton_self _)) (by omega) (fun j hj => by
      rcases List.mem_append.1 hj with x | x
      · exact ⟨.inl x, by have := h.lt x; omega⟩
      · obtain rfl := List.mem_singleton.1 x
        exact ⟨.inr (by omega), by omega⟩) ⟨List.mem_append_left _ h.2.1.1, List.mem_append_left _ h.2.1.2.1, List.mem_append_left _ h.2.1.2.2⟩ (fun hp => List.mem_append_left _ (h.2.2.1.2.2 hp).1)
    rcases take_rep G h6.1 hp (by omega) rfl with ⟨fr, m, b, T1, T2, T3, T4, T5, T6, T7, T8, T9, T10, T11, T12, T13, hT, hQ, hk⟩ | ⟨fr, m, b, c, T1, T2, T3, T4, T5, T6, T7, T8, T9, T10, T11, T12, T13, hT, hQ, hk⟩ | ⟨fr, m, b, T1, T2, T3, T4, T5, T6, T7, T8, T9, T10, T11, hT, hQ, hk⟩
    · obtain ⟨l0, l1, l2, l3, l4, l5, l6, l7, l8, l9, l10, l11, l12, l13, l14, l15, l16, l17, l18, l19, l20, l21, l22, l23, l24, l25, l26, l27, l28, l29⟩ := hT
      have h7 := h6.rep hQ hk
      obtain ⟨Ta, Tb, b1, b2, rB, hB⟩ := box5 (G := G) (O := T13) (M := N + 2 + 4) (v0 := .int .i64 (md (t % n)).1) (v1 := .str (md (t % n)).2.1) (v2 := .int .u64 (md (t % n)).2.2.2.1) (v3 := .str (md (t % n)).2.2.1) (v4 := .bool (md (t % n)).2.2.2.2) rfl
      have h8 : QI O0 md n (L ++ [N + 1]) Tb (N + 7) p (t + 1) p (t + 1) ri := h7.garb (fun j hj => hB j (by omega)) (by omega) (fun j hj => ⟨.inl hj, by have := h7.lt hj; omega⟩) h7.2.1 (fun hp => (h7.2.2.1.2.2 hp).1)
      have ra8 := (ra.same (hk ap (List.mem_append_left _ haL))).same (hB ap (by omega))
      have rn8 := (rn.same (hk (N + 1) (List.mem_append_right _ (List.mem_singleton_self _)))).same (hB (N + 1) (by omega))
      have rw8 := (rw4.same (hk wp (List.mem_append_left _ hwL))).same (hB wp (by omega))
      obtain ⟨Tc, c5, r9, f9⟩ := rw8.store (N + 7) G (off := 0) (vs := irow (md (t % n))) rfl (by simp [irow])
      have h9 : QI O0 md n (L ++ [N + 1]) Tc (N + 7) p (t + 1) p (t + 1) ri := h8.chg [wp] (fun j hj => by obtain rfl := List.mem_singleton.1 hj; exact ⟨List.mem_append_left _ hwL, w0⟩) (fun j hj hn => f9 j (fun e => hn (e ▸ List.mem_singleton_self _))) (Nat.le_refl _) (fun j hj => ⟨.inl hj, h8.lt hj⟩) h8.2.1 (fun hp => (h8.2.2.1.2.2 hp).1)
      have ra9 := ra8.fr f9 (Ne.symm hwa)
      have rn9 := rn8.fr f9 (show N + 1 ≠ wp by omega)
      have rB9 := rB.fr f9 (show N + 2 + 4 ≠ wp by omega)
      have r9' := r9.to (g := i5 (irow (md (t % n)))) (upd_i5 (vs := irow (md (t % n))))
      exact (Obl.goal mix (K := GP) (fun _ h => h) (cast (q_dta ((fun v => v = AV.bool true)) off n cap off2 len2 cap2 ((p : Int)) ((i : Int)) 0 ((md (t % n)).1) ((md (t % n)).2.2.2.1) fr m ((t : Int)) O O1 O2 O3 O4 T1 T2 T3 T4 T5 T6 T7 T8 T9 T10 T11 T12 T13 Ta Tb Tc N b ri (p - 1) t (p - t) t wp ap ((md (t % n)).2.1) ((md (t % n)).2.2.1) ((md (t % n)).2.2.2.2) G GP).symm ⟨hl3, by rw [beq_eq_false_iff_ne]; omega, hl3, ⟨by omega, by omega⟩, grow_load (h.2.2.1.2.2 (by omega)).2.2.2.2 (by omega), decide_eq_true (by omega), hl3, hsl, s1, a1, a2, a3, a4, l0, l1, l2, l3, l4, l5, l6, l7, l8, l9, l10, l11, l12, l13, l14, l15, l16, l17, l18, l19, l20, l21, l22, l23, l24, l25, l26, l27, l28, l29, b1, b2, ra8.load1 (by omega), rn8.load1 (by omega), decide_eq_true (by omega), ra8.load1 (by omega), rn8.load1 (by omega), hne.1, hne.2, load_made hs h8.2.2.2.1 t, item_ok _, c5, ra9.load1 (by omega), rn9.load1 (by omega), by rw [decide_eq_true (show (t : Int) ≥ 0 by omega)]; rfl, rB9.load5 (by omega), r9'.load5 (by omega), bin32 _ _ _, hK (L ++ [N + 1]) Tc _ wp (t + 1) _ h9 r9' (List.mem_append_left _ hwL) w0⟩))
    · obtain ⟨l0, l1, l2, l3, l4, l5, l6, l7, l8, l9, l10, l11, l12, l13, l14, l15, l16, l17, l18, l19, l20, l21, l22, l23, l24, l25, l26, l27, l28, l29, l30, l31, l32, l33⟩ := hT
      have h7 := h6.rep hQ hk
      obtain ⟨Ta, Tb, b1, b2, rB, hB⟩ := box5 (G := G) (O := T13) (M := N + 2 + 4) (v0 := .int .i64 (md (t % n)).1) (v1 := .str (md (t % n)).2.1) (v2 := .int .u64 (md (t % n)).2.2.2.1) (v3 := .str (md (t % n)).2.2.1) (v4 := .bool (md (t % n)).2.2.2.2) rfl
      have h8 : QI O0 md n (L ++ [N + 1]) Tb (N + 7) p (t + 1) p (t + 1) ri := h7.garb (fun j hj => hB j (by omega)) (by omega) (fun j hj => ⟨.inl hj, by have := h7.lt hj; omega⟩) h7.2.1 (fun hp => (h7.2.2.1.2.2 hp).1)
      have ra8 := (ra.same (hk ap (List.mem_append_left _ haL))).same (hB ap (by omega))
      have rn8 := (rn.same (hk (N + 1) (List.mem_append_right _ (List.mem_singleton_self _)))).same (hB (N + 1) (by omega))
      have rw8 := (rw4.same (hk wp (List.mem_append_left _ hwL))).same (hB wp (by omega))
      obtain ⟨Tc, c5, r9, f9⟩ := rw8.store (N + 7) G (off := 0) (vs := irow (md (t % n))) rfl (by simp [irow])
      have h9 : QI O0 md n (L ++ [N + 1]) Tc (N + 7) p (t + 1) p (t + 1) ri := h8.chg [wp] (fun j hj => by obtain rfl := List.mem_singleton.1 hj; exact ⟨List.mem_append_left _ hwL, w0⟩) (fun j hj hn => f9 j (fun e => hn (e ▸ List.mem_singleton_self _))) (Nat.le_refl _) (fun j hj => ⟨.inl hj, h8.lt hj⟩) h8.2.1 (fun hp => (h8.2.2.1.2.2 hp).1)
      have ra9 := ra8.fr f9 (Ne.symm hwa)
      have rn9 := rn8.fr f9 (show N + 1 ≠ wp by omega)
      have rB9 := rB.fr f9 (show N + 2 + 4 ≠ wp by omega)
      have r9' := r9.to (g := i5 (irow (md (t % n)))) (upd_i5 (vs := irow (md (t % n))))
      exact (Obl.goal mix (K := GP) (fun _ h => h) (cast (q_dtb ((fun v => v = AV.bool true)) off n cap off2 len2 cap2 ((p : Int)) ((i : Int)) 0 ((md (t % n)).1) ((md (t % n)).2.2.2.1) fr m ((t : Int)) O O1 O2 O3 O4 T1 T2 T3 T4 T5 T6 T7 T8 T9 T10 T11 T12 T13 Ta Tb Tc N b c ri (p - 1) t (p - t) t wp ap ((md (t % n)).2.1) ((md (t % n)).2.2.1) ((md (t % n)).2.2.2.2) G GP).symm ⟨hl3, by rw [beq_eq_false_iff_ne]; omega, hl3, ⟨by omega, by omega⟩, grow_load (h.2.2.1.2.2 (by omega)).2.2.2.2 (by omega), decide_eq_true (by omega), hl3, hsl, s1, a1, a2, a3, a4, l0, l1, l2, l3, l4, l5, l6, l7, l8, l9, l10, l11, l12, l13, l14, l15, l16, l17, l18, l19, l20, l21, l22, l23, l24, l25, l26, l27, l28, l29, l30, l31, l32, l33, b1, b2, ra8.load1 (by omega), rn8.load1 (by omega), decide_eq_true (by omega), ra8.load1 (by omega), rn8.load1 (by omega), hne.1, hne.2, load_made hs h8.2.2.2.1 t, item_ok _, c5, ra9.load1 (by omega), rn9.load1 (by omega), by rw [decide_eq_true (show (t : Int) ≥ 0 by omega)]; rfl, rB9.load5 (by omega), r9'.load5 (by omega), bin32 _ _ _, hK (L ++ [N + 1]) Tc _ wp (t + 1) _ h9 r9' (List.mem_append_left _ hwL) w0⟩))
    · obtain ⟨l0, l1, l2, l3, l4, l5, l6, l7, l8, l9, l10, l11, l12, l13, l14, l15, l16, l17, l18, l19, l20, l21, l22, l23, l24, l25, l26, l27, l28, l29⟩ := hT
      have h7 := h6.rep hQ hk
      obtain ⟨Ta, Tb, b1, b2, rB, hB⟩ := box5 (G := G) (O := T11) (M := N + 2 + 4) (v0 := .int .i64 (md (t % n)).1) (v1 := .str (md (t % n)).2.1) (v2 := .int .u64 (md (t % n)).2.2.2.1) (v3 := .str (md (t % n)).2.2.1) (v4 := .bool (md (t % n)).2.2.2.2) rfl
      have h8 : QI O0 md n (L ++ [N + 1]) Tb (N + 7) p (t + 1) p (t + 1) ri := h7.garb (fun j hj => hB j (by omega)) (by omega) (fun j hj => ⟨.inl hj, by have := h7.lt hj; omega⟩) h7.2.1 (fun hp => (h7.2.2.1.2.2 hp).1)
      have ra8 := (ra.same (hk ap (List.mem_append_left _ haL))).same (hB ap (by omega))
      have rn8 := (rn.same (hk (N + 1) (List.mem_append_right _ (List.mem_singleton_self _)))).same (hB (N + 1) (by omega))
      have rw8 := (rw4.same (hk wp (List.mem_append_left _ hwL))).same (hB wp (by omega))
      obtain ⟨Tc, c5, r9, f9⟩ := rw8.store (N + 7) G (off := 0) (vs := irow (md (t % n))) rfl (by simp [irow])
      have h9 : QI O0 md n (L ++ [N + 1]) Tc (N + 7) p (t + 1) p (t + 1) ri := h8.chg [wp] (fun j hj => by obtain rfl := List.mem_singleton.1 hj; exact ⟨List.mem_append_left _ hwL, w0⟩) (fun j hj hn => f9 j (fun e => hn (e ▸ List.mem_singleton_self _))) (Nat.le_refl _) (fun j hj => ⟨.inl hj, h8.lt hj⟩) h8.2.1 (fun hp => (h8.2.2.1.2.2 hp).1)
      have ra9 := ra8.fr f9 (Ne.symm hwa)
      have rn9 := rn8.fr f9 (show N + 1 ≠ wp by omega)
      have rB9 := rB.fr f9 (show N + 2 + 4 ≠ wp by omega)
      have r9' := r9.to (g := i5 (irow (md (t % n)))) (upd_i5 (vs := irow (md (t % n))))
      exact (Obl.goal mix (K := GP) (fun _ h => h) (cast (q_dtc ((fun v => v = AV.bool true)) off n cap off2 len2 cap2 ((p : Int)) ((i : Int)) 0 ((md (t % n)).1) ((md (t % n)).2.2.2.1) fr m ((t : Int)) O O1 O2 O3 O4 T1 T2 T3 T4 T5 T6 T7 T8 T9 T10 T11 Ta Tb Tc N b ri (p - 1) t (p - t) t wp ap ((md (t % n)).2.1) ((md (t % n)).2.2.1) ((md (t % n)).2.2.2.2) G GP).symm ⟨hl3, by rw [beq_eq_false_iff_ne]; omega, hl3, ⟨by omega, by omega⟩, grow_load (h.2.2.1.2.2 (by omega)).2.2.2.2 (by omega), decide_eq_true (by omega), hl3, hsl, s1, a1, a2, a3, a4, l0, l1, l2, l3, l4, l5, l6, l7, l8, l9, l10, l11, l12, l13, l14, l15, l16, l17, l18, l19, l20, l21, l22, l23, l24, l25, l26, l27, l28, l29, b1, b2, ra8.load1 (by omega), rn8.load1 (by omega), decide_eq_true (by omega), ra8.load1 (by omega), rn8.load1 (by omega), hne.1, hne.2, load_made hs h8.2.2.2.1 t, item_ok _, c5, ra9.load1 (by omega), rn9.load1 (by omega), by rw [decide_eq_true (show (t : Int) ≥ 0 by omega)]; rfl, rB9.load5 (by omega), r9'.load5 (by omega), bin32 _ _ _, hK (L ++ [N + 1]) Tc _ wp (t + 1) _ h9 r9' (List.mem_append_left _ hwL) w0⟩))

/-- Those that are taken: ahead of it. -/
theorem w_d (hp : p < 1000000000) (h : QI O0 md n L O N p t p t ri) (ha : HA O0 ga off2 len2 cap2) (hi : i < len2) (h5 : i < 500) (c2 : ((((ga i : Nat) : Int)).tmod 4 == 2) = false)
    (c1 : decide ((((ga i : Nat) : Int)).tmod 4 < 2) = false ∨ (∃ cp, lv = .slc 0 0 off 0 cp) ∨ lv = .nils 0 0 ∨ lv = .sle) (hs : t < p → HS O0 md lv off n cap)
    (hK : ∀ (L : List Nat) (O : T AObj) (N wp t : Nat) (f : Nat → AV), QI O0 md n L O N p t p t ri → Row O wp 5 f → wp ∈ L → (wp ≠ 0 ∧ wp ≠ 1 ∧ wp ≠ 3 ∧ (p ≠ 0 → wp ≠ ri)) → GP (QT lv off2 len2 cap2 wp (p : Int) (i : Int) O N G)) : GP (QL lv off2 len2 cap2 (p : Int) (i : Int) O N G) := by
  obtain ⟨O1, O2, O3, O4, e1, e2, e3, e4, r4, r4', g4⟩ := boxes2 O N G
  have h4 := h.boxed g4
  obtain ⟨a1, a2, a3, a4, n1, n2, n3, n4⟩ := new_ok h
  have hact := load_act (N := N + 2) (G := G) ha h4.2.2.2.2 hi
  have fin : GP (QD lv off2 len2 cap2 N (N + 1) (p : Int) (i : Int) O4 (N + 2) G) := w_dd (off := off) (cap := cap) hp h4 r4 (by simp) ⟨a1, a2, a3, a4⟩ r4' (by simp) ⟨n1, n2, n3, n4⟩ (by omega) hs hK
  by_cases c1' : decide ((((ga i : Nat) : Int)).tmod 4 < 2) = false
  · exact (Obl.goal mix (K := GP) (fun _ h => h) (cast (q_d2 ((fun v => v = AV.bool true)) lv off2 len2 cap2 ((p : Int)) ((i : Int)) (((ga i : Nat) : Int)) O O1 O2 O3 O4 N 0 G GP).symm ⟨decide_eq_true (by omega), decide_eq_true (by omega), e1, e2, e3, e4, ⟨by omega, by omega⟩, hact, c1', ⟨by omega, by omega⟩, hact, c2, fin⟩))
  · have c3 : decide ((((ga i : Nat) : Int)).tmod 4 < 2) = true := by simpa using c1'
    rcases c1 with c | ⟨cp, rfl⟩ | rfl | rfl
    · exact absurd c c1'
    · exact (Obl.goal mix (K := GP) (fun _ h => h) (cast (q_d1 ((fun v => v = AV.bool true)) off 0 cp off2 len2 cap2 ((p : Int)) ((i : Int)) (((ga i : Nat) : Int)) O O1 O2 O3 O4 N 0 G GP).symm ⟨decide_eq_true (by omega), decide_eq_true (by omega), e1, e2, e3, e4, ⟨by omega, by omega⟩, hact, c3, rfl, ⟨by omega, by omega⟩, hact, c2, fin⟩))
    · exact (Obl.goal mix (K := GP) (fun _ h => h) (cast (q_d1n ((fun v => v = AV.bool true)) off2 len2 cap2 ((p : Int)) ((i : Int)) (((ga i : Nat) : Int)) O O1 O2 O3 O4 N 0 G GP).symm ⟨decide_eq_true (by omega), decide_eq_true (by omega), e1, e2, e3, e4, ⟨by omega, by omega⟩, hact, c3, ⟨by omega, by omega⟩, hact, c2, fin⟩))
    · exact (Obl.goal mix (K := GP) (fun _ h => h) (cast (q_d1s ((fun v => v = AV.bool true)) off2 len2 cap2 ((p : Int)) ((i : Int)) (((ga i : Nat) : Int)) O O1 O2 O3 O4 N 0 G GP).symm ⟨decide_eq_true (by omega), decide_eq_true (by omega), e1, e2, e3, e4, ⟨by omega, by omega⟩, hact, c3, ⟨by omega, by omega⟩, hact, c2, fin⟩))

end Go.Proofs.Ytijkclfajopjkaa.qo
