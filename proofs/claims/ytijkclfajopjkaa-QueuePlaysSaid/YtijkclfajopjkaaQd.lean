/- A queue, told by what waits in it: Take. -/
import Derived.Test.YtijkclfajopjkaaQc
set_option maxRecDepth 100000
set_option linter.unusedVariables false
namespace Go.Proofs.Ytijkclfajopjkaa.qo
open Go Ev

variable {I : Nat → Nat → AV} {qi N p t : Nat} {X : Nat → Prop} {O : T AObj}

theorem take_none (G : T (T AV)) (hR : Rep I qi X O N p p) : (∃ (O1 O2 : T AObj), TE O N qi G 0 O1 O2 ∧ Rep I qi X O2 (N + 1) p p ∧ ∀ j, X j → O2.get j = O.get j) := by
  obtain ⟨hq, hqX, hX, hR⟩ := hR
  rcases hR with ⟨_, la, lb, fr, hr⟩ | ⟨htp, _⟩
  rotate_left
  · omega
  obtain ⟨O1, O2, l0, l1, l2, l3, l4, z0, z1⟩ := heap_te (G := G) hr hq rfl
  exact ⟨O1, O2, ⟨l0, l1, l2, l3, l4⟩, ⟨by omega, hqX, fun j hj => by have := hX j hj; omega, .inl ⟨rfl, la, lb, fr, z0⟩⟩, fun j hj => z1 j (by have := hX j hj; omega)⟩

theorem take_rep (G : T (T AV)) (hR : Rep I qi X O N p t) (hp : p < 1000000000) (htp : t < p) (hv : [I t 0, I t 1, I t 2, I t 3, I t 4].all AV.one = true) :
    (∃ (fr n : Int) (b : Nat) (O1 O2 O3 O4 O5 O6 O7 O8 O9 O10 O11 O12 O13 : T AObj), TA O N qi G fr n b (I t 0) (I t 1) (I t 2) (I t 3) (I t 4) O1 O2 O3 O4 O5 O6 O7 O8 O9 O10 O11 O12 O13 ∧ Rep I qi X O13 (N + 4) p (t + 1) ∧ ∀ j, X j → O13.get j = O.get j) ∨
    (∃ (fr n : Int) (b c : Nat) (O1 O2 O3 O4 O5 O6 O7 O8 O9 O10 O11 O12 O13 : T AObj), TB O N qi G fr n b c (I t 0) (I t 1) (I t 2) (I t 3) (I t 4) O1 O2 O3 O4 O5 O6 O7 O8 O9 O10 O11 O12 O13 ∧ Rep I qi X O13 (N + 4) p (t + 1) ∧ ∀ j, X j → O13.get j = O.get j) ∨
    (∃ (fr n : Int) (b : Nat) (O1 O2 O3 O4 O5 O6 O7 O8 O9 O10 O11 : T AObj), TC O N qi G fr n b (I t 0) (I t 1) (I t 2) (I t 3) (I t 4) O1 O2 O3 O4 O5 O6 O7 O8 O9 O10 O11 ∧ Rep I qi X O11 (N + 4) p (t + 1) ∧ ∀ j, X j → O11.get j = O.get j) := by
  obtain ⟨hq, hqX, hX, hR⟩ := hR
  rcases hR with ⟨rfl, _⟩ | ⟨_, fr, nb, ids, F, h16, hlo, hhi, hr, hb, hnx, hinj, hit⟩
  · omega
  have hn0 : (((p - t : Nat) : Int) == (0 : Int)) = false := by
    rw [beq_eq_false_iff_ne]
    omega
  have hw : IntKind.i64.wrap (((p - t : Nat) : Int) - (1 : Int)) = ((p - (t + 1) : Nat) : Int) := by rw [IntKind.wrap_i64]; omega
  have hwf : IntKind.i64.wrap ((fr : Int) + (1 : Int)) = ((fr + 1 : Nat) : Int) := by rw [IntKind.wrap_i64]; omega
  have hp1 : (0 : Int) ≤ (fr : Int) ∧ (fr : Int) < ((16 : Nat) : Int) := by omega
  obtain ⟨b1, b2, b3, b4⟩ := hb 0 (Nat.zero_le _)
  have hof : ∀ u, u < 5 → F 0 (0 + ((fr : Int)).toNat * 5 + u) = I t u := fun u hu => by
    have := hit 0 (by omega) u hu
    rw [show (fr + 0) / 16 = 0 by omega, show (fr + 0) % 16 * 5 + u = 0 + ((fr : Int)).toNat * 5 + u by omega] at this
    exact this
  have h5 : [F 0 (0 + ((fr : Int)).toNat * 5), F 0 (0 + ((fr : Int)).toNat * 5 + 1), F 0 (0 + ((fr : Int)).toNat * 5 + 2), F 0 (0 + ((fr : Int)).toNat * 5 + 3), F 0 (0 + ((fr : Int)).toNat * 5 + 4)] = [I t 0, I t 1, I t 2, I t 3, I t 4] := by
    rw [← hof 0 (by omega), ← hof 1 (by omega), ← hof 2 (by omega), ← hof 3 (by omega), ← hof 4 (by omega)]
    rfl
  by_cases hn1 : p = t + 1
  · have c2 : (IntKind.i64.wrap (((p - t : Nat) : Int) - (1 : Int)) == (0 : Int)) = true := by
      rw [hw, beq_iff_eq]
      omega
    obtain ⟨O1, O2, O3, O4, O5, O6, O7, O8, O9, O10, O11, O12, O13, l0, l1, l2, l3, l4, l5, l6, l7, l8, l9, l10, l11, l12, l13, l14, l15, l16, l17, l18, l19, l20, l21, l22, l23, l24, l25, l26, l27, l28, l29, z0, z1, z2⟩ := heap_ta (G := G) (la := .nilp) (c := 0) hv hr b4 hq b1 b2 h5 hn0 hp1 c2
    rw [hw, show ((p - (t + 1) : Nat) : Int) = 0 by omega] at z0
    refine .inl ⟨(fr : Int), ((p - t : Nat) : Int), ids 0, O1, O2, O3, O4, O5, O6, O7, O8, O9, O10, O11, O12, O13, ⟨l0, l1, l2, l3, l4, l5, l6, l7, l8, l9, l10, l11, l12, l13, l14, l15, l16, l17, l18, l19, l20, l21, l22, l23, l24, l25, l26, l27, l28, l29⟩, ⟨by omega, hqX, fun j hj => by have := hX j hj; omega, .inl ⟨hn1, _, _, _, z0⟩⟩, fun j hj => z2 j (by have := hX j hj; omega) (by have := hX j hj; omega) (by have := hX j hj; omega) (by have := hX j hj; omega) (fun h => b3 (h ▸ hj)) (fun h => hqX (h ▸ hj))⟩
  · have c2 : (IntKind.i64.wrap (((p - t : Nat) : Int) - (1 : Int)) == (0 : Int)) = false := by
      rw [hw, beq_eq_false_iff_ne]
      omega
    by_cases hf : fr = 15
    · have c3 : (IntKind.i64.wrap ((fr : Int) + (1 : Int)) == (16 : Int)) = true := by
        rw [hwf, beq_iff_eq]
        omega
      have hnb : 0 < nb := by omega
      obtain ⟨O1, O2, O3, O4, O5, O6, O7, O8, O9, O10, O11, O12, O13, l0, l1, l2, l3, l4, l5, l6, l7, l8, l9, l10, l11, l12, l13, l14, l15, l16, l17, l18, l19, l20, l21, l22, l23, l24, l25, l26, l27, l28, l29, l30, l31, l32, l33, z0, z1, z2⟩ := heap_tb (G := G) (la := .nilp) (c := ids 1) hv hr b4 hq b1 b2 h5 hn0 hp1 c2 c3 (hnx 0 hnb)
      rw [hw] at z0
      refine .inr (.inl ⟨(fr : Int), ((p - t : Nat) : Int), ids 0, ids 1, O1, O2, O3, O4, O5, O6, O7, O8, O9, O10, O11, O12, O13, ⟨l0, l1, l2, l3, l4, l5, l6, l7, l8, l9, l10, l11, l12, l13, l14, l15, l16, l17, l18, l19, l20, l21, l22, l23, l24, l25, l26, l27, l28, l29, l30, l31, l32, l33⟩, ⟨by omega, hqX, fun j hj => by have := hX j hj; omega, .inr ⟨by omega, 0, nb - 1, fun j => ids (j + 1), fun j => F (j + 1), by omega, by omega, by omega, ?_, fun j hj => ?_, fun j hj => hnx (j + 1) (by omega), fun i j hi hj h => ?_, fun m hm u hu => ?_⟩⟩, fun j hj => z2 j (by have := hX j hj; omega) (by have := hX j hj; omega) (by have := hX j hj; omega) (by have := hX j hj; omega) (fun h => b3 (h ▸ hj)) (fun h => hqX (h ▸ hj))⟩)
      · show Row _ qi 4 (q4 (.ptr (ids (0 + 1)) 0 0) (.ptr (ids (nb - 1 + 1)) 0 0) _ _)
        rw [show nb - 1 + 1 = nb by omega]
        exact z0
      · obtain ⟨g1, g2, g3, g4⟩ := hb (j + 1) (by omega)
        have ne0 : ids (j + 1) ≠ ids 0 := fun h => absurd (hinj _ _ (by omega) (Nat.zero_le _) h) (by omega)
        exact ⟨(by omega : ids (j + 1) < N + 4), g2, g3, g4.same (z2 (ids (j + 1)) (by omega) (by omega) (by omega) (by omega) ne0 g2)⟩
      · have := hinj (i + 1) (j + 1) (Nat.add_le_of_le_sub hnb hi) (Nat.add_le_of_le_sub hnb hj) h
        omega
      · have := hit (m + 1) (by omega) u hu
        show F ((0 + m) / 16 + 1) ((0 + m) % 16 * 5 + u) = _
        rw [show t + 1 + m = t + (m + 1) by omega, ← this, show (0 + m) / 16 + 1 = (fr + (m + 1)) / 16 by omega, show (0 + m) % 16 = (fr + (m + 1)) % 16 by omega]
    · have c3 : (IntKind.i64.wrap ((fr : Int) + (1 : Int)) == (16 : Int)) = false := by
        rw [hwf, beq_eq_false_iff_ne]
        omega
      obtain ⟨O1, O2, O3, O4, O5, O6, O7, O8, O9, O10, O11, l0, l1, l2, l3, l4, l5, l6, l7, l8, l9, l10, l11, l12, l13, l14, l15, l16, l17, l18, l19, l20, l21, l22, l23, l24, l25, l26, l27, l28, l29, z0, z1, z2⟩ := heap_tc (G := G) (la := .nilp) (c := 0) hv hr b4 hq b1 b2 h5 hn0 hp1 c2 c3
      rw [hw, hwf] at z0
      refine .inr (.inr ⟨(fr : Int), ((p - t : Nat) : Int), ids 0, O1, O2, O3, O4, O5, O6, O7, O8, O9, O10, O11, ⟨l0, l1, l2, l3, l4, l5, l6, l7, l8, l9, l10, l11, l12, l13, l14, l15, l16, l17, l18, l19, l20, l21, l22, l23, l24, l25, l26, l27, l28, l29⟩, ⟨by omega, hqX, fun j hj => by have := hX j hj; omega, .inr ⟨by omega, fr + 1, nb, ids, fun j => if j = 0 then upd (F 0) (0 + ((fr : Int)).toNat * 5) zits else F j, by omega, by omega, by omega, z0, fun j hj => ?_, fun j hj => ?_, hinj, fun m hm u hu => ?_⟩⟩, fun j hj => z2 j (by have := hX j hj; omega) (by have := hX j hj; omega) (by have := hX j hj; omega) (by have := hX j hj; omega) (fun h => b3 (h ▸ hj)) (fun h => hqX (h ▸ hj))⟩)
      · obtain ⟨g1, g2, g3, g4⟩ := hb j hj
        refine ⟨by omega, g2, g3, ?_⟩
        by_cases e2 : j = 0
        · subst e2
          simp only [if_true]
          exact z1
        · simp only [if_neg e2]
          have ne0 : ids j ≠ ids 0 := fun h => e2 (hinj _ _ hj (Nat.zero_le _) h)
          exact g4.same (z2 (ids j) (by omega) (by omega) (by omega) (by omega) ne0 g2)
      · by_cases e2 : j = 0
        · subst e2
          simp only [if_true]
          refine (upd_out (.inr ?_)).trans (hnx 0 hj)
          show _ + 5 ≤ _
          omega
        · simp only [if_neg e2]
          exact hnx j hj
      · have := hit (m + 1) (by omega) u hu
        rw [show t + 1 + m = t + (m + 1) by omega, ← this, show fr + 1 + m = fr + (m + 1) by omega]
        by_cases e2 : (fr + (m + 1)) / 16 = 0
        · simp only [e2, if_true]
          refine upd_out (.inr ?_)
          show _ + 5 ≤ _
          omega
        · simp only [if_neg e2]

end Go.Proofs.Ytijkclfajopjkaa.qo
