/- QueuePlays: its ways. -/
import Derived.Test.YtijkclfajopjkaaQi
set_option maxRecDepth 100000
set_option linter.unusedVariables false
namespace Go.Proofs.Ytijkclfajopjkaa.qo
open Go Ev

variable {O0 : T AObj} {md : Nat → Md} {n off cap off2 len2 cap2 : Nat} {ga : Nat → Nat} {L : List Nat} {O : T AObj} {N p t ri i wp ap : Nat} {G : T (T AV)} {lv : AV}

/-- The requests that come in. -/
def HS (O0 : T AObj) (md : Nat → Md) (lv : AV) (off n cap : Nat) : Prop := lv = .slc 0 0 off n cap ∧ 0 < n ∧ n ≤ cap ∧ O0.get 0 = some (.ro (.fn fun j => some (mcell md (j - off))) off (off + cap * 5))
/-- The acts that come in. -/
def HA (O0 : T AObj) (ga : Nat → Nat) (off2 len2 cap2 : Nat) : Prop := len2 ≤ cap2 ∧ (∀ j, ga j ≤ 255) ∧ O0.get 1 = some (.ro (.fn fun j => some (.int .u8 ((ga (j - off2) : Nat) : Int))) off2 (off2 + cap2))

theorem tmod_nat (a b : Nat) : ((a : Int)).tmod (b : Int) = ((a % b : Nat) : Int) := by
  rw [Int.tmod_eq_emod_of_nonneg (by omega)]
  omega

theorem load_act (ha : HA O0 ga off2 len2 cap2) (h : O.get 1 = O0.get 1) (hi : i < len2) : loadCellsA ⟨O, N, G⟩ 1 0 (off2 + ((i : Int)).toNat * 1) 1 = some [.int .u8 ((ga i : Nat) : Int)] := by
  obtain ⟨h1, h2, h3⟩ := ha
  rw [Int.toNat_natCast, Nat.mul_one]
  refine ro_load (h.trans h3) (by omega) (by omega) ?_
  show some (AV.int .u8 ((ga (off2 + i - off2) : Nat) : Int)) = _
  rw [Nat.add_sub_cancel_left]

theorem load_made (hs : HS O0 md lv off n cap) (h : O.get 0 = O0.get 0) (k : Nat) : loadCellsA ⟨O, N, G⟩ 0 0 (off + (((k : Int)).tmod (n : Int)).toNat * 5) 5 = some (mrow (md (k % n))) := by
  obtain ⟨_, h1, h2, h3⟩ := hs
  rw [tmod_nat, Int.toNat_natCast]
  exact load_md (h.trans h3) (by have := Nat.mod_lt k h1; omega)

theorem ne_n (hs : HS O0 md lv off n cap) (k : Nat) : ((n : Int) ≠ 0) ∧ (0 ≤ ((k : Int)).tmod (n : Int) ∧ ((k : Int)).tmod (n : Int) < (n : Int)) := by
  obtain ⟨_, h1, h2, h3⟩ := hs
  rw [tmod_nat]
  have := Nat.mod_lt k h1
  omega

theorem Lv_nil {ri : Nat} : Lv 0 0 ri = .nils 0 0 := rfl
theorem Lv_slg {p t ri : Nat} (h : p ≠ 0) : Lv p t ri = .slg ri (p - 1) t (p - t) t := by unfold Lv; rw [if_neg h]

theorem wi (h : i < 1000) : IntKind.i64.wrap ((i : Int) + (1 : Int)) = ((i + 1 : Nat) : Int) := by rw [IntKind.wrap_i64]; omega

/-- Behind an act. -/
theorem w_tail (hi : i < 1000) (hp : p < 1000000000) (h : QI O0 md n L O N p t p t ri) {f : Nat → AV} (hw : Row O wp 5 f) (hwL : wp ∈ L) (w0 : wp ≠ 0 ∧ wp ≠ 1 ∧ wp ≠ 3 ∧ (p ≠ 0 → wp ≠ ri)) (hs : t < p → HS O0 md lv off n cap)
    (hK : ∀ (L : List Nat) (O : T AObj) (N : Nat), QI O0 md n L O N p t p t ri → GP (QL lv off2 len2 cap2 (p : Int) ((i + 1 : Nat) : Int) O N G)) : GP (QT lv off2 len2 cap2 wp (p : Int) (i : Int) O N G) := by
  have hwN := h.lt hwL
  have hq := h.1
  have htp := (hq.len (G := G)).1
  by_cases e : p = t
  · subst e
    obtain ⟨O1, O2, hT, hR, hk⟩ := take_none G h.1
    obtain ⟨l0, l1, l2, l3, l4⟩ := hT
    have h2 := h.rep hR hk
    obtain ⟨O3, O4, e1, e2, rB, hB⟩ := box5 (G := G) (O := O2) (M := N + 1) (v0 := .int .i64 0) (v1 := .str []) (v2 := .int .u64 0) (v3 := .str []) (v4 := .bool false) rfl
    have h4 : QI O0 md n L O4 (N + 2) p p p p ri := h2.garb (fun j hj => hB j (by omega)) (by omega) (fun j hj => ⟨.inl hj, by have := h2.lt hj; omega⟩) h2.2.1 (fun hp => (h2.2.2.1.2.2 hp).1)
    have hw4 : Row O4 wp 5 f := (hw.same (hk wp hwL)).same (hB wp (by omega))
    obtain ⟨O5, e5, r5, f5⟩ := hw4.store (N + 2) G (off := 0) (vs := zits) rfl (by decide)
    have h5 : QI O0 md n L O5 (N + 2) p p p p ri := h4.chg [wp] (fun j hj => by obtain rfl := List.mem_singleton.1 hj; exact ⟨hwL, w0⟩) (fun j hj hn => f5 j (fun e => hn (e ▸ List.mem_singleton_self _))) (Nat.le_refl _) (fun j hj => ⟨.inl hj, h4.lt hj⟩) h4.2.1 (fun hp => (h4.2.2.1.2.2 hp).1)
    have rB5 := rB.fr f5 (show N + 1 ≠ wp by omega)
    have r5' := r5.to (g := i5 zits) (upd_i5 (vs := zits))
    have hlen := (h5.1.len (G := G)).2
    rw [Nat.sub_self] at hlen
    by_cases e0 : p = 0
    · subst e0
      exact (Obl.goal mix (K := GP) (fun _ h => h) (cast (q_tln ((fun v => v = AV.bool true)) lv off2 len2 cap2 (((0 : Nat) : Int)) ((i : Int)) 0 O O1 O2 O3 O4 O5 N 0 wp G GP).symm ⟨l0, l1, l2, l3, l4, e1, e2, e5, h5.load3, h5.load3, rB5.load5 (by omega), r5'.load5 (by omega), h5.load3, hlen, trivial, rfl, h5.load3, rfl, by rw [wi hi]; exact hK L O5 _ h5⟩))
    · have hl3 : loadCellsA ⟨O5, N + 2, G⟩ 3 0 0 1 = some [.slg ri (p - 1) p 0 p] := by
        have := h5.load3 (G := G)
        rw [Lv_slg e0, Nat.sub_self] at this
        exact this
      exact (Obl.goal mix (K := GP) (fun _ h => h) (cast (q_tle ((fun v => v = AV.bool true)) lv off2 len2 cap2 ((p : Int)) ((i : Int)) 0 O O1 O2 O3 O4 O5 N ri (p - 1) p p wp G GP).symm ⟨l0, l1, l2, l3, l4, e1, e2, e5, hl3, hl3, rB5.load5 (by omega), r5'.load5 (by omega), hl3, hlen, trivial, rfl, hl3, rfl, by rw [wi hi]; exact hK L O5 _ h5⟩))
  · have hs := hs (by omega)
    obtain rfl := hs.1
    obtain ⟨fr, b, c1, c2, hld⟩ := first_rep h.1 (by omega)
    have ht0 : ((p - t : Nat) : Int) ≠ 0 := by omega
    obtain ⟨O1, O2, e1, e2, rA, hA⟩ := box5 (G := G) (O := O) (M := N) (v0 := .int .i64 (md (t % n)).1) (v1 := .str (md (t % n)).2.1) (v2 := .int .u64 (md (t % n)).2.2.2.1) (v3 := .str (md (t % n)).2.2.1) (v4 := .bool (md (t % n)).2.2.2.2) rfl
    have h1g : ∀ j, j < N → O1.get j = O.get j := fun j hj => by rw [← e1, T.get_set, if_neg (by omega)]
    obtain ⟨q1, q2, q3, q4⟩ := hld O1 (N + 1) G h1g
    obtain ⟨O3, O4, e3, e4, rB, hB⟩ := box5 (G := G) (O := O2) (M := N + 1) (v0 := .int .i64 (md (t % n)).1) (v1 := .str (md (t % n)).2.1) (v2 := .int .u64 (md (t % n)).2.2.2.1) (v3 := .str (md (t % n)).2.2.1) (v4 := .bool (md (t % n)).2.2.2.2) rfl
    have h4 : QI O0 md n L O4 (N + 2) p t p t ri := h.garb (fun j hj => (hB j (by omega)).trans (hA j (by omega))) (by omega) (fun j hj => ⟨.inl hj, by have := h.lt hj; omega⟩) h.2.1 (fun hp => (h.2.2.1.2.2 hp).1)
    have hw4 : Row O4 wp 5 f := (hw.same (hA wp (by omega))).same (hB wp (by omega))
    obtain ⟨O5, e5, r5, f5⟩ := hw4.store (N + 2) G (off := 0) (vs := zits) rfl (by decide)
    have h5 : QI O0 md n L O5 (N + 2) p t p t ri := h4.chg [wp] (fun j hj => by obtain rfl := List.mem_singleton.1 hj; exact ⟨hwL, w0⟩) (fun j hj hn => f5 j (fun e => hn (e ▸ List.mem_singleton_self _))) (Nat.le_refl _) (fun j hj => ⟨.inl hj, h4.lt hj⟩) h4.2.1 (fun hp => (h4.2.2.1.2.2 hp).1)
    obtain ⟨O6, e6, r6, f6⟩ := r5.store (N + 2) G (off := 0) (vs := irow (md (t % n))) rfl (by simp [irow])
    have h6 : QI O0 md n L O6 (N + 2) p t p t ri := h5.chg [wp] (fun j hj => by obtain rfl := List.mem_singleton.1 hj; exact ⟨hwL, w0⟩) (fun j hj hn => f6 j (fun e => hn (e ▸ List.mem_singleton_self _))) (Nat.le_refl _) (fun j hj => ⟨.inl hj, h5.lt hj⟩) h5.2.1 (fun hp => (h5.2.2.1.2.2 hp).1)
    have rB6 := (rB.fr f5 (show N + 1 ≠ wp by omega)).fr f6 (show N + 1 ≠ wp by omega)
    have r6' := r6.to (g := i5 (irow (md (t % n)))) (upd_i5 (vs := irow (md (t % n))))
    have hl5 := h5.load3 (G := G)
    have hl6 := h6.load3 (G := G)
    rw [Lv_slg (by omega)] at hl5 hl6
    have hlen := (h6.1.len (G := G)).2
    have hne := ne_n hs t
    exact (Obl.goal mix (K := GP) (fun _ h => h) (cast (q_tls ((fun v => v = AV.bool true)) off n cap off2 len2 cap2 ((p : Int)) ((i : Int)) 0 ((md (t % n)).1) ((md (t % n)).2.2.2.1) fr (((p - t : Nat) : Int)) ((t : Int)) O O1 O2 O3 O4 O5 O6 N b ri (p - 1) t (p - t) t wp ((md (t % n)).2.1) ((md (t % n)).2.2.1) ((md (t % n)).2.2.2.2) G GP).symm ⟨e1, q1, c1, q2, q3, c2, q4, e2, ⟨rA.load5 (by omega), trivial⟩, e3, e4, e5, hl5, c1, hl5, ⟨by omega, by omega⟩, grow_load (h5.2.2.1.2.2 (by omega)).2.2.2.2 (by omega), decide_eq_true (by omega), hne.1, hne.2, load_made hs h5.2.2.2.1 t, item_ok _, e6, hl6, by rw [decide_eq_true (show ((p - t : Nat) : Int) > 0 by omega)]; rfl, rB6.load5 (by omega), r6'.load5 (by omega), bin32 _ _ _, hl6, hlen, trivial, rfl, hl6, bne_self_eq_false _, by rw [wi hi]; exact hK L O6 _ h6⟩))

/-- What lies there behind the two new variables. -/
theorem QI.boxed (h : QI O0 md n L O N p t p t ri) {O4 : T AObj} (e : ∀ j, j < N → O4.get j = O.get j) : QI O0 md n (L ++ [N, N + 1]) O4 (N + 2) p t p t ri :=
  h.garb e (by omega) (fun j hj => by
    rcases List.mem_append.1 hj with a | a
    · exact ⟨.inl a, by have := h.lt a; omega⟩
    · simp only [List.mem_cons, List.not_mem_nil, or_false] at a
      exact ⟨.inr (by omega), by omega⟩) ⟨List.mem_append_left _ h.2.1.1, List.mem_append_left _ h.2.1.2.1, List.mem_append_left _ h.2.1.2.2⟩ (fun hp => List.mem_append_left _ (h.2.2.1.2.2 hp).1)

theorem new_ok (h : QI O0 md n L O N p t p t ri) : N ≠ 0 ∧ N ≠ 1 ∧ N ≠ 3 ∧ (p ≠ 0 → N ≠ ri) ∧ N + 1 ≠ 0 ∧ N + 1 ≠ 1 ∧ N + 1 ≠ 3 ∧ (p ≠ 0 → N + 1 ≠ ri) := by
  have h3 := h.lt h.2.1.2.2
  refine ⟨by omega, by omega, by omega, fun hp => ?_, by omega, by omega, by omega, fun hp => ?_⟩ <;>
    (have := h.lt (h.2.2.1.2.2 hp).1; omega)

/-- Those that ask for the first. -/
theorem w_m2 (hp : p < 1000000000) (h : QI O0 md n L O N p t p t ri) (ha : HA O0 ga off2 len2 cap2) (hi : i < len2) (h5 : i < 500) (c1 : decide ((((ga i : Nat) : Int)).tmod 4 < 2) = false) (c2 : ((((ga i : Nat) : Int)).tmod 4 == 2) = true)
    (hK : ∀ (L : List Nat) (O : T AObj) (N wp : Nat) (f : Nat → AV), QI O0 md n L O N p t p t ri → Row O wp 5 f → wp ∈ L → (wp ≠ 0 ∧ wp ≠ 1 ∧ wp ≠ 3 ∧ (p ≠ 0 → wp ≠ ri)) → GP (QT lv off2 len2 cap2 wp (p : Int) (i : Int) O N G)) : GP (QL lv off2 len2 cap2 (p : Int) (i : Int) O N G) := by
  obtain ⟨O1, O2, O3, O4, e1, e2, e3, e4, r4, r4', g4⟩ := boxes2 O N G
  have h4 := h.boxed g4
  obtain ⟨_, _, _, _, n1, n2, n3, n4⟩ := new_ok h
  have hact := load_act (N := N + 2) (G := G) ha h4.2.2.2.2 hi
  have htp := (h.1.len (G := G)).1
  have fin : ∀ (O7 : T AObj), (∀ j, j < N + 2 → j ≠ N → O7.get j = O4.get j) → GP (QT lv off2 len2 cap2 (N + 1) (p : Int) (i : Int) O7 (N + 4) G) := fun O7 hO =>
    hK (L ++ [N, N + 1]) O7 (N + 4) (N + 1) _ (h4.chg [N] (fun j hj => by
      obtain rfl := List.mem_singleton.1 hj
      obtain ⟨a1, a2, a3, a4, _⟩ := new_ok h
      exact ⟨by simp, a1, a2, a3, a4⟩) (fun j hj hn => hO j hj fun e => hn (e ▸ List.mem_singleton_self _)) (by omega) (fun j hj => ⟨.inl hj, by have := h4.lt hj; omega⟩) h4.2.1 (fun hp => (h4.2.2.1.2.2 hp).1)) (r4'.same (hO (N + 1) (by omega) (by omega))) (by simp) ⟨n1, n2, n3, n4⟩
  have hl4 := h4.load3 (G := G)
  by_cases e : p = t
  · subst e
    obtain ⟨O5, O6, O7, a1, a2, a3, a4, _, _, aK⟩ := atput r4 (show N < N + 2 by omega) (-1) G
    by_cases e0 : p = 0
    · subst e0
      exact (Obl.goal mix (K := GP) (fun _ h => h) (cast (q_mn ((fun v => v = AV.bool true)) lv off2 len2 cap2 (((0 : Nat) : Int)) ((i : Int)) (((ga i : Nat) : Int)) O O1 O2 O3 O4 O5 O6 O7 N 0 G GP).symm ⟨decide_eq_true (by omega), decide_eq_true (by omega), e1, e2, e3, e4, ⟨by omega, by omega⟩, hact, c1, ⟨by omega, by omega⟩, hact, c2, hl4, a1, a2, a3, a4, fin O7 aK⟩))
    · rw [Lv_slg e0, Nat.sub_self] at hl4
      exact (Obl.goal mix (K := GP) (fun _ h => h) (cast (q_me ((fun v => v = AV.bool true)) lv off2 len2 cap2 ((p : Int)) ((i : Int)) (((ga i : Nat) : Int)) O O1 O2 O3 O4 O5 O6 O7 N ri (p - 1) p p G GP).symm ⟨decide_eq_true (by omega), decide_eq_true (by omega), e1, e2, e3, e4, ⟨by omega, by omega⟩, hact, c1, ⟨by omega, by omega⟩, hact, c2, hl4, a1, a2, a3, a4, fin O7 aK⟩))
  · rw [Lv_slg (by omega)] at hl4
    obtain ⟨O5, O6, O7, a1, a2, a3, a4, _, _, aK⟩ := atput r4 (show N < N + 2 by omega) (t : Int) G
    exact (Obl.goal mix (K := GP) (fun _ h => h) (cast (q_ms ((fun v => v = AV.bool true)) lv off2 len2 cap2 ((p : Int)) ((i : Int)) (((ga i : Nat) : Int)) ((t : Int)) O O1 O2 O3 O4 O5 O6 O7 N ri (p - 1) t (p - t) t G GP).symm ⟨decide_eq_true (by omega), decide_eq_true (by omega), e1, e2, e3, e4, ⟨by omega, by omega⟩, hact, c1, ⟨by omega, by omega⟩, hact, c2, hl4, by rw [beq_eq_false_iff_ne]; omega, hl4, ⟨by omega, by omega⟩, grow_load (h4.2.2.1.2.2 (by omega)).2.2.2.2 (by omega), a1, a2, a3, a4, fin O7 aK⟩))

end Go.Proofs.Ytijkclfajopjkaa.qo
