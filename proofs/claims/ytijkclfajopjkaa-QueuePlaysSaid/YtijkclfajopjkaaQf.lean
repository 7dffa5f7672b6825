/- QueueOrder's loops. -/
import Derived.Test.YtijkclfajopjkaaQe
import Derived.Test.YtijkclfajopjkaaChecked
set_option maxRecDepth 100000
set_option linter.unusedVariables false
namespace Go.Proofs.Ytijkclfajopjkaa.qo
open Go Ev

theorem mix : P.follows .mixedOrders = true := Checked.mixed Try.checked
noncomputable abbrev GG (m : AM) : Prop := Goal P 0 4 (fun v _ => v = AV.bool true) m

def itm (m u : Nat) : AV := [AV.int .i64 (m : Int), .str [], .int .u64 (IntKind.u64.wrap (m : Int)), .str [], .bool false].getD u undefA

theorem Rep.mono {I : Nat → Nat → AV} {qi N N' p t : Nat} {X : Nat → Prop} {O O' : T AObj} (h : Rep I qi X O N p t) (e : ∀ j, j < N → O'.get j = O.get j) (hN : N ≤ N') : Rep I qi X O' N' p t := by
  obtain ⟨h1, h2, h3, h4⟩ := h
  refine ⟨by omega, h2, fun j hj => by have := h3 j hj; omega, ?_⟩
  rcases h4 with ⟨rfl, la, lb, fr, hr⟩ | ⟨htp, fr, nb, ids, F, g1, g2, g3, g4, g5, g6, g7, g8⟩
  · exact .inl ⟨rfl, la, lb, fr, hr.same (e _ h1)⟩
  · refine .inr ⟨htp, fr, nb, ids, F, g1, g2, g3, g4.same (e _ h1), fun j hj => ?_, g6, g7, g8⟩
    obtain ⟨k1, k2, k3, k4⟩ := g5 j hj
    exact ⟨by omega, k2, k3, k4.same (e _ k1)⟩

theorem Rep.len {I : Nat → Nat → AV} {qi N p t : Nat} {X : Nat → Prop} {O : T AObj} {G : T (T AV)} (h : Rep I qi X O N p t) : t ≤ p ∧ loadCellsA ⟨O, N, G⟩ qi 0 3 1 = some [.int .i64 ((p - t : Nat) : Int)] := by
  obtain ⟨h1, h2, h3, h4⟩ := h
  rcases h4 with ⟨rfl, la, lb, fr, hr⟩ | ⟨htp, fr, nb, ids, F, g1, g2, g3, g4, g5, g6, g7, g8⟩
  · refine ⟨Nat.le_refl _, (hr.load1 (by omega)).trans ?_⟩
    rw [Nat.sub_self]
    rfl
  · exact ⟨by omega, g4.load1 (by omega)⟩

theorem box5 {O : T AObj} {M : Nat} {G : T (T AV)} {v0 v1 v2 v3 v4 : AV} (hv : [v0, v1, v2, v3, v4].all AV.one = true) :
    ∃ Oa Ob, T.set (some (.cells (.node (.node (.node .leaf (some (.str [])) .leaf) (some (.str [])) .leaf) (some (.int .i64 0)) (.node (.node .leaf (some (.bool false)) .leaf) (some (.int .u64 0)) .leaf)) 5 32 0 0 1 0 false .leaf)) O M = Oa ∧
      storeCellsA ⟨Oa, M + 1, G⟩ M 0 0 [v0, v1, v2, v3, v4] = some ⟨Ob, M + 1, G⟩ ∧ Row Ob M 5 (i5 [v0, v1, v2, v3, v4]) ∧ ∀ j, j ≠ M → Ob.get j = O.get j := by
  obtain ⟨Oa, e1, r1, f1⟩ := Row.mk (n := 5) (f := i5 zits) (c := (.node (.node (.node .leaf (some (.str [])) .leaf) (some (.str [])) .leaf) (some (.int .i64 0)) (.node (.node .leaf (some (.bool false)) .leaf) (some (.int .u64 0)) .leaf))) (el := 32) O M (fun k hk => by rcases k with _ | _ | _ | _ | _ | k <;> first | rfl | omega)
  obtain ⟨Ob, e2, r2, f2⟩ := r1.store (M + 1) G (off := 0) (vs := [v0, v1, v2, v3, v4]) hv (by show 0 + 5 ≤ 5; omega)
  exact ⟨Oa, Ob, e1, e2, r2.to (g := i5 [v0, v1, v2, v3, v4]) (upd_i5 (vs := [v0, v1, v2, v3, v4])), fun j hj => (f2 j hj).trans (f1 j hj)⟩

variable {G : T (T AV)} {off cap : Nat} {g : Nat → Nat}

/-- What is there at a loop's head. -/
def Q (off cap : Nat) (g : Nat → Nat) (O : T AObj) (N p t : Nat) : Prop :=
  Rep itm 1 (fun j => j = 0) O N p t ∧ O.get 0 = some (.ro (.fn fun j => some (.int .u8 ((g (j - off) : Nat) : Int))) off (off + cap * 2))

theorem inl {O : T AObj} {N : Nat} (h : O.get 0 = some (.ro (.fn fun j => some (.int .u8 ((g (j - off) : Nat) : Int))) off (off + cap * 2))) {i u : Nat} (hi : i < cap) (hu : u < 2) : loadCellsA ⟨O, N, G⟩ 0 0 (off + i * 2 + u) 1 = some [.int .u8 ((g (i * 2 + u) : Nat) : Int)] := by
  refine ro_load h (by omega) (by omega) ?_
  show some (AV.int .u8 ((g (off + i * 2 + u - off) : Nat) : Int)) = _
  rw [show off + i * 2 + u - off = i * 2 + u by omega]

theorem works_ok : Goal P 0 14 (fun x _ => x = AV.bool true) (startM P 14 [] G) := Goal.ofRun mix (n := 20000) (by kernel_rfl) fun _ => rfl

theorem end_ok {O : T AObj} {N p : Nat} (hR : Rep itm 1 (fun j => j = 0) O N p p) : GG (L3 (p : Int) (p : Int) O N G) := by
  obtain ⟨O1, O2, hT, hQ, hk⟩ := take_none G hR
  obtain ⟨l0, l1, l2, l3, l4⟩ := hT
  obtain ⟨O3, O4, e1, e2, rB, hB⟩ := box5 (G := G) (O := O2) (M := N + 1) (v0 := .int .i64 0) (v1 := .str []) (v2 := .int .u64 0) (v3 := .str []) (v4 := .bool false) rfl
  have hQ2 := hQ.mono (O' := O4) (N' := N + 2) (fun j hj => hB j (by omega)) (by omega)
  have hl := (hQ2.len (G := G)).2
  rw [Nat.sub_self] at hl
  exact (Obl.goal mix (K := GG) (fun _ h => h) (cast (en ((fun v => v = AV.bool true)) ((p : Int)) ((p : Int)) 0 0 O O1 O2 O3 O4 N G GG).symm ⟨decide_eq_false (by omega), l0, l1, l2, l3, l4, e1, e2, hl, rfl, works_ok, rfl⟩))

theorem l3 {p : Nat} : ∀ (r t N : Nat) (O : T AObj), p = t + r → p < 1000000000 → Rep itm 1 (fun j => j = 0) O N p t → GG (L3 (p : Int) (t : Int) O N G) := by
  intro r
  induction r with
  | zero =>
    intro t N O hr hp hR
    obtain rfl : p = t := by omega
    exact end_ok hR
  | succ r ih =>
    intro t N O hr hp hR
    have wt : IntKind.i64.wrap ((t : Int) + (1 : Int)) = ((t + 1 : Nat) : Int) := by rw [IntKind.wrap_i64]; omega
    rcases take_rep G hR hp (by omega) rfl with ⟨fr, n, b, O1, O2, O3, O4, O5, O6, O7, O8, O9, O10, O11, O12, O13, hT, hQ, hk⟩ | ⟨fr, n, b, c, O1, O2, O3, O4, O5, O6, O7, O8, O9, O10, O11, O12, O13, hT, hQ, hk⟩ | ⟨fr, n, b, O1, O2, O3, O4, O5, O6, O7, O8, O9, O10, O11, hT, hQ, hk⟩
    · obtain ⟨l0, l1, l2, l3, l4, l5, l6, l7, l8, l9, l10, l11, l12, l13, l14, l15, l16, l17, l18, l19, l20, l21, l22, l23, l24, l25, l26, l27, l28, l29⟩ := hT
      obtain ⟨O14, O15, e1, e2, rB, hB⟩ := box5 (G := G) (O := O13) (M := N + 4) (v0 := .int .i64 (t : Int)) (v1 := .str []) (v2 := .int .u64 (IntKind.u64.wrap (t : Int))) (v3 := .str []) (v4 := .bool false) rfl
      exact (Obl.goal mix (K := GG) (fun _ h => h) (cast (da ((fun v => v = AV.bool true)) ((p : Int)) ((t : Int)) fr n ((t : Int)) ((IntKind.u64.wrap (t : Int))) O O1 O2 O3 O4 O5 O6 O7 O8 O9 O10 O11 O12 O13 O14 O15 N b G GG).symm ⟨decide_eq_true (show (t : Int) < (p : Int) by omega), l0, l1, l2, l3, l4, l5, l6, l7, l8, l9, l10, l11, l12, l13, l14, l15, l16, l17, l18, l19, l20, l21, l22, l23, l24, l25, l26, l27, l28, l29, e1, e2, rfl, rB.load1 (by omega), bne_self_eq_false _, by rw [wt]; exact ih (t + 1) _ _ (by omega) (by omega) (hQ.mono (fun j hj => hB j (by omega)) (by omega))⟩))
    · obtain ⟨l0, l1, l2, l3, l4, l5, l6, l7, l8, l9, l10, l11, l12, l13, l14, l15, l16, l17, l18, l19, l20, l21, l22, l23, l24, l25, l26, l27, l28, l29, l30, l31, l32, l33⟩ := hT
      obtain ⟨O14, O15, e1, e2, rB, hB⟩ := box5 (G := G) (O := O13) (M := N + 4) (v0 := .int .i64 (t : Int)) (v1 := .str []) (v2 := .int .u64 (IntKind.u64.wrap (t : Int))) (v3 := .str []) (v4 := .bool false) rfl
      exact (Obl.goal mix (K := GG) (fun _ h => h) (cast (db ((fun v => v = AV.bool true)) ((p : Int)) ((t : Int)) fr n ((t : Int)) ((IntKind.u64.wrap (t : Int))) O O1 O2 O3 O4 O5 O6 O7 O8 O9 O10 O11 O12 O13 O14 O15 N b c G GG).symm ⟨decide_eq_true (show (t : Int) < (p : Int) by omega), l0, l1, l2, l3, l4, l5, l6, l7, l8, l9, l10, l11, l12, l13, l14, l15, l16, l17, l18, l19, l20, l21, l22, l23, l24, l25, l26, l27, l28, l29, l30, l31, l32, l33, e1, e2, rfl, rB.load1 (by omega), bne_self_eq_false _, by rw [wt]; exact ih (t + 1) _ _ (by omega) (by omega) (hQ.mono (fun j hj => hB j (by omega)) (by omega))⟩))
    · obtain ⟨l0, l1, l2, l3, l4, l5, l6, l7, l8, l9, l10, l11, l12, l13, l14, l15, l16, l17, l18, l19, l20, l21, l22, l23, l24, l25, l26, l27, l28, l29⟩ := hT
      obtain ⟨O12, O13, e1, e2, rB, hB⟩ := box5 (G := G) (O := O11) (M := N + 4) (v0 := .int .i64 (t : Int)) (v1 := .str []) (v2 := .int .u64 (IntKind.u64.wrap (t : Int))) (v3 := .str []) (v4 := .bool false) rfl
      exact (Obl.goal mix (K := GG) (fun _ h => h) (cast (dc ((fun v => v = AV.bool true)) ((p : Int)) ((t : Int)) fr n ((t : Int)) ((IntKind.u64.wrap (t : Int))) O O1 O2 O3 O4 O5 O6 O7 O8 O9 O10 O11 O12 O13 N b G GG).symm ⟨decide_eq_true (show (t : Int) < (p : Int) by omega), l0, l1, l2, l3, l4, l5, l6, l7, l8, l9, l10, l11, l12, l13, l14, l15, l16, l17, l18, l19, l20, l21, l22, l23, l24, l25, l26, l27, l28, l29, e1, e2, rfl, rB.load1 (by omega), bne_self_eq_false _, by rw [wt]; exact ih (t + 1) _ _ (by omega) (by omega) (hQ.mono (fun j hj => hB j (by omega)) (by omega))⟩))

theorem l2 {i len p : Nat} (hi : i < len) (h60 : i < 60) (hc : len ≤ cap) {x : Nat} (hx : g (i * 2 + 1) = x) (hx2 : x ≤ 255) : ∀ (r k t N : Nat) (O : T AObj), x = k + r → p < 1000000000 → Q off cap g O N p t → (∀ (t N : Nat) (O : T AObj), Q off cap g O N p t → GG (L0 off len cap (p : Int) (t : Int) ((i + 1 : Nat) : Int) O N G)) →
    GG (L2 off len cap (p : Int) (t : Int) (i : Int) (k : Int) O N G) := by
  intro r
  have wx : IntKind.i64.wrap ((x : Nat) : Int) = (x : Int) := by rw [IntKind.wrap_i64]; omega
  induction r with
  | zero =>
    intro k t N O hr hp hQ hL0
    obtain ⟨hR, hro⟩ := hQ
    have hl := inl (G := G) (N := N) hro (i := i) (u := 1) (by omega) (by omega)
    rw [hx] at hl
    obtain ⟨htp, hn⟩ := hR.len (G := G)
    have wi : IntKind.i64.wrap ((i : Int) + (1 : Int)) = ((i + 1 : Nat) : Int) := by rw [IntKind.wrap_i64]; omega
    have wn : IntKind.i64.wrap ((p : Int) - (t : Int)) = ((p - t : Nat) : Int) := by rw [IntKind.wrap_i64]; omega
    exact (Obl.goal mix (K := GG) (fun _ h => h) (cast (l2n ((fun v => v = AV.bool true)) off len cap ((p : Int)) ((t : Int)) ((i : Int)) ((k : Int)) (((x : Nat) : Int)) (((p - t : Nat) : Int)) O N G GG).symm ⟨⟨by omega, by omega⟩, hl, decide_eq_false (by rw [wx]; omega), hn, by rw [wn]; exact bne_self_eq_false _, by rw [wi]; exact hL0 t N O ⟨hR, hro⟩⟩))
  | succ r ih =>
    intro k t N O hr hp hQ hL0
    obtain ⟨hR, hro⟩ := hQ
    have hl := inl (G := G) (N := N) hro (i := i) (u := 1) (by omega) (by omega)
    rw [hx] at hl
    obtain ⟨htp, hn⟩ := hR.len (G := G)
    have wt : IntKind.i64.wrap ((t : Int) + (1 : Int)) = ((t + 1 : Nat) : Int) := by rw [IntKind.wrap_i64]; omega
    have wk : IntKind.i64.wrap ((k : Int) + (1 : Int)) = ((k + 1 : Nat) : Int) := by rw [IntKind.wrap_i64]; omega
    by_cases h0 : p = t
    · subst h0
      obtain ⟨O1, O2, hT, hQ, hk⟩ := take_none G hR
      obtain ⟨l0, l1, l2, l3, l4⟩ := hT
      obtain ⟨O3, O4, e1, e2, rB, hB⟩ := box5 (G := G) (O := O2) (M := N + 1) (v0 := .int .i64 0) (v1 := .str []) (v2 := .int .u64 0) (v3 := .str []) (v4 := .bool false) rfl
      exact (Obl.goal mix (K := GG) (fun _ h => h) (cast (te ((fun v => v = AV.bool true)) off len cap ((p : Int)) ((p : Int)) ((i : Int)) ((k : Int)) (((x : Nat) : Int)) 0 O O1 O2 O3 O4 N G GG).symm ⟨⟨by omega, by omega⟩, hl, decide_eq_true (by rw [wx]; omega), l0, l1, l2, l3, l4, e1, e2, by rw [decide_eq_false (show ¬ (p : Int) < (p : Int) by omega)]; rfl, by rw [wk]; exact ih (k + 1) p _ _ (by omega) hp ⟨hQ.mono (fun j hj => hB j (by omega)) (by omega), by rw [hB 0 (by omega), hk 0 rfl]; exact hro⟩ hL0⟩))
    rcases take_rep G hR hp (by omega) rfl with ⟨fr, n, b, O1, O2, O3, O4, O5, O6, O7, O8, O9, O10, O11, O12, O13, hT, hQ, hk⟩ | ⟨fr, n, b, c, O1, O2, O3, O4, O5, O6, O7, O8, O9, O10, O11, O12, O13, hT, hQ, hk⟩ | ⟨fr, n, b, O1, O2, O3, O4, O5, O6, O7, O8, O9, O10, O11, hT, hQ, hk⟩
    · obtain ⟨l0, l1, l2, l3, l4, l5, l6, l7, l8, l9, l10, l11, l12, l13, l14, l15, l16, l17, l18, l19, l20, l21, l22, l23, l24, l25, l26, l27, l28, l29⟩ := hT
      obtain ⟨O14, O15, e1, e2, rB, hB⟩ := box5 (G := G) (O := O13) (M := N + 4) (v0 := .int .i64 (t : Int)) (v1 := .str []) (v2 := .int .u64 (IntKind.u64.wrap (t : Int))) (v3 := .str []) (v4 := .bool false) rfl
      exact (Obl.goal mix (K := GG) (fun _ h => h) (cast (ta ((fun v => v = AV.bool true)) off len cap ((p : Int)) ((t : Int)) ((i : Int)) ((k : Int)) (((x : Nat) : Int)) fr n ((t : Int)) ((IntKind.u64.wrap (t : Int))) O O1 O2 O3 O4 O5 O6 O7 O8 O9 O10 O11 O12 O13 O14 O15 N b G GG).symm ⟨⟨by omega, by omega⟩, hl, decide_eq_true (by rw [wx]; omega), l0, l1, l2, l3, l4, l5, l6, l7, l8, l9, l10, l11, l12, l13, l14, l15, l16, l17, l18, l19, l20, l21, l22, l23, l24, l25, l26, l27, l28, l29, e1, e2, by rw [decide_eq_true (show (t : Int) < (p : Int) by omega)]; rfl, rB.load1 (by omega), bne_self_eq_false _, rB.load1 (by omega), bne_self_eq_false _, by rw [wt, wk]; exact ih (k + 1) (t + 1) _ _ (by omega) (by omega) ⟨hQ.mono (fun j hj => hB j (by omega)) (by omega), by rw [hB 0 (by omega), hk 0 rfl]; exact hro⟩ hL0⟩))
    · obtain ⟨l0, l1, l2, l3, l4, l5, l6, l7, l8, l9, l10, l11, l12, l13, l14, l15, l16, l17, l18, l19, l20, l21, l22, l23, l24, l25, l26, l27, l28, l29, l30, l31, l32, l33⟩ := hT
      obtain ⟨O14, O15, e1, e2, rB, hB⟩ := box5 (G := G) (O := O13) (M := N + 4) (v0 := .int .i64 (t : Int)) (v1 := .str []) (v2 := .int .u64 (IntKind.u64.wrap (t : Int))) (v3 := .str []) (v4 := .bool false) rfl
      exact (Obl.goal mix (K := GG) (fun _ h => h) (cast (tb ((fun v => v = AV.bool true)) off len cap ((p : Int)) ((t : Int)) ((i : Int)) ((k : Int)) (((x : Nat) : Int)) fr n ((t : Int)) ((IntKind.u64.wrap (t : Int))) O O1 O2 O3 O4 O5 O6 O7 O8 O9 O10 O11 O12 O13 O14 O15 N b c G GG).symm ⟨⟨by omega, by omega⟩, hl, decide_eq_true (by rw [wx]; omega), l0, l1, l2, l3, l4, l5, l6, l7, l8, l9, l10, l11, l12, l13, l14, l15, l16, l17, l18, l19, l20, l21, l22, l23, l24, l25, l26, l27, l28, l29, l30, l31, l32, l33, e1, e2, by rw [decide_eq_true (show (t : Int) < (p : Int) by omega)]; rfl, rB.load1 (by omega), bne_self_eq_false _, rB.load1 (by omega), bne_self_eq_false _, by rw [wt, wk]; exact ih (k + 1) (t + 1) _ _ (by omega) (by omega) ⟨hQ.mono (fun j hj => hB j (by omega)) (by omega), by rw [hB 0 (by omega), hk 0 rfl]; exact hro⟩ hL0⟩))
    · obtain ⟨l0, l1, l2, l3, l4, l5, l6, l7, l8, l9, l10, l11, l12, l13, l14, l15, l16, l17, l18, l19, l20, l21, l22, l23, l24, l25, l26, l27, l28, l29⟩ := hT
      obtain ⟨O12, O13, e1, e2, rB, hB⟩ := box5 (G := G) (O := O11) (M := N + 4) (v0 := .int .i64 (t : Int)) (v1 := .str []) (v2 := .int .u64 (IntKind.u64.wrap (t : Int))) (v3 := .str []) (v4 := .bool false) rfl
      exact (Obl.goal mix (K := GG) (fun _ h => h) (cast (tc ((fun v => v = AV.bool true)) off len cap ((p : Int)) ((t : Int)) ((i : Int)) ((k : Int)) (((x : Nat) : Int)) fr n ((t : Int)) ((IntKind.u64.wrap (t : Int))) O O1 O2 O3 O4 O5 O6 O7 O8 O9 O10 O11 O12 O13 N b G GG).symm ⟨⟨by omega, by omega⟩, hl, decide_eq_true (by rw [wx]; omega), l0, l1, l2, l3, l4, l5, l6, l7, l8, l9, l10, l11, l12, l13, l14, l15, l16, l17, l18, l19, l20, l21, l22, l23, l24, l25, l26, l27, l28, l29, e1, e2, by rw [decide_eq_true (show (t : Int) < (p : Int) by omega)]; rfl, rB.load1 (by omega), bne_self_eq_false _, rB.load1 (by omega), bne_self_eq_false _, by rw [wt, wk]; exact ih (k + 1) (t + 1) _ _ (by omega) (by omega) ⟨hQ.mono (fun j hj => hB j (by omega)) (by omega), by rw [hB 0 (by omega), hk 0 rfl]; exact hro⟩ hL0⟩))

theorem l1 {i len t : Nat} (hi : i < len) (hc : len ≤ cap) {x : Nat} (hx : g (i * 2 + 0) = x) (hx2 : x ≤ 255) : ∀ (r k p N : Nat) (O : T AObj), x = k + r → p + r < 1000000000 → Q off cap g O N p t → (∀ (q N : Nat) (O : T AObj), q ≤ p + r → Q off cap g O N q t → GG (L2 off len cap (q : Int) (t : Int) (i : Int) 0 O N G)) →
    GG (L1 off len cap (p : Int) (t : Int) (i : Int) (k : Int) O N G) := by
  intro r
  have wx : IntKind.i64.wrap ((x : Nat) : Int) = (x : Int) := by rw [IntKind.wrap_i64]; omega
  induction r with
  | zero =>
    intro k p N O hr hp hQ hL2
    obtain ⟨hR, hro⟩ := hQ
    have hl := inl (G := G) (N := N) hro (i := i) (u := 0) (by omega) (by omega)
    rw [hx] at hl
    exact (Obl.goal mix (K := GG) (fun _ h => h) (cast (l1n ((fun v => v = AV.bool true)) off len cap ((p : Int)) ((t : Int)) ((i : Int)) ((k : Int)) (((x : Nat) : Int)) O N G GG).symm ⟨⟨by omega, by omega⟩, hl, decide_eq_false (by rw [wx]; omega), hL2 p N O (Nat.le_refl _) ⟨hR, hro⟩⟩))
  | succ r ih =>
    intro k p N O hr hp hQ hL2'
    obtain ⟨hR, hro⟩ := hQ
    have hl := inl (G := G) (N := N) hro (i := i) (u := 0) (by omega) (by omega)
    rw [hx] at hl
    have wp : IntKind.i64.wrap ((p : Int) + (1 : Int)) = ((p + 1 : Nat) : Int) := by rw [IntKind.wrap_i64]; omega
    have wk : IntKind.i64.wrap ((k : Int) + (1 : Int)) = ((k + 1 : Nat) : Int) := by rw [IntKind.wrap_i64]; omega
    have hL2 : ∀ (q N : Nat) (O : T AObj), q ≤ p + 1 + r → Q off cap g O N q t → GG (L2 off len cap (q : Int) (t : Int) (i : Int) 0 O N G) := fun q N O h => hL2' q N O (by omega)
    rcases put_rep (v0 := .int .i64 (p : Int)) (v1 := .str []) (v2 := .int .u64 (IntKind.u64.wrap (p : Int))) (v3 := .str []) (v4 := .bool false) rfl (fun u _ => rfl) G hR (by omega) with ⟨fr, n, O1, O2, O3, O4, O5, O6, O7, hT, hQ, hk⟩ | ⟨fr, n, b, O1, O2, O3, O4, O5, O6, hT, hQ, hk⟩ | ⟨fr, n, b, O1, O2, O3, hT, hQ, hk⟩
    · obtain ⟨l0, l1, l2, l3, l4, l5, l6, l7, l8, l9, l10, l11, l12, l13, l14⟩ := hT
      exact (Obl.goal mix (K := GG) (fun _ h => h) (cast (pa ((fun v => v = AV.bool true)) off len cap ((p : Int)) ((t : Int)) ((i : Int)) ((k : Int)) (((x : Nat) : Int)) fr n O O1 O2 O3 O4 O5 O6 O7 N G GG).symm ⟨⟨by omega, by omega⟩, hl, decide_eq_true (by rw [wx]; omega), l0, l1, l2, l3, l4, l5, l6, l7, l8, l9, l10, l11, l12, l13, l14, by rw [wp, wk]; exact ih (k + 1) (p + 1) _ _ (by omega) (by omega) ⟨hQ, by rw [hk 0 rfl]; exact hro⟩ hL2⟩))
    · obtain ⟨l0, l1, l2, l3, l4, l5, l6, l7, l8, l9, l10, l11, l12, l13, l14, l15, l16, l17⟩ := hT
      exact (Obl.goal mix (K := GG) (fun _ h => h) (cast (pb ((fun v => v = AV.bool true)) off len cap ((p : Int)) ((t : Int)) ((i : Int)) ((k : Int)) (((x : Nat) : Int)) fr n O O1 O2 O3 O4 O5 O6 N b G GG).symm ⟨⟨by omega, by omega⟩, hl, decide_eq_true (by rw [wx]; omega), l0, l1, l2, l3, l4, l5, l6, l7, l8, l9, l10, l11, l12, l13, l14, l15, l16, l17, by rw [wp, wk]; exact ih (k + 1) (p + 1) _ _ (by omega) (by omega) ⟨hQ, by rw [hk 0 rfl]; exact hro⟩ hL2⟩))
    · obtain ⟨l0, l1, l2, l3, l4, l5, l6, l7, l8, l9, l10, l11⟩ := hT
      exact (Obl.goal mix (K := GG) (fun _ h => h) (cast (pc ((fun v => v = AV.bool true)) off len cap ((p : Int)) ((t : Int)) ((i : Int)) ((k : Int)) (((x : Nat) : Int)) fr n O O1 O2 O3 N b G GG).symm ⟨⟨by omega, by omega⟩, hl, decide_eq_true (by rw [wx]; omega), l0, l1, l2, l3, l4, l5, l6, l7, l8, l9, l10, l11, by rw [wp, wk]; exact ih (k + 1) (p + 1) _ _ (by omega) (by omega) ⟨hQ, by rw [hk 0 rfl]; exact hro⟩ hL2⟩))

theorem l0 {len : Nat} (hc : len ≤ cap) (hg : ∀ j, g j ≤ 255) : ∀ (r i p t N : Nat) (O : T AObj), 60 = i + r → p + r * 255 < 1000000000 → Q off cap g O N p t → GG (L0 off len cap (p : Int) (t : Int) (i : Int) O N G) := by
  intro r
  induction r with
  | zero =>
    intro i p t N O hr hp hQ
    by_cases hi : i < len
    · exact (Obl.goal mix (K := GG) (fun _ h => h) (cast (l0c ((fun v => v = AV.bool true)) off len cap ((p : Int)) ((t : Int)) ((i : Int)) O N G GG).symm ⟨decide_eq_true (by omega), decide_eq_false (by omega), l3 (p - t) t N O (by have := (hQ.1.len (G := G)).1; omega) (by omega) hQ.1⟩))
    · exact (Obl.goal mix (K := GG) (fun _ h => h) (cast (l0b ((fun v => v = AV.bool true)) off len cap ((p : Int)) ((t : Int)) ((i : Int)) O N G GG).symm ⟨decide_eq_false (by omega), l3 (p - t) t N O (by have := (hQ.1.len (G := G)).1; omega) (by omega) hQ.1⟩))
  | succ r ih =>
    intro i p t N O hr hp hQ
    by_cases hi : i < len
    · exact (Obl.goal mix (K := GG) (fun _ h => h) (cast (l0a ((fun v => v = AV.bool true)) off len cap ((p : Int)) ((t : Int)) ((i : Int)) O N G GG).symm ⟨decide_eq_true (by omega), decide_eq_true (by omega), l1 hi hc rfl (hg _) (g (i * 2 + 0)) 0 p N O (by omega) (by have := hg (i * 2 + 0); omega) hQ fun q N O hq hQ => l2 hi (by omega) hc rfl (hg _) (g (i * 2 + 1)) 0 t N O (by omega) (by have := hg (i * 2 + 0); omega) hQ fun t N O hQ => ih (i + 1) q t N O (by omega) (by have := hg (i * 2 + 0); omega) hQ⟩))
    · exact (Obl.goal mix (K := GG) (fun _ h => h) (cast (l0b ((fun v => v = AV.bool true)) off len cap ((p : Int)) ((t : Int)) ((i : Int)) O N G GG).symm ⟨decide_eq_false (by omega), l3 (p - t) t N O (by have := (hQ.1.len (G := G)).1; omega) (by omega) hQ.1⟩))

end Go.Proofs.Ytijkclfajopjkaa.qo
