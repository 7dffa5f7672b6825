/- Lists of diagnostics: words, which may be told, without twins, sorted: whatever their length. -/
import Derived.Test.YtdbfpjgnlfejmaaDoorDgI
set_option maxRecDepth 100000
set_option linter.unusedVariables false
namespace Go.Proofs.YtdbfpjgnlfejmaaDoor.dg
open Go Ev mq

def wl : List (List UInt8) := [[], [115, 121, 110, 116, 97, 120], [99, 121, 99, 108, 101], [105, 109, 112, 111, 114, 116], [116, 119, 105, 99, 101], [116, 121, 112, 101], [110, 97, 109, 101], [102, 105, 101, 108, 100], [97, 114, 105, 116, 121], [99, 97, 108, 108], [119, 114, 111, 110, 103], [114, 111, 108, 108], [115, 105, 122, 101], [101, 113, 117, 97, 108]]
def wdv (c : Int) : List UInt8 := if 0 ≤ c ∧ c < 14 then wl.getD c.toNat [] else []

theorem word_ok (c : Int) : Goal P 0 16 (fun x _ => x = .str (wdv c)) (startM P 16 [.int .i64 c] GW) := by
  by_cases h1 : c < 0
  · have e : wdv c = [] := if_neg (by omega)
    rw [e]
    exact Obl.goal (K := Goal P 0 16 _) mix (fun _ h => h) (cast (wdy (fun v => v = .str []) c _).symm ⟨decide_eq_true h1, rfl⟩)
  · by_cases h2 : c ≥ 14
    · have e : wdv c = [] := if_neg (by omega)
      rw [e]
      exact Obl.goal (K := Goal P 0 16 _) mix (fun _ h => h) (cast (wdny (fun v => v = .str []) c _).symm ⟨decide_eq_false h1, decide_eq_true h2, rfl⟩)
    · have hc : c = 0 ∨ c = 1 ∨ c = 2 ∨ c = 3 ∨ c = 4 ∨ c = 5 ∨ c = 6 ∨ c = 7 ∨ c = 8 ∨ c = 9 ∨ c = 10 ∨ c = 11 ∨ c = 12 ∨ c = 13 := by omega
      rcases hc with rfl | rfl | rfl | rfl | rfl | rfl | rfl | rfl | rfl | rfl | rfl | rfl | rfl | rfl <;> exact Goal.ofRun mix (n := 60) (by kernel_rfl) fun _ => rfl

theorem wdv_ne (c : Int) : (!(wdv c == ([] : List UInt8))) = decide (1 ≤ c ∧ c ≤ 13) := by
  by_cases h1 : c < 0 ∨ c ≥ 14
  · have e : wdv c = [] := if_neg (by omega)
    rw [e, decide_eq_false (by omega)]
    rfl
  · have hc : c = 0 ∨ c = 1 ∨ c = 2 ∨ c = 3 ∨ c = 4 ∨ c = 5 ∨ c = 6 ∨ c = 7 ∨ c = 8 ∨ c = 9 ∨ c = 10 ∨ c = 11 ∨ c = 12 ∨ c = 13 := by omega
    rcases hc with rfl | rfl | rfl | rfl | rfl | rfl | rfl | rfl | rfl | rfl | rfl | rfl | rfl | rfl <;> rfl

theorem may_ok (d : Dg) : Goal P 0 35 (fun x _ => x = .bool (mayB d)) (startM P 35 [.agg [.str d.1, .int .i64 d.2.1, .int .i64 d.2.2]] GW) := by
  unfold mayB
  by_cases h1 : 1 ≤ d.2.2 ∧ d.2.2 ≤ 13
  · by_cases h2 : 0 ≤ d.2.1
    · by_cases h3 : d.2.1 ≤ 2147483647
      · exact Obl.goal (K := Goal P 0 35 _) mix (fun _ h => h) (cast (myyyy (fun v => v = .bool (decide (1 ≤ d.2.2 ∧ d.2.2 ≤ 13 ∧ 0 ≤ d.2.1 ∧ d.2.1 ≤ 2147483647 ∧ d.1.length ≤ 200))) _ (wdv d.2.2) _ _ _ _).symm ⟨word_ok _, by rw [wdv_ne]; exact decide_eq_true h1, decide_eq_true h2, decide_eq_true h3, by
          congr 1
          rw [decide_eq_decide]
          omega⟩)
      · rw [decide_eq_false (by omega)]
        exact Obl.goal (K := Goal P 0 35 _) mix (fun _ h => h) (cast (myyyn (fun v => v = .bool false) _ (wdv d.2.2) _ _ _ _).symm ⟨word_ok _, by rw [wdv_ne]; exact decide_eq_true h1, decide_eq_true h2, decide_eq_false h3, rfl⟩)
    · rw [decide_eq_false (by omega)]
      exact Obl.goal (K := Goal P 0 35 _) mix (fun _ h => h) (cast (myyn (fun v => v = .bool false) _ (wdv d.2.2) _ _ _ _).symm ⟨word_ok _, by rw [wdv_ne]; exact decide_eq_true h1, decide_eq_false h2, rfl⟩)
  · rw [decide_eq_false (by omega)]
    exact Obl.goal (K := Goal P 0 35 _) mix (fun _ h => h) (cast (myn (fun v => v = .bool false) _ (wdv d.2.2) _ _ _ _).symm ⟨word_ok _, by rw [wdv_ne]; exact decide_eq_false h1, rfl⟩)

/-! ## Without twins -/

noncomputable def HC (f : Nat → Dg) (y : Nat) (G : T (T AV)) : AHeap := ⟨(.node .leaf (some (.cells (.fn fun c => some (el f c)) y 35 0 0 1 0 false .leaf)) .leaf), 1, G⟩

theorem up1 (k : Nat) (h : k < 1000000) : IntKind.i64.wrap ((k : Int) + 1) = ((k + 1 : Nat) : Int) := by rw [IntWalk.i64_in _ (by omega)]; omega
theorem dn1 (k : Nat) (h : k < 1000000) (h0 : 0 < k) : IntKind.i64.wrap ((k : Int) - 1) = ((k - 1 : Nat) : Int) := by rw [IntWalk.i64_in _ (by omega)]; omega

theorem dl_eq {x p : Dg} {r : List Dg} (h : x = p) : dl p (x :: r) = dl x r := by
  show (if x = p then dl x r else x :: dl x r) = _
  rw [if_pos h]
theorem dl_ne {x p : Dg} {r : List Dg} (h : ¬ x = p) : dl p (x :: r) = x :: dl x r := by
  show (if x = p then dl x r else x :: dl x r) = _
  rw [if_neg h]

theorem cb_loop {y n k0 : Nat} {G : T (T AV)} {F : List Dg} (hy : n * 3 ≤ y) (hn : n < 1000000) :
    ∀ r w j k2 (g : Nat → Dg), j + r = n → j = k0 + k2 → 0 < k2 → 0 < w → w + 1 ≤ j → sl g 0 w ++ dl (g (j - 1)) (sl g j r) = F →
      ∃ f' m, 0 < m ∧ m ≤ n ∧ sl f' 0 m = F ∧ Goal P 1 44 (fun v h => v = .slg 0 0 0 m 0 ∧ h = HC f' y G) (CoB (el g) (w : Int) (k2 : Int) n y k0 G)
  | 0, w, j, k2, g, hj, hk, h2, h0, hw, hF => by
    obtain rfl : j = n := by omega
    refine ⟨clr g w j zd, w, h0, by omega, ?_, ?_⟩
    · rw [← hF]
      show _ = sl g 0 w ++ []
      rw [List.append_nil]
      exact sl_congr w 0 fun t h1 h2 => by unfold clr; rw [if_neg (by omega)]
    · exact Obl.goal (K := Goal P 1 44 _) mix (fun _ h => h) (cast (cdn (fun v h => v = .slg 0 0 0 w 0 ∧ h = HC (clr g w j zd) y G) (el g) (el (clr g w j zd)) [] [] 0 0 0 0 _ _ _ _ _ false _ _).symm
        ⟨decide_eq_false (by omega), ⟨by omega, by omega⟩, ⟨by rw [Int.toNat_natCast]; omega, by rw [Int.toNat_natCast]; omega, by omega⟩, clr_el g w j y, rfl, ⟨by omega, by omega⟩, rfl, rfl⟩)
  | r + 1, w, j, k2, g, hj, hk, h2, h0, hw, hF => by
    have hF : sl g 0 w ++ dl (g (j - 1)) (g j :: sl g (j + 1) r) = F := hF
    have e2 := dn1 k2 (by omega) h2
    have a1 : AV.agg [el g (0 + k0 * 3 + ((k2 : Int)).toNat * 3), el g (0 + k0 * 3 + ((k2 : Int)).toNat * 3 + 1), el g (0 + k0 * 3 + ((k2 : Int)).toNat * 3 + 2)] = AV.agg [.str (g j).1, .int .i64 (g j).2.1, .int .i64 (g j).2.2] := by
      rw [← agg_el g j, Int.toNat_natCast, show 0 + k0 * 3 + k2 * 3 = 0 + j * 3 by omega]
    have a2 : AV.agg [el g (0 + k0 * 3 + (IntKind.i64.wrap ((k2 : Int) - 1)).toNat * 3), el g (0 + k0 * 3 + (IntKind.i64.wrap ((k2 : Int) - 1)).toNat * 3 + 1), el g (0 + k0 * 3 + (IntKind.i64.wrap ((k2 : Int) - 1)).toNat * 3 + 2)] = AV.agg [.str (g (j - 1)).1, .int .i64 (g (j - 1)).2.1, .int .i64 (g (j - 1)).2.2] := by
      rw [← agg_el g (j - 1), e2, Int.toNat_natCast, show 0 + k0 * 3 + (k2 - 1) * 3 = 0 + (j - 1) * 3 by omega]
    by_cases he : g j = g (j - 1)
    · obtain ⟨f', m, q0, q1, q2, q3⟩ := cb_loop (k0 := k0) (G := G) (F := F) hy hn r w (j + 1) (k2 + 1) g (by omega) (by omega) (by omega) h0 (by omega) (by
        rw [← hF, dl_eq he, Nat.add_sub_cancel])
      refine ⟨f', m, q0, q1, q2, Obl.goal (K := Goal P 1 44 _) mix (fun _ h => h) (cast (ccyn (fun v h => v = .slg 0 0 0 m 0 ∧ h = HC f' y G) (el g) (el g) _ _ _ _ _ _ _ _ _ _ _ false _ _).symm
        ⟨decide_eq_true (by omega), ⟨by omega, by omega⟩, by rw [Int.toNat_natCast]; omega, a1, by rw [e2]; omega, by rw [e2, Int.toNat_natCast]; omega, a2, fun h => by rw [ne35, decide_eq_true he]; rfl, rfl, el_plain _, ?_⟩)⟩
      rw [up1 k2 (by omega)]
      exact q3
    · obtain ⟨f', m, q0, q1, q2, q3⟩ := cb_loop (k0 := k0) (G := G) (F := F) hy hn r (w + 1) (j + 1) (k2 + 1) (upd g w (g j)) (by omega) (by omega) (by omega) (by omega) (by omega) (by
        rw [← hF, dl_ne he, sl_snoc, Nat.zero_add, Nat.add_sub_cancel, List.append_assoc, List.singleton_append]
        have e1 : upd g w (g j) w = g j := by unfold upd; rw [if_pos rfl]
        have e3 : upd g w (g j) j = g j := by unfold upd; rw [if_neg (by omega)]
        rw [e1, e3, sl_congr (s := upd g w (g j)) (s' := g) w 0 fun t h1 h2 => by unfold upd; rw [if_neg (by omega)],
          sl_congr (s := upd g w (g j)) (s' := g) r (j + 1) fun t h1 h2 => by unfold upd; rw [if_neg (by omega)]])
      refine ⟨f', m, q0, q1, q2, Obl.goal (K := Goal P 1 44 _) mix (fun _ h => h) (cast (ccyy (fun v h => v = .slg 0 0 0 m 0 ∧ h = HC f' y G) (el g) (el (upd g w (g j))) _ _ _ _ _ _ _ _ _ _ _ true _ _).symm
        ⟨decide_eq_true (by omega), ⟨by omega, by omega⟩, by rw [Int.toNat_natCast]; omega, a1, by rw [e2]; omega, by rw [e2, Int.toNat_natCast]; omega, a2, fun h => by rw [ne35, decide_eq_false he]; rfl, rfl, ⟨by omega, by omega⟩, by rw [Int.toNat_natCast]; omega, a1, ⟨by omega, by omega⟩,
          ⟨trivial, by show 0 + ((w : Int)).toNat * 3 + 3 ≤ y; rw [Int.toNat_natCast]; omega, by omega⟩, put_el g w (g j) y, rfl, el_plain _, ?_⟩)⟩
      rw [up1 k2 (by omega), up1 w (by omega)]
      exact q3

theorem ca_loop {y n : Nat} {f : Nat → Dg} {G : T (T AV)} {F : List Dg} (hy : n * 3 ≤ y) (hn : n < 1000000) :
    ∀ r k, k + r = n → 0 < k → sl f 0 k ++ dl (f (k - 1)) (sl f k r) = F →
      ∃ f' m, 0 < m ∧ m ≤ n ∧ sl f' 0 m = F ∧ Goal P 1 44 (fun v h => v = .slg 0 0 0 m 0 ∧ h = HC f' y G) (CoA (el f) (k : Int) n y G)
  | 0, k, hk, h0, hF => by
    obtain rfl : k = n := by omega
    refine ⟨f, k, h0, Nat.le_refl _, by rw [← hF]; exact (List.append_nil _).symm, ?_⟩
    exact Obl.goal (K := Goal P 1 44 _) mix (fun _ h => h) (cast (cbn (fun v h => v = .slg 0 0 0 k 0 ∧ h = HC f y G) (el f) (el f) [] [] 0 0 0 0 _ 0 _ _ 0 false _ _).symm ⟨decide_eq_false (by omega), rfl, rfl⟩)
  | r + 1, k, hk, h0, hF => by
    have hF : sl f 0 k ++ dl (f (k - 1)) (f k :: sl f (k + 1) r) = F := hF
    have e2 := dn1 k (by omega) h0
    have a1 := agg_el f k
    have a2 : AV.agg [el f (0 + (IntKind.i64.wrap ((k : Int) - 1)).toNat * 3), el f (0 + (IntKind.i64.wrap ((k : Int) - 1)).toNat * 3 + 1), el f (0 + (IntKind.i64.wrap ((k : Int) - 1)).toNat * 3 + 2)] = AV.agg [.str (f (k - 1)).1, .int .i64 (f (k - 1)).2.1, .int .i64 (f (k - 1)).2.2] := by
      rw [← agg_el f (k - 1), e2, Int.toNat_natCast]
    by_cases he : f k = f (k - 1)
    · obtain ⟨f', m, q0, q1, q2, q3⟩ := cb_loop (y := y) (n := n) (k0 := k) (G := G) (F := F) hy hn r k (k + 1) 1 f (by omega) (by omega) (by omega) h0 (by omega) (by
        rw [← hF, dl_eq he, Nat.add_sub_cancel])
      exact ⟨f', m, q0, q1, q2, Obl.goal (K := Goal P 1 44 _) mix (fun _ h => h) (cast (cbyy (fun v h => v = .slg 0 0 0 m 0 ∧ h = HC f' y G) (el f) (el f) _ _ _ _ _ _ _ 0 _ _ 0 true _ _).symm
        ⟨decide_eq_true (by omega), ⟨by omega, by omega⟩, by rw [Int.toNat_natCast]; omega, a1, by rw [e2]; omega, by rw [e2, Int.toNat_natCast]; omega, a2, fun h => by rw [eq35, decide_eq_true he], rfl, ⟨by omega, by omega⟩, el_plain _, q3⟩)⟩
    · obtain ⟨f', m, q0, q1, q2, q3⟩ := ca_loop (f := f) (G := G) (F := F) hy hn r (k + 1) (by omega) (by omega) (by
        rw [← hF, dl_ne he, sl_snoc, Nat.zero_add, Nat.add_sub_cancel, List.append_assoc, List.singleton_append])
      refine ⟨f', m, q0, q1, q2, Obl.goal (K := Goal P 1 44 _) mix (fun _ h => h) (cast (cbyn (fun v h => v = .slg 0 0 0 m 0 ∧ h = HC f' y G) (el f) (el f) _ _ _ _ _ _ _ 0 _ _ 0 false _ _).symm
        ⟨decide_eq_true (by omega), ⟨by omega, by omega⟩, by rw [Int.toNat_natCast]; omega, a1, by rw [e2]; omega, by rw [e2, Int.toNat_natCast]; omega, a2, fun h => by rw [eq35, decide_eq_false he], rfl, el_plain _, ?_⟩)⟩
      rw [up1 k (by omega)]
      exact q3

theorem compact_ok {y n : Nat} {f : Nat → Dg} {G : T (T AV)} (h0 : 0 < n) (hy : n * 3 ≤ y) (hn : n < 1000000) :
    ∃ f' m, 0 < m ∧ m ≤ n ∧ sl f' 0 m = ded (sl f 0 n) ∧ Goal P 1 44 (fun v h => v = .slg 0 0 0 m 0 ∧ h = HC f' y G) (startH P 44 [.slg 0 0 0 n 0] (HC f y G)) := by
  obtain ⟨r, rfl⟩ : ∃ r, n = r + 1 := ⟨n - 1, by omega⟩
  by_cases h : r = 0
  · subst h
    exact ⟨f, 1, by omega, by omega, rfl, Obl.goal (K := Goal P 1 44 _) mix (fun _ h => h) (cast (cay (fun v h => v = .slg 0 0 0 1 0 ∧ h = HC f y G) (el f) (el f) [] [] 0 0 0 0 0 0 _ _ 0 false _ _).symm ⟨decide_eq_true (by omega), rfl, rfl⟩)⟩
  · obtain ⟨f', m, q0, q1, q2, q3⟩ := ca_loop (y := y) (n := r + 1) (f := f) (G := G) (F := ded (sl f 0 (r + 1))) hy hn r 1 (by omega) (by omega) rfl
    exact ⟨f', m, q0, q1, q2, Obl.goal (K := Goal P 1 44 _) mix (fun _ h => h) (cast (can (fun v h => v = .slg 0 0 0 m 0 ∧ h = HC f' y G) (el f) (el f) [] [] 0 0 0 0 0 0 _ _ 0 false _ _).symm ⟨decide_eq_false (by omega), el_plain _, q3⟩)⟩

/-! ## Sorted -/

noncomputable def HRo (f : Nat → Dg) (off z : Nat) : AHeap := ⟨(.node .leaf (some (.ro (.fn fun c => some (elo f off c)) off z)) .leaf), 1, GW⟩
noncomputable def HRw (f f' : Nat → Dg) (off z y : Nat) : AHeap := ⟨(.node (.node .leaf (some (.cells (.fn fun c => some (el f' c)) y 35 0 0 1 0 false .leaf)) .leaf) (some (.ro (.fn fun c => some (elo f off c)) off z)) .leaf), 2, GW⟩

/-- What sorting comes to. -/
def SoR (f : Nat → Dg) (n off z : Nat) (m : AM) : Prop :=
  (So (sl f 0 n) [] ∧ Goal P 1 12 (fun v h => v = .nils 0 0 ∧ h = HRo f off z) m) ∨
    ∃ f' k y, 0 < k ∧ k ≤ n ∧ k * 3 ≤ y ∧ So (sl f 0 n) (sl f' 0 k) ∧ Goal P 1 12 (fun v h => v = .slg 1 0 0 k 0 ∧ h = HRw f f' off z y) m

theorem Rb_loop {off z n cp : Nat} {f : Nat → Dg} (hz : off + n * 3 ≤ z) (hn : n < 100000) :
    ∀ r i m y (g : Nat → Dg), i + r = n → 0 < m → m ≤ i → y = m * 3 → sl g 0 m = (sl f 0 i).filter mayB → SoR f n off z (SRb (elo f off) (el g) (i : Int) n m cp off off z y GW)
  | 0, i, m, y, g, hi, h0, hm, hy, hg => by
    obtain rfl : i = n := by omega
    subst hy
    obtain ⟨f2, u1, u2, u3⟩ := sort_ask g m (m * 3) h0 (Nat.le_refl _) (by omega) (HRw f g off z (m * 3)) 1 (by kernel_rfl)
    obtain ⟨f3, k, k0, k1, k2, k3⟩ := compact_ok (y := m * 3) (n := m) (f := f2) (G := GW) h0 (Nat.le_refl _) (by omega)
    have hput : (HRw f g off z (m * 3)).put 1 (.cells (.fn fun c => some (el f2 c)) (m * 3) 35 0 0 1 0 false .leaf) = HRw f f2 off z (m * 3) := by kernel_rfl
    rw [hput] at u3
    refine .inr ⟨f3, k, m * 3, k0, by omega, by omega, ⟨by rw [k2]; exact ded_ups u1, fun x => by rw [k2, mem_ded, u2, hg, List.mem_filter]⟩, ?_⟩
    exact Obl.goal (K := Goal P 1 12 _) mix (fun _ h => h) (cast (Rbn (fun v h => v = .slg 1 0 0 k 0 ∧ h = HRw f f3 off z (m * 3)) (elo f off) (el g) (el f2) (el f3) [] 0 0 _ _ _ _ off off z _ k false _ _).symm
      ⟨decide_eq_false (by omega), u3, el_plain _, el_plain _, k3, rfl, rfl⟩)
  | r + 1, i, m, y, g, hi, h0, hm, hy, hg => by
    have hfl : (sl f 0 (i + 1)).filter mayB = (sl f 0 i).filter mayB ++ [f i].filter mayB := by rw [sl_snoc, Nat.zero_add, List.filter_append]
    have hmay := may_ok (f i)
    by_cases hb : mayB (f i) = true
    · have ih := Rb_loop (off := off) (cp := cp) (f := f) hz hn r (i + 1) (m + 1) (0 + m * 3 + 3) (upd g m (f i)) (by omega) (by omega) (by omega) (by omega) (by
        rw [hfl, List.filter_cons_of_pos hb, List.filter_nil, ← hg, sl_snoc, Nat.zero_add]
        have e1 : upd g m (f i) m = f i := by unfold upd; rw [if_pos rfl]
        rw [e1, sl_congr (s := upd g m (f i)) (s' := g) m 0 fun t h1 h2 => by unfold upd; rw [if_neg (by omega)]])
      have goal : ∀ R : AV → AHeap → Prop, Goal P 1 12 R (SRb (elo f off) (el (upd g m (f i))) ((i + 1 : Nat) : Int) n (m + 1) cp off off z (0 + m * 3 + 3) GW) → Goal P 1 12 R (SRb (elo f off) (el g) (i : Int) n m cp off off z y GW) := fun R h =>
        Obl.goal (K := Goal P 1 12 R) mix (fun _ h => h) (cast (Rbyy R (elo f off) (el g) (el (upd g m (f i))) (el g) _ _ _ _ _ _ _ off off z _ 0 true _ _).symm
          ⟨decide_eq_true (by omega), ⟨by omega, by omega⟩, ⟨by omega, by rw [Int.toNat_natCast]; omega⟩, (agg_elo f off i), by rw [hb] at hmay; exact hmay, rfl,
            ⟨⟨by rw [DS_eq]; omega, fun k hk => by
              rw [DS_eq] at hk
              have hr : k = 0 ∨ k = 1 ∨ k = 2 := by omega
              rcases hr with h | h | h <;> subst h <;> exact ⟨_, rfl, rfl⟩⟩, by omega, by omega, by omega, by omega, by
                unfold roomA
                rw [Bool.and_eq_true, Nat.ble_eq, Nat.blt_eq]
                constructor <;> omega, by omega⟩, app_el g m _ _ _ DS_eq, rfl, el_plain _, by rw [up1 i (by omega)]; exact h⟩)
      rcases ih with ⟨h1, h2⟩ | ⟨f', k, y', h1, h2, h3, h4, h5⟩
      · exact .inl ⟨h1, goal _ h2⟩
      · exact .inr ⟨f', k, y', h1, h2, h3, h4, goal _ h5⟩
    · have ih := Rb_loop (off := off) (cp := cp) (f := f) hz hn r (i + 1) m y g (by omega) h0 (by omega) hy (by
        rw [hfl, List.filter_cons_of_neg hb, List.filter_nil, List.append_nil, ← hg])
      have goal : ∀ R : AV → AHeap → Prop, Goal P 1 12 R (SRb (elo f off) (el g) ((i + 1 : Nat) : Int) n m cp off off z y GW) → Goal P 1 12 R (SRb (elo f off) (el g) (i : Int) n m cp off off z y GW) := fun R h =>
        Obl.goal (K := Goal P 1 12 R) mix (fun _ h => h) (cast (Rbyn R (elo f off) (el g) (el g) (el g) _ _ _ _ _ _ _ off off z _ 0 false _ _).symm
          ⟨decide_eq_true (by omega), ⟨by omega, by omega⟩, ⟨by omega, by rw [Int.toNat_natCast]; omega⟩, (agg_elo f off i), by rw [Bool.not_eq_true] at hb; rw [hb] at hmay; exact hmay, rfl, el_plain _, by rw [up1 i (by omega)]; exact h⟩)
      rcases ih with ⟨h1, h2⟩ | ⟨f', k, y', h1, h2, h3, h4, h5⟩
      · exact .inl ⟨h1, goal _ h2⟩
      · exact .inr ⟨f', k, y', h1, h2, h3, h4, goal _ h5⟩

theorem Ra_loop {off z n cp : Nat} {f : Nat → Dg} (hz : off + n * 3 ≤ z) (hn : n < 100000) :
    ∀ r i, i + r = n → (sl f 0 i).filter mayB = [] → SoR f n off z (SRa (elo f off) (i : Int) n cp off off z GW)
  | 0, i, hi, hg => by
    obtain rfl : i = n := by omega
    refine .inl ⟨⟨.nil, fun x => by rw [← List.mem_filter, hg]⟩, ?_⟩
    exact Obl.goal (K := Goal P 1 12 _) mix (fun _ h => h) (cast (Ran (fun v h => v = .nils 0 0 ∧ h = HRo f off z) (elo f off) (el f) (el f) (el f) [] 0 0 _ _ 0 cp off off z 0 0 false _ _).symm ⟨decide_eq_false (by omega), rfl, rfl⟩)
  | r + 1, i, hi, hg => by
    have hfl : (sl f 0 (i + 1)).filter mayB = (sl f 0 i).filter mayB ++ [f i].filter mayB := by rw [sl_snoc, Nat.zero_add, List.filter_append]
    have hmay := may_ok (f i)
    by_cases hb : mayB (f i) = true
    · have ih := Rb_loop (off := off) (cp := cp) (f := f) hz hn r (i + 1) 1 3 (fun _ => f i) (by omega) (by omega) (by omega) (by omega) (by
        rw [hfl, List.filter_cons_of_pos hb, List.filter_nil, hg]; rfl)
      have goal : ∀ R : AV → AHeap → Prop, Goal P 1 12 R (SRb (elo f off) (el fun _ => f i) ((i + 1 : Nat) : Int) n 1 cp off off z 3 GW) → Goal P 1 12 R (SRa (elo f off) (i : Int) n cp off off z GW) := fun R h =>
        Obl.goal (K := Goal P 1 12 R) mix (fun _ h => h) (cast (Rayy R (elo f off) (el fun _ => f i) (el f) (el f) _ _ _ _ _ 0 cp off off z 0 0 true _ _).symm
          ⟨decide_eq_true (by omega), ⟨by omega, by omega⟩, ⟨by omega, by rw [Int.toNat_natCast]; omega⟩, (agg_elo f off i), by rw [hb] at hmay; exact hmay, rfl, fst_el _ _ _, rfl, el_plain _, by rw [up1 i (by omega)]; exact h⟩)
      rcases ih with ⟨h1, h2⟩ | ⟨f', k, y', h1, h2, h3, h4, h5⟩
      · exact .inl ⟨h1, goal _ h2⟩
      · exact .inr ⟨f', k, y', h1, h2, h3, h4, goal _ h5⟩
    · have ih := Ra_loop (off := off) (cp := cp) (f := f) hz hn r (i + 1) (by omega) (by
        rw [hfl, List.filter_cons_of_neg hb, List.filter_nil, List.append_nil, hg])
      have goal : ∀ R : AV → AHeap → Prop, Goal P 1 12 R (SRa (elo f off) ((i + 1 : Nat) : Int) n cp off off z GW) → Goal P 1 12 R (SRa (elo f off) (i : Int) n cp off off z GW) := fun R h =>
        Obl.goal (K := Goal P 1 12 R) mix (fun _ h => h) (cast (Rayn R (elo f off) (el f) (el f) (el f) _ _ _ _ _ 0 cp off off z 0 0 false _ _).symm
          ⟨decide_eq_true (by omega), ⟨by omega, by omega⟩, ⟨by omega, by rw [Int.toNat_natCast]; omega⟩, (agg_elo f off i), by rw [Bool.not_eq_true] at hb; rw [hb] at hmay; exact hmay, rfl,  by rw [up1 i (by omega)]; exact h⟩)
      rcases ih with ⟨h1, h2⟩ | ⟨f', k, y', h1, h2, h3, h4, h5⟩
      · exact .inl ⟨h1, goal _ h2⟩
      · exact .inr ⟨f', k, y', h1, h2, h3, h4, goal _ h5⟩

theorem sortR_ok {off z n cp : Nat} {f : Nat → Dg} (hz : off + n * 3 ≤ z) (hn : n < 100000) : SoR f n off z (startH P 12 [.slc 0 0 off n cp] (HRo f off z)) := by
  have goal : ∀ R : AV → AHeap → Prop, Goal P 1 12 R (SRa (elo f off) ((0 : Nat) : Int) n cp off off z GW) → Goal P 1 12 R (startH P 12 [.slc 0 0 off n cp] (HRo f off z)) := fun R h =>
    Obl.goal (K := Goal P 1 12 R) mix (fun _ h => h) (cast (Rst R (elo f off) (el f) (el f) (el f) [] 0 0 0 n 0 cp off off z 0 0 false GW _).symm h)
  rcases Ra_loop (off := off) (cp := cp) (f := f) hz hn n 0 (by omega) rfl with ⟨h1, h2⟩ | ⟨f', k, y', h1, h2, h3, h4, h5⟩
  · exact .inl ⟨h1, goal _ h2⟩
  · exact .inr ⟨f', k, y', h1, h2, h3, h4, goal _ h5⟩

theorem hasR_loop {off z n cp : Nat} {f : Nat → Dg} {d : Dg} (hz : off + n * 3 ≤ z) (hn : n < 100000) :
    ∀ r i, i + r = n → d ∉ sl f 0 i → Goal P 1 22 (fun v h => v = .bool (decide (d ∈ sl f 0 n)) ∧ h = HRo f off z) (HsR (elo f off) d.1 d.2.1 d.2.2 (i : Int) n cp z off off GW)
  | 0, i, hi, hg => by
    obtain rfl : i = n := by omega
    rw [decide_eq_false hg]
    exact Obl.goal (K := Goal P 1 22 _) mix (fun _ h => h) (cast (hbRn (fun v h => v = .bool false ∧ h = HRo f off z) (elo f off) (el f) [] _ 0 0 _ _ _ _ 0 cp z 0 off off false _ _).symm ⟨decide_eq_false (by omega),  rfl, rfl⟩)
  | r + 1, i, hi, hg => by
    by_cases he : f i = d
    · rw [decide_eq_true (by rw [← he]; have := sl_at f n 0 i (by omega) (by omega); exact this)]
      exact Obl.goal (K := Goal P 1 22 _) mix (fun _ h => h) (cast (hbRyy (fun v h => v = .bool true ∧ h = HRo f off z) (elo f off) (el f) _ _ _ _ _ _ _ _ 0 cp z 0 off off true _ _).symm
        ⟨decide_eq_true (by omega), ⟨by omega, by omega⟩, ⟨by omega, by rw [Int.toNat_natCast]; omega⟩, (agg_elo f off i), fun h => by rw [eq35, decide_eq_true he], rfl,  rfl, rfl⟩)
    · have ih := hasR_loop (off := off) (cp := cp) (f := f) (d := d) hz hn r (i + 1) (by omega) (by
        rw [sl_snoc, Nat.zero_add, List.mem_append, List.mem_singleton]
        rintro (h | h)
        · exact hg h
        · exact he h.symm)
      exact Obl.goal (K := Goal P 1 22 _) mix (fun _ h => h) (cast (hbRyn (fun v h => v = .bool (decide (d ∈ sl f 0 n)) ∧ h = HRo f off z) (elo f off) (el f) _ _ _ _ _ _ _ _ 0 cp z 0 off off false _ _).symm
        ⟨decide_eq_true (by omega), ⟨by omega, by omega⟩, ⟨by omega, by rw [Int.toNat_natCast]; omega⟩, (agg_elo f off i), fun h => by rw [eq35, decide_eq_false he], rfl,  by rw [up1 i (by omega)]; exact ih⟩)

theorem hasR_ok {off z n cp : Nat} {f : Nat → Dg} {d : Dg} (hz : off + n * 3 ≤ z) (hn : n < 100000) :
    Goal P 1 22 (fun v h => v = .bool (decide (d ∈ sl f 0 n)) ∧ h = HRo f off z) (startH P 22 [.slc 0 0 off n cp, .agg [.str d.1, .int .i64 d.2.1, .int .i64 d.2.2]] (HRo f off z)) :=
  Obl.goal (K := Goal P 1 22 _) mix (fun _ h => h) (cast (haR (fun v h => v = .bool (decide (d ∈ sl f 0 n)) ∧ h = HRo f off z) (elo f off) (el f) [] _ 0 0 _ _ 0 n 0 cp z 0 off off false _ _).symm (hasR_loop (off := off) (cp := cp) (f := f) (d := d) hz hn n 0 (by omega) (by simp [sl])))

noncomputable def HCo (f : Nat → Dg) (off z : Nat) : AHeap := ⟨(.node .leaf (some (.cells (.fn fun c => some (el f c)) z 35 0 0 1 0 false .leaf)) .leaf), 1, GW⟩
noncomputable def HCw (f f' : Nat → Dg) (off z y : Nat) : AHeap := ⟨(.node (.node .leaf (some (.cells (.fn fun c => some (el f' c)) y 35 0 0 1 0 false .leaf)) .leaf) (some (.cells (.fn fun c => some (el f c)) z 35 0 0 1 0 false .leaf)) .leaf), 2, GW⟩

/-- What sorting comes to. -/
def SoC (f : Nat → Dg) (n off z : Nat) (m : AM) : Prop :=
  (So (sl f 0 n) [] ∧ Goal P 1 12 (fun v h => v = .nils 0 0 ∧ h = HCo f off z) m) ∨
    ∃ f' k y, 0 < k ∧ k ≤ n ∧ k * 3 ≤ y ∧ So (sl f 0 n) (sl f' 0 k) ∧ Goal P 1 12 (fun v h => v = .slg 1 0 0 k 0 ∧ h = HCw f f' off z y) m

theorem Cb_loop {off z n cp : Nat} {f : Nat → Dg} (hz : n * 3 ≤ z) (hn : n < 100000) :
    ∀ r i m y (g : Nat → Dg), i + r = n → 0 < m → m ≤ i → y = m * 3 → sl g 0 m = (sl f 0 i).filter mayB → SoC f n off z (SCb (el f) (el g) (i : Int) n m cp off off z y GW)
  | 0, i, m, y, g, hi, h0, hm, hy, hg => by
    obtain rfl : i = n := by omega
    subst hy
    obtain ⟨f2, u1, u2, u3⟩ := sort_ask g m (m * 3) h0 (Nat.le_refl _) (by omega) (HCw f g off z (m * 3)) 1 (by kernel_rfl)
    obtain ⟨f3, k, k0, k1, k2, k3⟩ := compact_ok (y := m * 3) (n := m) (f := f2) (G := GW) h0 (Nat.le_refl _) (by omega)
    have hput : (HCw f g off z (m * 3)).put 1 (.cells (.fn fun c => some (el f2 c)) (m * 3) 35 0 0 1 0 false .leaf) = HCw f f2 off z (m * 3) := by kernel_rfl
    rw [hput] at u3
    refine .inr ⟨f3, k, m * 3, k0, by omega, by omega, ⟨by rw [k2]; exact ded_ups u1, fun x => by rw [k2, mem_ded, u2, hg, List.mem_filter]⟩, ?_⟩
    exact Obl.goal (K := Goal P 1 12 _) mix (fun _ h => h) (cast (Cbn (fun v h => v = .slg 1 0 0 k 0 ∧ h = HCw f f3 off z (m * 3)) (el f) (el g) (el f2) (el f3) [] 0 0 _ _ _ _ off off z _ k false _ _).symm
      ⟨decide_eq_false (by omega), u3, el_plain _, el_plain _, k3, rfl, rfl⟩)
  | r + 1, i, m, y, g, hi, h0, hm, hy, hg => by
    have hfl : (sl f 0 (i + 1)).filter mayB = (sl f 0 i).filter mayB ++ [f i].filter mayB := by rw [sl_snoc, Nat.zero_add, List.filter_append]
    have hmay := may_ok (f i)
    by_cases hb : mayB (f i) = true
    · have ih := Cb_loop (off := off) (cp := cp) (f := f) hz hn r (i + 1) (m + 1) (0 + m * 3 + 3) (upd g m (f i)) (by omega) (by omega) (by omega) (by omega) (by
        rw [hfl, List.filter_cons_of_pos hb, List.filter_nil, ← hg, sl_snoc, Nat.zero_add]
        have e1 : upd g m (f i) m = f i := by unfold upd; rw [if_pos rfl]
        rw [e1, sl_congr (s := upd g m (f i)) (s' := g) m 0 fun t h1 h2 => by unfold upd; rw [if_neg (by omega)]])
      have goal : ∀ R : AV → AHeap → Prop, Goal P 1 12 R (SCb (el f) (el (upd g m (f i))) ((i + 1 : Nat) : Int) n (m + 1) cp off off z (0 + m * 3 + 3) GW) → Goal P 1 12 R (SCb (el f) (el g) (i : Int) n m cp off off z y GW) := fun R h =>
        Obl.goal (K := Goal P 1 12 R) mix (fun _ h => h) (cast (Cbyy R (el f) (el g) (el (upd g m (f i))) (el g) _ _ _ _ _ _ _ off off z _ 0 true _ _).symm
          ⟨decide_eq_true (by omega), ⟨by omega, by omega⟩, by rw [Int.toNat_natCast]; omega, agg_el f i, by rw [hb] at hmay; exact hmay, rfl,
            ⟨⟨by rw [DS_eq]; omega, fun k hk => by
              rw [DS_eq] at hk
              have hr : k = 0 ∨ k = 1 ∨ k = 2 := by omega
              rcases hr with h | h | h <;> subst h <;> exact ⟨_, rfl, rfl⟩⟩, by omega, by omega, by omega, by omega, by
                unfold roomA
                rw [Bool.and_eq_true, Nat.ble_eq, Nat.blt_eq]
                constructor <;> omega, by omega⟩, app_el g m _ _ _ DS_eq, rfl, el_plain _, el_plain _, by rw [up1 i (by omega)]; exact h⟩)
      rcases ih with ⟨h1, h2⟩ | ⟨f', k, y', h1, h2, h3, h4, h5⟩
      · exact .inl ⟨h1, goal _ h2⟩
      · exact .inr ⟨f', k, y', h1, h2, h3, h4, goal _ h5⟩
    · have ih := Cb_loop (off := off) (cp := cp) (f := f) hz hn r (i + 1) m y g (by omega) h0 (by omega) hy (by
        rw [hfl, List.filter_cons_of_neg hb, List.filter_nil, List.append_nil, ← hg])
      have goal : ∀ R : AV → AHeap → Prop, Goal P 1 12 R (SCb (el f) (el g) ((i + 1 : Nat) : Int) n m cp off off z y GW) → Goal P 1 12 R (SCb (el f) (el g) (i : Int) n m cp off off z y GW) := fun R h =>
        Obl.goal (K := Goal P 1 12 R) mix (fun _ h => h) (cast (Cbyn R (el f) (el g) (el g) (el g) _ _ _ _ _ _ _ off off z _ 0 false _ _).symm
          ⟨decide_eq_true (by omega), ⟨by omega, by omega⟩, by rw [Int.toNat_natCast]; omega, agg_el f i, by rw [Bool.not_eq_true] at hb; rw [hb] at hmay; exact hmay, rfl, el_plain _, el_plain _, by rw [up1 i (by omega)]; exact h⟩)
      rcases ih with ⟨h1, h2⟩ | ⟨f', k, y', h1, h2, h3, h4, h5⟩
      · exact .inl ⟨h1, goal _ h2⟩
      · exact .inr ⟨f', k, y', h1, h2, h3, h4, goal _ h5⟩

theorem Ca_loop {off z n cp : Nat} {f : Nat → Dg} (hz : n * 3 ≤ z) (hn : n < 100000) :
    ∀ r i, i + r = n → (sl f 0 i).filter mayB = [] → SoC f n off z (SCa (el f) (i : Int) n cp off off z GW)
  | 0, i, hi, hg => by
    obtain rfl : i = n := by omega
    refine .inl ⟨⟨.nil, fun x => by rw [← List.mem_filter, hg]⟩, ?_⟩
    exact Obl.goal (K := Goal P 1 12 _) mix (fun _ h => h) (cast (Can (fun v h => v = .nils 0 0 ∧ h = HCo f off z) (el f) (el f) (el f) (el f) [] 0 0 _ _ 0 cp off off z 0 0 false _ _).symm ⟨decide_eq_false (by omega), rfl, rfl⟩)
  | r + 1, i, hi, hg => by
    have hfl : (sl f 0 (i + 1)).filter mayB = (sl f 0 i).filter mayB ++ [f i].filter mayB := by rw [sl_snoc, Nat.zero_add, List.filter_append]
    have hmay := may_ok (f i)
    by_cases hb : mayB (f i) = true
    · have ih := Cb_loop (off := off) (cp := cp) (f := f) hz hn r (i + 1) 1 3 (fun _ => f i) (by omega) (by omega) (by omega) (by omega) (by
        rw [hfl, List.filter_cons_of_pos hb, List.filter_nil, hg]; rfl)
      have goal : ∀ R : AV → AHeap → Prop, Goal P 1 12 R (SCb (el f) (el fun _ => f i) ((i + 1 : Nat) : Int) n 1 cp off off z 3 GW) → Goal P 1 12 R (SCa (el f) (i : Int) n cp off off z GW) := fun R h =>
        Obl.goal (K := Goal P 1 12 R) mix (fun _ h => h) (cast (Cayy R (el f) (el fun _ => f i) (el f) (el f) _ _ _ _ _ 0 cp off off z 0 0 true _ _).symm
          ⟨decide_eq_true (by omega), ⟨by omega, by omega⟩, by rw [Int.toNat_natCast]; omega, agg_el f i, by rw [hb] at hmay; exact hmay, rfl, fst_el _ _ _, rfl, el_plain _, el_plain _, by rw [up1 i (by omega)]; exact h⟩)
      rcases ih with ⟨h1, h2⟩ | ⟨f', k, y', h1, h2, h3, h4, h5⟩
      · exact .inl ⟨h1, goal _ h2⟩
      · exact .inr ⟨f', k, y', h1, h2, h3, h4, goal _ h5⟩
    · have ih := Ca_loop (off := off) (cp := cp) (f := f) hz hn r (i + 1) (by omega) (by
        rw [hfl, List.filter_cons_of_neg hb, List.filter_nil, List.append_nil, hg])
      have goal : ∀ R : AV → AHeap → Prop, Goal P 1 12 R (SCa (el f) ((i + 1 : Nat) : Int) n cp off off z GW) → Goal P 1 12 R (SCa (el f) (i : Int) n cp off off z GW) := fun R h =>
        Obl.goal (K := Goal P 1 12 R) mix (fun _ h => h) (cast (Cayn R (el f) (el f) (el f) (el f) _ _ _ _ _ 0 cp off off z 0 0 false _ _).symm
          ⟨decide_eq_true (by omega), ⟨by omega, by omega⟩, by rw [Int.toNat_natCast]; omega, agg_el f i, by rw [Bool.not_eq_true] at hb; rw [hb] at hmay; exact hmay, rfl, el_plain _, by rw [up1 i (by omega)]; exact h⟩)
      rcases ih with ⟨h1, h2⟩ | ⟨f', k, y', h1, h2, h3, h4, h5⟩
      · exact .inl ⟨h1, goal _ h2⟩
      · exact .inr ⟨f', k, y', h1, h2, h3, h4, goal _ h5⟩

theorem sortC_ok {off z n cp : Nat} {f : Nat → Dg} (hz : n * 3 ≤ z) (hn : n < 100000) : SoC f n off z (startH P 12 [.slg 0 0 0 n 0] (HCo f off z)) := by
  have goal : ∀ R : AV → AHeap → Prop, Goal P 1 12 R (SCa (el f) ((0 : Nat) : Int) n cp off off z GW) → Goal P 1 12 R (startH P 12 [.slg 0 0 0 n 0] (HCo f off z)) := fun R h =>
    Obl.goal (K := Goal P 1 12 R) mix (fun _ h => h) (cast (Cst R (el f) (el f) (el f) (el f) [] 0 0 0 n 0 cp off off z 0 0 false GW _).symm ⟨el_plain _, h⟩)
  rcases Ca_loop (off := off) (cp := cp) (f := f) hz hn n 0 (by omega) rfl with ⟨h1, h2⟩ | ⟨f', k, y', h1, h2, h3, h4, h5⟩
  · exact .inl ⟨h1, goal _ h2⟩
  · exact .inr ⟨f', k, y', h1, h2, h3, h4, goal _ h5⟩

theorem hasC_loop {off z n cp : Nat} {f : Nat → Dg} {d : Dg} (hz : n * 3 ≤ z) (hn : n < 100000) :
    ∀ r i, i + r = n → d ∉ sl f 0 i → Goal P 1 22 (fun v h => v = .bool (decide (d ∈ sl f 0 n)) ∧ h = HCo f off z) (HsC (el f) d.1 d.2.1 d.2.2 (i : Int) n cp z off off GW)
  | 0, i, hi, hg => by
    obtain rfl : i = n := by omega
    rw [decide_eq_false hg]
    exact Obl.goal (K := Goal P 1 22 _) mix (fun _ h => h) (cast (hbCn (fun v h => v = .bool false ∧ h = HCo f off z) (el f) (el f) [] _ 0 0 _ _ _ _ 0 cp z 0 off off false _ _).symm ⟨decide_eq_false (by omega), el_plain _, rfl, rfl⟩)
  | r + 1, i, hi, hg => by
    by_cases he : f i = d
    · rw [decide_eq_true (by rw [← he]; have := sl_at f n 0 i (by omega) (by omega); exact this)]
      exact Obl.goal (K := Goal P 1 22 _) mix (fun _ h => h) (cast (hbCyy (fun v h => v = .bool true ∧ h = HCo f off z) (el f) (el f) _ _ _ _ _ _ _ _ 0 cp z 0 off off true _ _).symm
        ⟨decide_eq_true (by omega), ⟨by omega, by omega⟩, by rw [Int.toNat_natCast]; omega, agg_el f i, fun h => by rw [eq35, decide_eq_true he], rfl, el_plain _, rfl, rfl⟩)
    · have ih := hasC_loop (off := off) (cp := cp) (f := f) (d := d) hz hn r (i + 1) (by omega) (by
        rw [sl_snoc, Nat.zero_add, List.mem_append, List.mem_singleton]
        rintro (h | h)
        · exact hg h
        · exact he h.symm)
      exact Obl.goal (K := Goal P 1 22 _) mix (fun _ h => h) (cast (hbCyn (fun v h => v = .bool (decide (d ∈ sl f 0 n)) ∧ h = HCo f off z) (el f) (el f) _ _ _ _ _ _ _ _ 0 cp z 0 off off false _ _).symm
        ⟨decide_eq_true (by omega), ⟨by omega, by omega⟩, by rw [Int.toNat_natCast]; omega, agg_el f i, fun h => by rw [eq35, decide_eq_false he], rfl, el_plain _, by rw [up1 i (by omega)]; exact ih⟩)

theorem hasC_ok {off z n cp : Nat} {f : Nat → Dg} {d : Dg} (hz : n * 3 ≤ z) (hn : n < 100000) :
    Goal P 1 22 (fun v h => v = .bool (decide (d ∈ sl f 0 n)) ∧ h = HCo f off z) (startH P 22 [.slg 0 0 0 n 0, .agg [.str d.1, .int .i64 d.2.1, .int .i64 d.2.2]] (HCo f off z)) :=
  Obl.goal (K := Goal P 1 22 _) mix (fun _ h => h) (cast (haC (fun v h => v = .bool (decide (d ∈ sl f 0 n)) ∧ h = HCo f off z) (el f) (el f) [] _ 0 0 _ _ 0 n 0 cp z 0 off off false _ _).symm ⟨el_plain _, hasC_loop (off := off) (cp := cp) (f := f) (d := d) hz hn n 0 (by omega) (by simp [sl])⟩)

theorem has_nil (d : Dg) : Goal P 0 22 (fun v h => v = .bool false ∧ h = ⟨.leaf, 0, GW⟩) (startH P 22 [.nils 0 0, .agg [.str d.1, .int .i64 d.2.1, .int .i64 d.2.2]] ⟨.leaf, 0, GW⟩) :=
  Obl.goal (K := Goal P 0 22 _) mix (fun _ h => h) (cast (hn (fun v h => v = .bool false ∧ h = ⟨.leaf, 0, GW⟩) (el fun _ => d) (el fun _ => d) d.1 [] d.2.1 d.2.2 0 0 0 0 0 0 0 0 0 0 false GW _).symm ⟨rfl, rfl⟩)

noncomputable def HS (f g : Nat → Dg) (z y : Nat) : AHeap := ⟨(.node (.node .leaf (some (.cells (.fn fun c => some (el g c)) y 35 0 0 1 0 false .leaf)) .leaf) (some (.cells (.fn fun c => some (el f c)) z 35 0 0 1 0 false .leaf)) .leaf), 2, GW⟩

theorem same_loop {z y n : Nat} {f g : Nat → Dg} (hz : n * 3 ≤ z) (hy : n * 3 ≤ y) (hn : n < 100000) (he : ∀ i, i < n → f i = g i) :
    ∀ r i, i + r = n → Goal P 2 21 (fun v h => v = .bool true ∧ h = HS f g z y) (Sm (el f) (el g) (i : Int) n n z y GW)
  | 0, i, hi => by
    obtain rfl : i = n := by omega
    exact Obl.goal (K := Goal P 2 21 _) mix (fun _ h => h) (cast (smbn (fun v h => v = .bool true ∧ h = HS f g z y) (el f) (el g) [] [] 0 0 0 0 _ _ _ 0 z y 0 0 false _ _).symm ⟨decide_eq_false (by omega), rfl, rfl⟩)
  | r + 1, i, hi => by
    have ih := same_loop (f := f) (g := g) hz hy hn he r (i + 1) (by omega)
    exact Obl.goal (K := Goal P 2 21 _) mix (fun _ h => h) (cast (smbyn (fun v h => v = .bool true ∧ h = HS f g z y) (el f) (el g) _ _ _ _ _ _ _ _ _ 0 z y 0 0 false _ _).symm
      ⟨decide_eq_true (by omega), ⟨by omega, by omega⟩, by rw [Int.toNat_natCast]; omega, agg_el f i, ⟨by omega, by omega⟩, by rw [Int.toNat_natCast]; omega, agg_el g i, fun h => by rw [ne35, decide_eq_true (he i (by omega))]; rfl, rfl, el_plain _, el_plain _, by rw [up1 i (by omega)]; exact ih⟩)

theorem same_ok {z y n : Nat} {f g : Nat → Dg} (hz : n * 3 ≤ z) (hy : n * 3 ≤ y) (hn : n < 100000) (he : sl f 0 n = sl g 0 n) :
    Goal P 2 21 (fun v h => v = .bool true ∧ h = HS f g z y) (startH P 21 [.slg 0 0 0 n 0, .slg 1 0 0 n 0] (HS f g z y)) :=
  Obl.goal (K := Goal P 2 21 _) mix (fun _ h => h) (cast (sman (fun v h => v = .bool true ∧ h = HS f g z y) (el f) (el g) [] [] 0 0 0 0 0 n n 0 z y 0 0 false _ _).symm
    ⟨by simp, el_plain _, el_plain _, same_loop hz hy hn (fun i hi => by
      have h1 := sl_get f n 0 i hi
      rw [he, sl_get g n 0 i hi, Nat.zero_add] at h1
      exact (Option.some.inj h1).symm) n 0 (by omega)⟩)

theorem same_nil : Goal P 0 21 (fun v h => v = .bool true ∧ h = ⟨.leaf, 0, GW⟩) (startH P 21 [.nils 0 0, .nils 0 0] ⟨.leaf, 0, GW⟩) :=
  Obl.goal (K := Goal P 0 21 _) mix (fun _ h => h) (cast (smn (fun v h => v = .bool true ∧ h = ⟨.leaf, 0, GW⟩) (el fun _ => zd) (el fun _ => zd) [] [] 0 0 0 0 0 0 0 0 0 0 0 0 false GW _).symm ⟨rfl, rfl⟩)

end Go.Proofs.YtdbfpjgnlfejmaaDoor.dg
