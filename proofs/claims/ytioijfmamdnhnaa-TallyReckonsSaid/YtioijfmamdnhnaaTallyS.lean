/- The walk of TallyReckons: sums, products, and what a check may cost are the reference's. -/
import Derived.Test.YtioijfmamdnhnaaTallyD
import Derived.Test.YtioijfmamdnhnaaTallyW
namespace Go.Proofs.Ytioijfmamdnhnaa
open Go.RowKit Go.Lib

/-! ## What it costs below 0 -/

set_option maxHeartbeats 4000000 in
theorem bound_neg (n s : Int) (h : n < 0) (hn : s = 64) (w : World) :
    Calls Try.prog 14 #[.int .i64 n] w (Res (.int .u64 (cost s)) w) := by
  have hs0 : 64 ≤ s := by omega
  have hs1 : s ≤ 18446744073709551615 := by omega
  have a1 := sat_ge (x := 1) (y := s) (by decide) (by omega)
  have b1 := sat_le 1 s
  have a2 := sat_ge (x := sat 1 s) (y := s) a1 (by omega)
  have b2 := sat_le (sat 1 s) s
  have a3 := sat_ge (x := sat (sat 1 s) s) (y := s) a2 (by omega)
  have b3 := sat_le (sat (sat 1 s) s) s
  have c1 := prod_any 1 s (by decide) (by decide) (by omega) hs1
  have c2 := prod_any (sat 1 s) s a1 b1 (by omega) hs1
  have c3 := prod_any (sat (sat 1 s) s) s a2 b2 (by omega) hs1
  have c4 := prod_any 64 (sat (sat (sat 1 s) s) s) (by decide) (by decide) a3 b3
  unfold cost
  generalize sat 64 (sat (sat (sat 1 s) s) s) = r at *
  generalize sat (sat (sat 1 s) s) s = p3 at *
  generalize sat (sat 1 s) s = p2 at *
  generalize sat 1 s = p1 at *
  have e0 : (0 : Int) > n := h
  subst hn
  clear a1 a2 a3 b1 b2 b3
  go_enter Try.func14, Try.ntmps14
  go_wp2
  refine wp_loop_rounds 4 ?_
  rw [rounds_succ]
  go_wp2_with (first | (go_at_call 30; refine (c1 _ _ (cell0 _ _ _ _) (cell1 _ _ _ _) (cellb _ _)).mono ?_; rintro e w1 ⟨rfl, g1⟩))
  rw [rounds_succ]
  go_wp2_with (first | (go_at_call 30; refine (c2 _ _ (cell0 _ _ _ _) (cell1 _ _ _ _) (cellb _ _)).mono ?_; rintro e w2 ⟨rfl, g2⟩))
  rw [rounds_succ]
  go_wp2_with (first | (go_at_call 30; refine (c3 _ _ (cell0 _ _ _ _) (cell1 _ _ _ _) (cellb _ _)).mono ?_; rintro e w3 ⟨rfl, g3⟩))
  rw [rounds_succ]
  go_wp2_with (first | (go_at_call 30; refine (c4 _ _ (cell0 _ _ _ _) (cell1 _ _ _ _) (cellb _ _)).mono ?_; rintro e w4 ⟨rfl, g4⟩))
  go_ret
  exact ⟨rfl, chain (chain (chain (chain (Below.refl _ _) g1) g2) g3) g4⟩

/-! ## The reference's product -/

set_option maxHeartbeats 1000000 in
theorem rmul_zero (b : Int) (hb : 0 ≤ b) (hb' : b ≤ 18446744073709551615) (w : World) :
    Calls Try.prog 13 #[.int .u64 0, .int .u64 b] w (Res (.tuple #[.int .u64 0, .int .i64 0]) w) := by
  go_enter Try.func13, Try.ntmps13
  go_wp2
  go_ret2
  exact ⟨ret2_int (by simp) rfl, Below.refl _ _⟩

set_option maxHeartbeats 1000000 in
theorem rmul_fits (a b p : Int) (ha : 0 < a) (ha' : a ≤ 18446744073709551615) (hb : 0 ≤ b) (hb' : b ≤ 18446744073709551615) (hp : a * b = p) (h : p ≤ 18446744073709551615) (hp0 : 0 ≤ p) (w : World) :
    Calls Try.prog 13 #[.int .u64 a, .int .u64 b] w (Res (.tuple #[.int .u64 p, .int .i64 0]) w) := by
  have h1 : b ≤ 18446744073709551615 / a := (over_iff ha).2 (by rw [Int.mul_comm, hp]; exact h)
  have h3 : ¬ 18446744073709551615 / a < b := by omega
  have hne : ¬ a = 0 := by omega
  have e1 : a > 0 := ha
  have HP := Lib.hid hp
  clear hp
  go_enter Try.func13, Try.ntmps13
  go_wp2
  go_ret2
  exact ⟨ret2_int (by rw [HP.out]; exact u64_in _ hp0 h) rfl, Below.refl _ _⟩

set_option maxHeartbeats 1000000 in
theorem rmul_over (a b : Int) (ha : 0 < a) (ha' : a ≤ 18446744073709551615) (hb : 0 ≤ b) (hb' : b ≤ 18446744073709551615) (h : ¬ a * b ≤ 18446744073709551615) (w : World) :
    Calls Try.prog 13 #[.int .u64 a, .int .u64 b] w (Res (.tuple #[.int .u64 0, .int .i64 9]) w) := by
  have h1 : ¬ b ≤ 18446744073709551615 / a := fun k => h (by have := (over_iff ha).1 k; rwa [Int.mul_comm] at this)
  have h3 : 18446744073709551615 / a < b := by omega
  have hne : ¬ a = 0 := by omega
  have e1 : a > 0 := ha
  clear h h1
  go_enter Try.func13, Try.ntmps13
  go_wp2
  go_ret2
  exact ⟨ret2_int (by rfl) rfl, Below.refl _ _⟩

theorem rmul_any (a b : Int) (ha : 0 ≤ a) (ha' : a ≤ 18446744073709551615) (hb : 0 ≤ b) (hb' : b ≤ 18446744073709551615) (w : World) :
    Calls Try.prog 13 #[.int .u64 a, .int .u64 b] w (Res (.tuple #[.int .u64 (mulV a b), .int .i64 (mulE a b)]) w) := by
  rcases Int.lt_or_le 0 a with h0 | h0
  · by_cases h : a * b ≤ 18446744073709551615
    · rw [show mulV a b = a * b by unfold mulV; rw [if_pos h], show mulE a b = 0 by unfold mulE; rw [if_pos h]]
      exact rmul_fits a b _ h0 ha' hb hb' rfl h (Int.mul_nonneg ha hb) w
    · rw [show mulV a b = 0 by unfold mulV; rw [if_neg h], show mulE a b = 9 by unfold mulE; rw [if_neg h]]
      exact rmul_over a b h0 ha' hb hb' h w
  · obtain rfl : a = 0 := by omega
    rw [show mulV 0 b = 0 by unfold mulV; rw [if_pos (by omega), Int.zero_mul], show mulE 0 b = 0 by unfold mulE; rw [if_pos (by omega)]]
    exact rmul_zero b hb hb' w

/-! ## The reference's bound -/

theorem below2 {w0 w w1 : World} (h : Below w0.heap.size w0 w) (g : Below w.heap.size w w1) : Below w0.heap.size w0 w1 := h.trans (g.mono h.size)

set_option maxHeartbeats 4000000 in
theorem rbound_a (n s : Int) (h : n < 0 ∧ s = 64 ∨ 0 ≤ n ∧ n + 64 = s) (hhi : n ≤ 9223372036854775807)
    (c1 : ∀ w, Calls Try.prog 13 #[.int .u64 64, .int .u64 s] w (Res (.tuple #[.int .u64 0, .int .i64 9]) w))
    (w : World) : Calls Try.prog 15 #[.int .i64 n] w (Res (.int .u64 18446744073709551615) w) := by
  rcases h with ⟨h, rfl⟩ | ⟨h, hn⟩
  · have e0 : (0 : Int) > n := h
    go_enter Try.func15, Try.ntmps15
    go_wp2
    refine wp_loop_rounds 4 ?_
    rw [rounds_succ]
    go_wp2_with (first | (go_at_call 13; refine (c1 _).mono ?_; rintro e w1 ⟨rfl, g1⟩))
    go_ret
    exact ⟨rfl, g1⟩
  · have e0 : ¬ (0 : Int) > n := by omega
    go_enter Try.func15, Try.ntmps15
    go_wp2
    refine wp_loop_rounds 4 ?_
    rw [rounds_succ]
    go_wp2_with (first | (go_at_call 13; refine (c1 _).mono ?_; rintro e w1 ⟨rfl, g1⟩))
    go_ret
    exact ⟨rfl, g1⟩

set_option maxHeartbeats 4000000 in
theorem rbound_b (n s p1 : Int) (h : n < 0 ∧ s = 64 ∨ 0 ≤ n ∧ n + 64 = s) (hhi : n ≤ 9223372036854775807)
    (c1 : ∀ w, Calls Try.prog 13 #[.int .u64 64, .int .u64 s] w (Res (.tuple #[.int .u64 p1, .int .i64 0]) w))
    (c2 : ∀ w, Calls Try.prog 13 #[.int .u64 p1, .int .u64 s] w (Res (.tuple #[.int .u64 0, .int .i64 9]) w))
    (w : World) : Calls Try.prog 15 #[.int .i64 n] w (Res (.int .u64 18446744073709551615) w) := by
  rcases h with ⟨h, rfl⟩ | ⟨h, hn⟩
  · have e0 : (0 : Int) > n := h
    go_enter Try.func15, Try.ntmps15
    go_wp2
    refine wp_loop_rounds 4 ?_
    rw [rounds_succ]
    go_wp2_with (first | (go_at_call 13; refine (c1 _).mono ?_; rintro e w1 ⟨rfl, g1⟩))
    rw [rounds_succ]
    go_wp2_with (first | (go_at_call 13; refine (c2 _).mono ?_; rintro e w2 ⟨rfl, g2⟩))
    go_ret
    exact ⟨rfl, below2 (g1) g2⟩
  · have e0 : ¬ (0 : Int) > n := by omega
    go_enter Try.func15, Try.ntmps15
    go_wp2
    refine wp_loop_rounds 4 ?_
    rw [rounds_succ]
    go_wp2_with (first | (go_at_call 13; refine (c1 _).mono ?_; rintro e w1 ⟨rfl, g1⟩))
    rw [rounds_succ]
    go_wp2_with (first | (go_at_call 13; refine (c2 _).mono ?_; rintro e w2 ⟨rfl, g2⟩))
    go_ret
    exact ⟨rfl, below2 (g1) g2⟩

set_option maxHeartbeats 4000000 in
theorem rbound_c (n s p1 p2 : Int) (h : n < 0 ∧ s = 64 ∨ 0 ≤ n ∧ n + 64 = s) (hhi : n ≤ 9223372036854775807)
    (c1 : ∀ w, Calls Try.prog 13 #[.int .u64 64, .int .u64 s] w (Res (.tuple #[.int .u64 p1, .int .i64 0]) w))
    (c2 : ∀ w, Calls Try.prog 13 #[.int .u64 p1, .int .u64 s] w (Res (.tuple #[.int .u64 p2, .int .i64 0]) w))
    (c3 : ∀ w, Calls Try.prog 13 #[.int .u64 p2, .int .u64 s] w (Res (.tuple #[.int .u64 0, .int .i64 9]) w))
    (w : World) : Calls Try.prog 15 #[.int .i64 n] w (Res (.int .u64 18446744073709551615) w) := by
  rcases h with ⟨h, rfl⟩ | ⟨h, hn⟩
  · have e0 : (0 : Int) > n := h
    go_enter Try.func15, Try.ntmps15
    go_wp2
    refine wp_loop_rounds 4 ?_
    rw [rounds_succ]
    go_wp2_with (first | (go_at_call 13; refine (c1 _).mono ?_; rintro e w1 ⟨rfl, g1⟩))
    rw [rounds_succ]
    go_wp2_with (first | (go_at_call 13; refine (c2 _).mono ?_; rintro e w2 ⟨rfl, g2⟩))
    rw [rounds_succ]
    go_wp2_with (first | (go_at_call 13; refine (c3 _).mono ?_; rintro e w3 ⟨rfl, g3⟩))
    go_ret
    exact ⟨rfl, below2 (below2 (g1) g2) g3⟩
  · have e0 : ¬ (0 : Int) > n := by omega
    go_enter Try.func15, Try.ntmps15
    go_wp2
    refine wp_loop_rounds 4 ?_
    rw [rounds_succ]
    go_wp2_with (first | (go_at_call 13; refine (c1 _).mono ?_; rintro e w1 ⟨rfl, g1⟩))
    rw [rounds_succ]
    go_wp2_with (first | (go_at_call 13; refine (c2 _).mono ?_; rintro e w2 ⟨rfl, g2⟩))
    rw [rounds_succ]
    go_wp2_with (first | (go_at_call 13; refine (c3 _).mono ?_; rintro e w3 ⟨rfl, g3⟩))
    go_ret
    exact ⟨rfl, below2 (below2 (g1) g2) g3⟩

set_option maxHeartbeats 4000000 in
theorem rbound_d (n s p1 p2 p3 : Int) (h : n < 0 ∧ s = 64 ∨ 0 ≤ n ∧ n + 64 = s) (hhi : n ≤ 9223372036854775807)
    (c1 : ∀ w, Calls Try.prog 13 #[.int .u64 64, .int .u64 s] w (Res (.tuple #[.int .u64 p1, .int .i64 0]) w))
    (c2 : ∀ w, Calls Try.prog 13 #[.int .u64 p1, .int .u64 s] w (Res (.tuple #[.int .u64 p2, .int .i64 0]) w))
    (c3 : ∀ w, Calls Try.prog 13 #[.int .u64 p2, .int .u64 s] w (Res (.tuple #[.int .u64 p3, .int .i64 0]) w))
    (w : World) : Calls Try.prog 15 #[.int .i64 n] w (Res (.int .u64 p3) w) := by
  rcases h with ⟨h, rfl⟩ | ⟨h, hn⟩
  · have e0 : (0 : Int) > n := h
    go_enter Try.func15, Try.ntmps15
    go_wp2
    refine wp_loop_rounds 4 ?_
    rw [rounds_succ]
    go_wp2_with (first | (go_at_call 13; refine (c1 _).mono ?_; rintro e w1 ⟨rfl, g1⟩))
    rw [rounds_succ]
    go_wp2_with (first | (go_at_call 13; refine (c2 _).mono ?_; rintro e w2 ⟨rfl, g2⟩))
    rw [rounds_succ]
    go_wp2_with (first | (go_at_call 13; refine (c3 _).mono ?_; rintro e w3 ⟨rfl, g3⟩))
    rw [rounds_succ]
    go_wp2
    go_ret
    exact ⟨rfl, below2 (below2 (g1) g2) g3⟩
  · have e0 : ¬ (0 : Int) > n := by omega
    go_enter Try.func15, Try.ntmps15
    go_wp2
    refine wp_loop_rounds 4 ?_
    rw [rounds_succ]
    go_wp2_with (first | (go_at_call 13; refine (c1 _).mono ?_; rintro e w1 ⟨rfl, g1⟩))
    rw [rounds_succ]
    go_wp2_with (first | (go_at_call 13; refine (c2 _).mono ?_; rintro e w2 ⟨rfl, g2⟩))
    rw [rounds_succ]
    go_wp2_with (first | (go_at_call 13; refine (c3 _).mono ?_; rintro e w3 ⟨rfl, g3⟩))
    rw [rounds_succ]
    go_wp2
    go_ret
    exact ⟨rfl, below2 (below2 (g1) g2) g3⟩

theorem rbound_any (n s : Int) (h : n < 0 ∧ s = 64 ∨ 0 ≤ n ∧ n + 64 = s) (hhi : n ≤ 9223372036854775807) (w : World) : Calls Try.prog 15 #[.int .i64 n] w (Res (.int .u64 (cost s)) w) := by
  have hs0 : 64 ≤ s := by omega
  have hs1 : s ≤ 18446744073709551615 := by omega
  rw [cost_eq hs0 hs1]
  have g1 := mul3_ge (s := s) (by omega)
  have g0 : s ≤ s * s := by
    have := Int.mul_le_mul_of_nonneg_left (show (1 : Int) ≤ s by omega) (show (0 : Int) ≤ s by omega)
    omega
  have c1 := rmul_any 64 s (by decide) (by decide) (by omega) hs1
  by_cases q1 : 64 * s ≤ 18446744073709551615
  · rw [show mulV 64 s = 64 * s by unfold mulV; rw [if_pos q1], show mulE 64 s = 0 by unfold mulE; rw [if_pos q1]] at c1
    have c2 := rmul_any (64 * s) s (by omega) q1 (by omega) hs1
    have m2 : 64 * s * s = 64 * (s * s) := Int.mul_assoc 64 s s
    by_cases q2 : 64 * s * s ≤ 18446744073709551615
    · rw [show mulV (64 * s) s = 64 * s * s by unfold mulV; rw [if_pos q2], show mulE (64 * s) s = 0 by unfold mulE; rw [if_pos q2]] at c2
      have c3 := rmul_any (64 * s * s) s (by omega) q2 (by omega) hs1
      have m3 : 64 * s * s * s = 64 * (s * s * s) := by rw [m2, Int.mul_assoc]
      by_cases q3 : 64 * s * s * s ≤ 18446744073709551615
      · rw [show mulV (64 * s * s) s = 64 * s * s * s by unfold mulV; rw [if_pos q3], show mulE (64 * s * s) s = 0 by unfold mulE; rw [if_pos q3]] at c3
        rw [if_pos (by omega), ← m3]
        exact rbound_d n s _ _ _ h hhi c1 c2 c3 w
      · rw [show mulV (64 * s * s) s = 0 by unfold mulV; rw [if_neg q3], show mulE (64 * s * s) s = 9 by unfold mulE; rw [if_neg q3]] at c3
        rw [if_neg (by omega)]
        exact rbound_c n s _ _ h hhi c1 c2 c3 w
    · rw [show mulV (64 * s) s = 0 by unfold mulV; rw [if_neg q2], show mulE (64 * s) s = 9 by unfold mulE; rw [if_neg q2]] at c2
      rw [if_neg (by omega)]
      exact rbound_b n s _ h hhi c1 c2 w
  · rw [show mulV 64 s = 0 by unfold mulV; rw [if_neg q1], show mulE 64 s = 9 by unfold mulE; rw [if_neg q1]] at c1
    rw [if_neg (by omega)]
    exact rbound_a n s h hhi c1 w

end Go.Proofs.Ytioijfmamdnhnaa
