/- What a check may cost, by the program. -/
import Derived.Test.YtioijfmamdnhnaaTallyC
namespace Go.Proofs.Ytioijfmamdnhnaa
open Go.RowKit Go.Lib

theorem chain {w0 w w1 : World} {c : Array Value} {t : TypeId} (h : Below w0.heap.size w0 w) (g : Below (w.alloc (.cells c t)).heap.size (w.alloc (.cells c t)) w1) : Below w0.heap.size w0 w1 :=
  (h.alloc h.size _).trans (g.mono (by have := h.size; show w0.heap.size ≤ (w.heap.push _).size; simp; omega))

theorem cell0 (w : World) (x y : Value) (t : TypeId) : (w.alloc (.cells #[x, y] t)).cell? ⟨w.heap.size, 0, none⟩ = some x := by
  unfold World.cell?
  show (match (w.heap.push (Obj.cells #[x, y] t))[w.heap.size]? with | some (.cells c _ _) => c[0]? | _ => none) = some x
  simp
theorem cell1 (w : World) (x y : Value) (t : TypeId) : (w.alloc (.cells #[x, y] t)).cell? ⟨w.heap.size, 1, none⟩ = some y := by
  unfold World.cell?
  show (match (w.heap.push (Obj.cells #[x, y] t))[w.heap.size]? with | some (.cells c _ _) => c[1]? | _ => none) = some y
  simp
theorem cellb (w : World) (o : Obj) : w.heap.size < (w.alloc o).heap.size := by show w.heap.size < (w.heap.push o).size; simp

def cost (s : Int) : Int := sat 64 (sat (sat (sat 1 s) s) s)

set_option maxHeartbeats 4000000 in
theorem bound_any (n s : Int) (h : 0 ≤ n) (hn : n + 64 = s) (hhi : n ≤ 9223372036854775807) (w : World) :
    Calls Try.prog 14 #[.int .i64 n] w (Res (.int .u64 (cost s)) w) := by
  have hs0 : 64 ≤ s := by omega
  have hs1 : s ≤ 18446744073709551615 := by omega
  have a1 := sat_ge (x := 1) (y := s) (by decide) (by omega)
  have b1 := sat_le 1 s
  have a2 := sat_ge (x := sat 1 s) (y := s) a1 (by omega)
  have b2 := sat_le (sat 1 s) s
  have a3 := sat_ge (x := sat (sat 1 s) s) (y := s) a2 (by omega)
  have b3 := sat_le (sat (sat 1 s) s) s
  have c1 := prod_any 1 s (by decide) (by decide) (by omega) hs1
  have c2 := prod_any (sat 1 s) s a1 b1 (by omega) hs1
  have c3 := prod_any (sat (sat 1 s) s) s a2 b2 (by omega) hs1
  have c4 := prod_any 64 (sat (sat (sat 1 s) s) s) (by decide) (by decide) a3 b3
  unfold cost
  generalize sat 64 (sat (sat (sat 1 s) s) s) = r at *
  generalize sat (sat (sat 1 s) s) s = p3 at *
  generalize sat (sat 1 s) s = p2 at *
  generalize sat 1 s = p1 at *
  have e0 : ¬ (0 : Int) > n := by omega
  have e0' : ¬ n < (0 : Int) := by omega
  clear a1 a2 a3 b1 b2 b3
  go_enter Try.func14, Try.ntmps14
  go_wp2
  refine wp_loop_rounds 4 ?_
  rw [rounds_succ]
  go_wp2_with (first | (go_at_call 30; refine (c1 _ _ (cell0 _ _ _ _) (cell1 _ _ _ _) (cellb _ _)).mono ?_; rintro e w1 ⟨rfl, g1⟩))
  rw [rounds_succ]
  go_wp2_with (first | (go_at_call 30; refine (c2 _ _ (cell0 _ _ _ _) (cell1 _ _ _ _) (cellb _ _)).mono ?_; rintro e w2 ⟨rfl, g2⟩))
  rw [rounds_succ]
  go_wp2_with (first | (go_at_call 30; refine (c3 _ _ (cell0 _ _ _ _) (cell1 _ _ _ _) (cellb _ _)).mono ?_; rintro e w3 ⟨rfl, g3⟩))
  rw [rounds_succ]
  go_wp2_with (first | (go_at_call 30; refine (c4 _ _ (cell0 _ _ _ _) (cell1 _ _ _ _) (cellb _ _)).mono ?_; rintro e w4 ⟨rfl, g4⟩))
  go_ret
  exact ⟨rfl, chain (chain (chain (chain (Below.refl _ _) g1) g2) g3) g4⟩

/-! ## What it is -/

theorem mul3_ge {s : Int} (h : 1 ≤ s) : s * s ≤ s * s * s := by
  have := Int.mul_le_mul_of_nonneg_left h (Int.mul_nonneg (by omega : 0 ≤ s) (by omega : 0 ≤ s))
  omega

theorem cost_eq {s : Int} (h : 64 ≤ s) (h' : s ≤ 18446744073709551615) : cost s = if 64 * (s * s * s) ≤ 18446744073709551615 then 64 * (s * s * s) else 18446744073709551615 := by
  have g1 := mul3_ge (s := s) (by omega)
  have g0 : s ≤ s * s := by
    have := Int.mul_le_mul_of_nonneg_left (show (1 : Int) ≤ s by omega) (show (0 : Int) ≤ s by omega)
    omega
  have e1 : sat 1 s = s := by unfold sat; rw [Int.one_mul, if_pos h']
  unfold cost
  rw [e1]
  by_cases h2 : s * s ≤ 18446744073709551615
  · have e2 : sat s s = s * s := by unfold sat; rw [if_pos h2]
    rw [e2]
    by_cases h3 : s * s * s ≤ 18446744073709551615
    · have e3 : sat (s * s) s = s * s * s := by unfold sat; rw [if_pos h3]
      rw [e3]; rfl
    · have e3 : sat (s * s) s = 18446744073709551615 := by unfold sat; rw [if_neg h3]
      rw [e3, if_neg (by omega)]; rfl
  · have e2 : sat s s = 18446744073709551615 := by unfold sat; rw [if_neg h2]
    have e3 : sat 18446744073709551615 s = 18446744073709551615 := by
      unfold sat; rw [if_neg]
      omega
    rw [e2, e3, if_neg (by omega)]; rfl

/-- It rises, till it is the greatest number. -/
theorem cost_rises {s t : Int} (h : 64 ≤ s) (hst : s < t) (ht : t ≤ 18446744073709551615) : cost s < cost t ∨ (cost s = 18446744073709551615 ∧ cost t = 18446744073709551615) := by
  rw [cost_eq h (by omega), cost_eq (by omega) ht]
  have k1 : s * s ≤ t * t := Int.mul_le_mul (by omega) (by omega) (by omega) (by omega)
  have k2 : s * s * s < t * t * t := by
    have m1 : s * s * s ≤ t * t * s := Int.mul_le_mul_of_nonneg_right k1 (by omega)
    have hpos : 0 < t * t := Int.mul_pos (by omega) (by omega)
    have m2 : t * t * s < t * t * t := Int.mul_lt_mul_of_pos_left hst hpos
    omega
  split
  · split
    · left; omega
    · omega
  · split
    · omega
    · right; exact ⟨rfl, rfl⟩

end Go.Proofs.Ytioijfmamdnhnaa
