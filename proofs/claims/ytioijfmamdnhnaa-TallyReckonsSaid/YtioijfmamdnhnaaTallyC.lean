/- Contracts for what a check may cost: products that stop at the greatest number. -/
import Derived.Test.YtioijfmamdnhnaaTallyB
import Derived.LoopN
namespace Go.Proofs.Ytioijfmamdnhnaa
open Go.RowKit Go.Lib

def sat (x y : Int) : Int := if x * y ≤ 18446744073709551615 then x * y else 18446744073709551615

theorem sat_le (x y : Int) : sat x y ≤ 18446744073709551615 := by unfold sat; split <;> omega
theorem sat_ge {x y : Int} (hx : 0 ≤ x) (hy : 0 ≤ y) : 0 ≤ sat x y := by
  unfold sat; split
  · exact Int.mul_nonneg hx hy
  · omega

theorem mul_one (x : Int) (hx : 0 ≤ x) (hx' : x ≤ 18446744073709551615) (w : World) :
    Calls Try.prog 12 #[.int .u64 1, .int .u64 x] w (Res (.tuple #[.int .u64 x, .int .i64 0]) w) := by
  have := mul_any 1 x (by decide) (by decide) hx hx' w
  rw [show mulV 1 x = x by unfold mulV; rw [if_pos (by omega), Int.one_mul], show mulE 1 x = 0 by unfold mulE; rw [if_pos (by omega)]] at this
  exact this

set_option maxHeartbeats 2000000 in
theorem prod_fits (x y : Int) (hx : 0 ≤ x) (hx' : x ≤ 18446744073709551615) (hy : 0 ≤ y) (hy' : y ≤ 18446744073709551615) (h : x * y ≤ 18446744073709551615) (b : Nat) (w : World) (h0 : w.cell? ⟨b, 0, none⟩ = some (.int .u64 x)) (h1 : w.cell? ⟨b, 1, none⟩ = some (.int .u64 y)) (hb : b < w.heap.size) :
    Calls Try.prog 30 #[.slice (some ⟨b, 0, none⟩) 2 2] w (Res (.int .u64 (x * y)) w) := by
  have c1 := mul_one x hx hx'
  have c2 := mul_any x y hx hx' hy hy'
  rw [show mulV x y = x * y by unfold mulV; rw [if_pos h], show mulE x y = 0 by unfold mulE; rw [if_pos h]] at c2
  clear h
  generalize x * y = p at *
  go_enter Try.func30, Try.ntmps30
  go_wp2
  refine wp_loop_rounds 3 ?_
  rw [rounds_succ]
  go_wp2_with (first | (go_at_call 12; refine (c1 _).mono ?_; rintro e w1 ⟨rfl, g1⟩; have h1' : w1.cell? ⟨b, 1, none⟩ = some (.int .u64 y) := by rw [← h1]; simp only [World.cell?, g1.block b hb]))
  rw [rounds_succ]
  go_wp2_with (first | (go_at_call 12; refine (c2 _).mono ?_; rintro e w2 ⟨rfl, g2⟩))
  rw [rounds_succ]
  go_wp2
  go_ret
  exact ⟨rfl, g1.trans (g2.mono g1.size)⟩

set_option maxHeartbeats 2000000 in
theorem prod_over (x y : Int) (hx : 0 ≤ x) (hx' : x ≤ 18446744073709551615) (hy : 0 ≤ y) (hy' : y ≤ 18446744073709551615) (h : ¬ x * y ≤ 18446744073709551615) (b : Nat) (w : World) (h0 : w.cell? ⟨b, 0, none⟩ = some (.int .u64 x)) (h1 : w.cell? ⟨b, 1, none⟩ = some (.int .u64 y)) (hb : b < w.heap.size) :
    Calls Try.prog 30 #[.slice (some ⟨b, 0, none⟩) 2 2] w (Res (.int .u64 18446744073709551615) w) := by
  have c1 := mul_one x hx hx'
  have c2 := mul_any x y hx hx' hy hy'
  rw [show mulV x y = 0 by unfold mulV; rw [if_neg h], show mulE x y = 9 by unfold mulE; rw [if_neg h]] at c2
  clear h
  go_enter Try.func30, Try.ntmps30
  go_wp2
  refine wp_loop_rounds 3 ?_
  rw [rounds_succ]
  go_wp2_with (first | (go_at_call 12; refine (c1 _).mono ?_; rintro e w1 ⟨rfl, g1⟩; have h1' : w1.cell? ⟨b, 1, none⟩ = some (.int .u64 y) := by rw [← h1]; simp only [World.cell?, g1.block b hb]))
  rw [rounds_succ]
  go_wp2_with (first | (go_at_call 12; refine (c2 _).mono ?_; rintro e w2 ⟨rfl, g2⟩))
  go_ret
  exact ⟨rfl, g1.trans (g2.mono g1.size)⟩

theorem prod_any (x y : Int) (hx : 0 ≤ x) (hx' : x ≤ 18446744073709551615) (hy : 0 ≤ y) (hy' : y ≤ 18446744073709551615) (b : Nat) (w : World) (h0 : w.cell? ⟨b, 0, none⟩ = some (.int .u64 x)) (h1 : w.cell? ⟨b, 1, none⟩ = some (.int .u64 y)) (hb : b < w.heap.size) :
    Calls Try.prog 30 #[.slice (some ⟨b, 0, none⟩) 2 2] w (Res (.int .u64 (sat x y)) w) := by
  unfold sat
  split
  · rename_i h; exact prod_fits x y hx hx' hy hy' h b w h0 h1 hb
  · rename_i h; exact prod_over x y hx hx' hy hy' h b w h0 h1 hb

end Go.Proofs.Ytioijfmamdnhnaa
