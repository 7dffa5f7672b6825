/- Contracts of package tally's May, and of the reference's: which quotas may be. -/
import Derived.Test.YtioijfmamdnhnaaTallyB
namespace Go.Proofs.Ytioijfmamdnhnaa
open Go.RowKit Go.Lib

def mayB (a b c : Int) : Bool := decide (0 ≤ a) && decide (a ≤ 64) && (decide (0 ≤ b) && decide (b ≤ 1048576)) && (decide (0 ≤ c) && decide (c ≤ 64))

set_option maxHeartbeats 1000000 in
theorem may_any (a b c t s : Int) (w : World) : Calls Try.prog 17 #[.agg #[.int .i64 a, .int .i64 b, .int .i64 c, .int .u64 t, .int .u64 s]] w (Res (.bool (mayB a b c)) w) := by
  go_enter Try.func17, Try.ntmps17
  go_wp2
  all_goals go_ret
  all_goals exact ⟨by simp [mayB, *] <;> omega, (Below.refl _ _).alloc (Nat.le_refl _) _⟩

set_option maxHeartbeats 1000000 in
theorem rmay_any (a b c t s : Int) (w : World) : Calls Try.prog 18 #[.agg #[.int .i64 a, .int .i64 b, .int .i64 c, .int .u64 t, .int .u64 s]] w (Res (.bool (mayB a b c)) w) := by
  go_enter Try.func18, Try.ntmps18
  go_wp2
  all_goals go_ret
  all_goals exact ⟨by simp [mayB, *] <;> omega, (Below.refl _ _).alloc (Nat.le_refl _) _⟩

end Go.Proofs.Ytioijfmamdnhnaa
