/- The walk of TallyReckons. -/
import Derived.Test.YtioijfmamdnhnaaTallyS
namespace Go.Proofs.Ytioijfmamdnhnaa
open Go.RowKit Go.Lib

set_option maxHeartbeats 4000000 in
theorem reckons_with (a b n u v p q r : Int) (cA : ∀ w, Calls Try.prog 10 #[.int .u64 a, .int .u64 b] w (Res (.tuple #[.int .u64 u, .int .i64 v]) w))
    (dA : ∀ w, Calls Try.prog 11 #[.int .u64 a, .int .u64 b] w (Res (.tuple #[.int .u64 u, .int .i64 v]) w))
    (cM : ∀ w, Calls Try.prog 12 #[.int .u64 a, .int .u64 b] w (Res (.tuple #[.int .u64 p, .int .i64 q]) w))
    (dM : ∀ w, Calls Try.prog 13 #[.int .u64 a, .int .u64 b] w (Res (.tuple #[.int .u64 p, .int .i64 q]) w))
    (cB : ∀ w, Calls Try.prog 14 #[.int .i64 n] w (Res (.int .u64 r) w))
    (dB : ∀ w, Calls Try.prog 15 #[.int .i64 n] w (Res (.int .u64 r) w)) (w : World) :
    Calls Try.prog 3 #[.int .u64 a, .int .u64 b, .int .i64 n] w (Res (.bool true) w) := by
  go_enter Try.func3, Try.ntmps3
  go_wp2_with (first
    | (go_at_call 10; refine (cA _).mono ?_; rintro e w1 ⟨rfl, g1⟩)
    | (go_at_call 11; refine (dA _).mono ?_; rintro e w2 ⟨rfl, g2⟩)
    | (go_at_call 12; refine (cM _).mono ?_; rintro e w3 ⟨rfl, g3⟩)
    | (go_at_call 13; refine (dM _).mono ?_; rintro e w4 ⟨rfl, g4⟩)
    | (go_at_call 14; refine (cB _).mono ?_; rintro e w5 ⟨rfl, g5⟩)
    | (go_at_call 15; refine (dB _).mono ?_; rintro e w6 ⟨rfl, g6⟩)
    | (go_at_call 16; refine (works_any _).mono ?_; rintro e w7 ⟨rfl, g7⟩))
  go_ret
  exact ⟨rfl, below2 (below2 (below2 (below2 (below2 (below2 g1 g2) g3) g4) g5) g6) g7⟩

theorem reckons_any (a b n : Int) (ha : 0 ≤ a) (ha' : a ≤ 18446744073709551615) (hb : 0 ≤ b) (hb' : b ≤ 18446744073709551615) (hn : n ≤ 9223372036854775807) (w : World) :
    Calls Try.prog 3 #[.int .u64 a, .int .u64 b, .int .i64 n] w (Res (.bool true) w) := by
  have A := add_any a b ha ha' hb hb'
  have B := radd_any a b ha ha' hb hb'
  have C := mul_any a b ha ha' hb hb'
  have D := rmul_any a b ha ha' hb hb'
  rcases Int.lt_or_le n 0 with h | h
  · exact reckons_with a b n _ _ _ _ _ A B C D (bound_neg n 64 h rfl) (rbound_any n 64 (.inl ⟨h, rfl⟩) hn) w
  · exact reckons_with a b n _ _ _ _ _ A B C D (bound_any n (n + 64) h rfl hn) (rbound_any n (n + 64) (.inr ⟨h, rfl⟩) hn) w

end Go.Proofs.Ytioijfmamdnhnaa
