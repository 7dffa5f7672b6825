/- The walk of TallyWide: sums and products are those of wider numbers, if these fit. -/
import Derived.Test.YtioijfmamdnhnaaTallyB
namespace Go.Proofs.Ytioijfmamdnhnaa
open Go.RowKit Go.Lib

theorem Res.ofTrue {w w1 w2 w3 : World} (h1 : Below w.heap.size w w1) (h2 : Below w1.heap.size w1 w2) (h3 : Below w2.heap.size w2 w3) : Below w.heap.size w w3 :=
  (h1.trans (h2.mono h1.size)).trans (h3.mono (Nat.le_trans h1.size h2.size))

set_option maxHeartbeats 2000000 in
theorem wide_ss (a b : Int) (ha : 0 ≤ a) (ha' : a ≤ 18446744073709551615) (hb : 0 ≤ b) (hb' : b ≤ 18446744073709551615) (hs : a + b ≤ 18446744073709551615) (hm : a * b ≤ 18446744073709551615) (w : World) :
    Calls Try.prog 6 #[.int .u64 a, .int .u64 b] w (Res (.bool true) w) := by
  have cA := add_any a b ha ha' hb hb'
  have cM := mul_any a b ha ha' hb hb'
  have cS := add64_0 a b ha hb
  rw [show addV a b = a + b by unfold addV; rw [if_pos hs], show addE a b = 0 by unfold addE; rw [if_pos hs]] at cA
  rw [show mulV a b = a * b by unfold mulV; rw [if_pos hm], show mulE a b = 0 by unfold mulE; rw [if_pos hm]] at cM
  rw [show (a + b) % 18446744073709551616 = a + b by omega, show (a + b) / 18446744073709551616 = 0 by omega] at cS
  have cL := mul64_small a b ha ha' hb hb' hm
  clear hs hm
  generalize a * b = p at *
  generalize a + b = s at *
  go_enter Try.func6, Try.ntmps6
  go_wp2_with (first
    | (go_at_call 16; refine (works_any _).mono ?_; rintro e w1 ⟨rfl, h1⟩)
    | simp only [cS]
    | (go_at_call 24; refine (cL _).mono ?_; rintro e w2 ⟨rfl, hw⟩; rw [hw])
    | (go_at_call 10; refine (cA _).mono ?_; rintro e w3 ⟨rfl, h3⟩)
    | (go_at_call 12; refine (cM _).mono ?_; rintro e w4 ⟨rfl, h4⟩))
  go_ret
  exact ⟨rfl, Res.ofTrue h1 h3 h4⟩

set_option maxHeartbeats 2000000 in
theorem wide_sb (a b : Int) (ha : 0 ≤ a) (ha' : a ≤ 18446744073709551615) (hb : 0 ≤ b) (hb' : b ≤ 18446744073709551615) (hs : a + b ≤ 18446744073709551615) (hm : ¬ a * b ≤ 18446744073709551615) (w : World) :
    Calls Try.prog 6 #[.int .u64 a, .int .u64 b] w (Res (.bool true) w) := by
  have cA := add_any a b ha ha' hb hb'
  have cM := mul_any a b ha ha' hb hb'
  have cS := add64_0 a b ha hb
  rw [show addV a b = a + b by unfold addV; rw [if_pos hs], show addE a b = 0 by unfold addE; rw [if_pos hs]] at cA
  rw [show mulV a b = 0 by unfold mulV; rw [if_neg hm], show mulE a b = 9 by unfold mulE; rw [if_neg hm]] at cM
  rw [show (a + b) % 18446744073709551616 = a + b by omega, show (a + b) / 18446744073709551616 = 0 by omega] at cS
  obtain ⟨hi, lo, hhi, cL⟩ := mul64_big a b ha ha' hb hb' hm
  clear hs hm
  generalize a + b = s at *
  go_enter Try.func6, Try.ntmps6
  go_wp2_with (first
    | (go_at_call 16; refine (works_any _).mono ?_; rintro e w1 ⟨rfl, h1⟩)
    | simp only [cS]
    | (go_at_call 24; refine (cL _).mono ?_; rintro e w2 ⟨rfl, hw⟩; rw [hw])
    | (go_at_call 10; refine (cA _).mono ?_; rintro e w3 ⟨rfl, h3⟩)
    | (go_at_call 12; refine (cM _).mono ?_; rintro e w4 ⟨rfl, h4⟩))
  go_ret
  exact ⟨rfl, Res.ofTrue h1 h3 h4⟩

set_option maxHeartbeats 2000000 in
theorem wide_bs (a b : Int) (ha : 0 ≤ a) (ha' : a ≤ 18446744073709551615) (hb : 0 ≤ b) (hb' : b ≤ 18446744073709551615) (hs : ¬ a + b ≤ 18446744073709551615) (hm : a * b ≤ 18446744073709551615) (w : World) :
    Calls Try.prog 6 #[.int .u64 a, .int .u64 b] w (Res (.bool true) w) := by
  have cA := add_any a b ha ha' hb hb'
  have cM := mul_any a b ha ha' hb hb'
  have cS := add64_0 a b ha hb
  rw [show addV a b = 0 by unfold addV; rw [if_neg hs], show addE a b = 9 by unfold addE; rw [if_neg hs]] at cA
  rw [show mulV a b = a * b by unfold mulV; rw [if_pos hm], show mulE a b = 0 by unfold mulE; rw [if_pos hm]] at cM
  rw [show (a + b) / 18446744073709551616 = 1 by omega] at cS
  generalize (a + b) % 18446744073709551616 = r at cS
  have cL := mul64_small a b ha ha' hb hb' hm
  clear hs hm
  generalize a * b = p at *
  go_enter Try.func6, Try.ntmps6
  go_wp2_with (first
    | (go_at_call 16; refine (works_any _).mono ?_; rintro e w1 ⟨rfl, h1⟩)
    | simp only [cS]
    | (go_at_call 24; refine (cL _).mono ?_; rintro e w2 ⟨rfl, hw⟩; rw [hw])
    | (go_at_call 10; refine (cA _).mono ?_; rintro e w3 ⟨rfl, h3⟩)
    | (go_at_call 12; refine (cM _).mono ?_; rintro e w4 ⟨rfl, h4⟩))
  go_ret
  exact ⟨rfl, Res.ofTrue h1 h3 h4⟩

set_option maxHeartbeats 2000000 in
theorem wide_bb (a b : Int) (ha : 0 ≤ a) (ha' : a ≤ 18446744073709551615) (hb : 0 ≤ b) (hb' : b ≤ 18446744073709551615) (hs : ¬ a + b ≤ 18446744073709551615) (hm : ¬ a * b ≤ 18446744073709551615) (w : World) :
    Calls Try.prog 6 #[.int .u64 a, .int .u64 b] w (Res (.bool true) w) := by
  have cA := add_any a b ha ha' hb hb'
  have cM := mul_any a b ha ha' hb hb'
  have cS := add64_0 a b ha hb
  rw [show addV a b = 0 by unfold addV; rw [if_neg hs], show addE a b = 9 by unfold addE; rw [if_neg hs]] at cA
  rw [show mulV a b = 0 by unfold mulV; rw [if_neg hm], show mulE a b = 9 by unfold mulE; rw [if_neg hm]] at cM
  rw [show (a + b) / 18446744073709551616 = 1 by omega] at cS
  generalize (a + b) % 18446744073709551616 = r at cS
  obtain ⟨hi, lo, hhi, cL⟩ := mul64_big a b ha ha' hb hb' hm
  clear hs hm
  go_enter Try.func6, Try.ntmps6
  go_wp2_with (first
    | (go_at_call 16; refine (works_any _).mono ?_; rintro e w1 ⟨rfl, h1⟩)
    | simp only [cS]
    | (go_at_call 24; refine (cL _).mono ?_; rintro e w2 ⟨rfl, hw⟩; rw [hw])
    | (go_at_call 10; refine (cA _).mono ?_; rintro e w3 ⟨rfl, h3⟩)
    | (go_at_call 12; refine (cM _).mono ?_; rintro e w4 ⟨rfl, h4⟩))
  go_ret
  exact ⟨rfl, Res.ofTrue h1 h3 h4⟩

theorem wide_any (a b : Int) (ha : 0 ≤ a) (ha' : a ≤ 18446744073709551615) (hb : 0 ≤ b) (hb' : b ≤ 18446744073709551615) (w : World) :
    Calls Try.prog 6 #[.int .u64 a, .int .u64 b] w (Res (.bool true) w) := by
  by_cases hs : a + b ≤ 18446744073709551615
  · by_cases hm : a * b ≤ 18446744073709551615
    · exact wide_ss a b ha ha' hb hb' hs hm w
    · exact wide_sb a b ha ha' hb hb' hs hm w
  · by_cases hm : a * b ≤ 18446744073709551615
    · exact wide_bs a b ha ha' hb hb' hs hm w
    · exact wide_bb a b ha ha' hb hb' hs hm w

end Go.Proofs.Ytioijfmamdnhnaa
