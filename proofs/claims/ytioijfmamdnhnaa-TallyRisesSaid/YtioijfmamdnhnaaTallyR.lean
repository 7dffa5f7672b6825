/- The walk of TallyRises: what a check may cost rises with the bytes, till it is the greatest number. -/
import Derived.Test.YtioijfmamdnhnaaTallyD
import Derived.Test.YtioijfmamdnhnaaTallyW
namespace Go.Proofs.Ytioijfmamdnhnaa
open Go.RowKit Go.Lib

set_option maxHeartbeats 1000000 in
theorem rises_lt (g : Int → Int) (c : ∀ (n : Int) (w : World), 0 ≤ n → n ≤ 9223372036854775807 → Calls Try.prog 14 #[.int .i64 n] w (Res (.int .u64 (g n)) w)) (a b : Int) (ha' : a ≤ 9223372036854775807) (hb' : b ≤ 9223372036854775807) (h0 : 0 ≤ a) (h : a < b) (hc : g a < g b) (w : World) :
    Calls Try.prog 7 #[.int .i64 a, .int .i64 b] w (Res (.bool true) w) := by
  have ma : ¬ (0 : Int) > a := by omega
  have mb : ¬ (0 : Int) > b := by omega
  have e3 : ¬ b < a := by omega
  have e4 : b > a := by omega
  have e5 : ¬ a = b := by omega
  have e6 : (a == b) = false := by simpa using e5
  have e7 : (a != b) = true := by simpa using e5
  go_enter Try.func7, Try.ntmps7
  go_wp2_with (first
    | (go_at_call 16; refine (works_any _).mono ?_; rintro e w1 ⟨rfl, h1⟩)
    | (go_at_call 14; refine (c _ _ (by omega) (by omega)).mono ?_; rintro e w2 ⟨rfl, h2⟩))
  go_ret
  exact ⟨rfl, Res.ofTrue h1 (by assumption) h2⟩

set_option maxHeartbeats 1000000 in
theorem rises_lt_most (g : Int → Int) (c : ∀ (n : Int) (w : World), 0 ≤ n → n ≤ 9223372036854775807 → Calls Try.prog 14 #[.int .i64 n] w (Res (.int .u64 (g n)) w)) (a b : Int) (ha' : a ≤ 9223372036854775807) (hb' : b ≤ 9223372036854775807) (h0 : 0 ≤ a) (h : a < b) (hc : g a = 18446744073709551615) (hd : g b = 18446744073709551615) (w : World) :
    Calls Try.prog 7 #[.int .i64 a, .int .i64 b] w (Res (.bool true) w) := by
  have ma : ¬ (0 : Int) > a := by omega
  have mb : ¬ (0 : Int) > b := by omega
  have e3 : ¬ b < a := by omega
  have e4 : b > a := by omega
  have e5 : ¬ a = b := by omega
  have e6 : (a == b) = false := by simpa using e5
  have e7 : (a != b) = true := by simpa using e5
  go_enter Try.func7, Try.ntmps7
  go_wp2_with (first
    | (go_at_call 16; refine (works_any _).mono ?_; rintro e w1 ⟨rfl, h1⟩)
    | (go_at_call 14; refine (c _ _ (by omega) (by omega)).mono ?_; rintro e w2 ⟨rfl, h2⟩))
  go_ret
  exact ⟨rfl, Res.ofTrue h1 (by assumption) h2⟩

set_option maxHeartbeats 1000000 in
theorem rises_gt (g : Int → Int) (c : ∀ (n : Int) (w : World), 0 ≤ n → n ≤ 9223372036854775807 → Calls Try.prog 14 #[.int .i64 n] w (Res (.int .u64 (g n)) w)) (a b : Int) (ha' : a ≤ 9223372036854775807) (hb' : b ≤ 9223372036854775807) (h0 : 0 ≤ b) (h : b < a) (hc : g b < g a) (w : World) :
    Calls Try.prog 7 #[.int .i64 a, .int .i64 b] w (Res (.bool true) w) := by
  have ma : ¬ (0 : Int) > a := by omega
  have mb : ¬ (0 : Int) > b := by omega
  have e3 : b < a := by omega
  have e4 : ¬ b > a := by omega
  have e5 : ¬ a = b := by omega
  have e6 : (a == b) = false := by simpa using e5
  have e7 : (a != b) = true := by simpa using e5
  go_enter Try.func7, Try.ntmps7
  go_wp2_with (first
    | (go_at_call 16; refine (works_any _).mono ?_; rintro e w1 ⟨rfl, h1⟩)
    | (go_at_call 14; refine (c _ _ (by omega) (by omega)).mono ?_; rintro e w2 ⟨rfl, h2⟩))
  go_ret
  exact ⟨rfl, Res.ofTrue h1 (by assumption) h2⟩

set_option maxHeartbeats 1000000 in
theorem rises_gt_most (g : Int → Int) (c : ∀ (n : Int) (w : World), 0 ≤ n → n ≤ 9223372036854775807 → Calls Try.prog 14 #[.int .i64 n] w (Res (.int .u64 (g n)) w)) (a b : Int) (ha' : a ≤ 9223372036854775807) (hb' : b ≤ 9223372036854775807) (h0 : 0 ≤ b) (h : b < a) (hc : g b = 18446744073709551615) (hd : g a = 18446744073709551615) (w : World) :
    Calls Try.prog 7 #[.int .i64 a, .int .i64 b] w (Res (.bool true) w) := by
  have ma : ¬ (0 : Int) > a := by omega
  have mb : ¬ (0 : Int) > b := by omega
  have e3 : b < a := by omega
  have e4 : ¬ b > a := by omega
  have e5 : ¬ a = b := by omega
  have e6 : (a == b) = false := by simpa using e5
  have e7 : (a != b) = true := by simpa using e5
  go_enter Try.func7, Try.ntmps7
  go_wp2_with (first
    | (go_at_call 16; refine (works_any _).mono ?_; rintro e w1 ⟨rfl, h1⟩)
    | (go_at_call 14; refine (c _ _ (by omega) (by omega)).mono ?_; rintro e w2 ⟨rfl, h2⟩))
  go_ret
  exact ⟨rfl, Res.ofTrue h1 (by assumption) h2⟩

set_option maxHeartbeats 1000000 in
theorem rises_np (g : Int → Int) (c : ∀ (n : Int) (w : World), 0 ≤ n → n ≤ 9223372036854775807 → Calls Try.prog 14 #[.int .i64 n] w (Res (.int .u64 (g n)) w)) (a b : Int) (ha' : a ≤ 9223372036854775807) (hb' : b ≤ 9223372036854775807) (h0 : a < 0) (h : 0 < b) (hc : g 0 < g b) (w : World) :
    Calls Try.prog 7 #[.int .i64 a, .int .i64 b] w (Res (.bool true) w) := by
  have ma : (0 : Int) > a := by omega
  have mb : ¬ (0 : Int) > b := by omega
  have e3 : ¬ b < (0 : Int) := by omega
  have e4 : b > (0 : Int) := by omega
  have e5 : ¬ (0 : Int) = b := by omega
  have e6 : ((0 : Int) == b) = false := by simpa using e5
  have e7 : ((0 : Int) != b) = true := by simpa using e5
  go_enter Try.func7, Try.ntmps7
  go_wp2_with (first
    | (go_at_call 16; refine (works_any _).mono ?_; rintro e w1 ⟨rfl, h1⟩)
    | (go_at_call 14; refine (c _ _ (by omega) (by omega)).mono ?_; rintro e w2 ⟨rfl, h2⟩))
  go_ret
  exact ⟨rfl, Res.ofTrue h1 (by assumption) h2⟩

set_option maxHeartbeats 1000000 in
theorem rises_np_most (g : Int → Int) (c : ∀ (n : Int) (w : World), 0 ≤ n → n ≤ 9223372036854775807 → Calls Try.prog 14 #[.int .i64 n] w (Res (.int .u64 (g n)) w)) (a b : Int) (ha' : a ≤ 9223372036854775807) (hb' : b ≤ 9223372036854775807) (h0 : a < 0) (h : 0 < b) (hc : g 0 = 18446744073709551615) (hd : g b = 18446744073709551615) (w : World) :
    Calls Try.prog 7 #[.int .i64 a, .int .i64 b] w (Res (.bool true) w) := by
  have ma : (0 : Int) > a := by omega
  have mb : ¬ (0 : Int) > b := by omega
  have e3 : ¬ b < (0 : Int) := by omega
  have e4 : b > (0 : Int) := by omega
  have e5 : ¬ (0 : Int) = b := by omega
  have e6 : ((0 : Int) == b) = false := by simpa using e5
  have e7 : ((0 : Int) != b) = true := by simpa using e5
  go_enter Try.func7, Try.ntmps7
  go_wp2_with (first
    | (go_at_call 16; refine (works_any _).mono ?_; rintro e w1 ⟨rfl, h1⟩)
    | (go_at_call 14; refine (c _ _ (by omega) (by omega)).mono ?_; rintro e w2 ⟨rfl, h2⟩))
  go_ret
  exact ⟨rfl, Res.ofTrue h1 (by assumption) h2⟩

set_option maxHeartbeats 1000000 in
theorem rises_pn (g : Int → Int) (c : ∀ (n : Int) (w : World), 0 ≤ n → n ≤ 9223372036854775807 → Calls Try.prog 14 #[.int .i64 n] w (Res (.int .u64 (g n)) w)) (a b : Int) (ha' : a ≤ 9223372036854775807) (hb' : b ≤ 9223372036854775807) (h0 : b < 0) (h : 0 < a) (hc : g 0 < g a) (w : World) :
    Calls Try.prog 7 #[.int .i64 a, .int .i64 b] w (Res (.bool true) w) := by
  have ma : ¬ (0 : Int) > a := by omega
  have mb : (0 : Int) > b := by omega
  have e3 : (0 : Int) < a := by omega
  have e4 : ¬ (0 : Int) > a := by omega
  have e5 : ¬ a = (0 : Int) := by omega
  have e6 : (a == (0 : Int)) = false := by simpa using e5
  have e7 : (a != (0 : Int)) = true := by simpa using e5
  go_enter Try.func7, Try.ntmps7
  go_wp2_with (first
    | (go_at_call 16; refine (works_any _).mono ?_; rintro e w1 ⟨rfl, h1⟩)
    | (go_at_call 14; refine (c _ _ (by omega) (by omega)).mono ?_; rintro e w2 ⟨rfl, h2⟩))
  go_ret
  exact ⟨rfl, Res.ofTrue h1 (by assumption) h2⟩

set_option maxHeartbeats 1000000 in
theorem rises_pn_most (g : Int → Int) (c : ∀ (n : Int) (w : World), 0 ≤ n → n ≤ 9223372036854775807 → Calls Try.prog 14 #[.int .i64 n] w (Res (.int .u64 (g n)) w)) (a b : Int) (ha' : a ≤ 9223372036854775807) (hb' : b ≤ 9223372036854775807) (h0 : b < 0) (h : 0 < a) (hc : g 0 = 18446744073709551615) (hd : g a = 18446744073709551615) (w : World) :
    Calls Try.prog 7 #[.int .i64 a, .int .i64 b] w (Res (.bool true) w) := by
  have ma : ¬ (0 : Int) > a := by omega
  have mb : (0 : Int) > b := by omega
  have e3 : (0 : Int) < a := by omega
  have e4 : ¬ (0 : Int) > a := by omega
  have e5 : ¬ a = (0 : Int) := by omega
  have e6 : (a == (0 : Int)) = false := by simpa using e5
  have e7 : (a != (0 : Int)) = true := by simpa using e5
  go_enter Try.func7, Try.ntmps7
  go_wp2_with (first
    | (go_at_call 16; refine (works_any _).mono ?_; rintro e w1 ⟨rfl, h1⟩)
    | (go_at_call 14; refine (c _ _ (by omega) (by omega)).mono ?_; rintro e w2 ⟨rfl, h2⟩))
  go_ret
  exact ⟨rfl, Res.ofTrue h1 (by assumption) h2⟩

set_option maxHeartbeats 1000000 in
theorem rises_eq (g : Int → Int) (c : ∀ (n : Int) (w : World), 0 ≤ n → n ≤ 9223372036854775807 → Calls Try.prog 14 #[.int .i64 n] w (Res (.int .u64 (g n)) w)) (a b : Int) (ha' : a ≤ 9223372036854775807) (hb' : b ≤ 9223372036854775807) (h0 : 0 ≤ a) (h : b = a) (w : World) :
    Calls Try.prog 7 #[.int .i64 a, .int .i64 b] w (Res (.bool true) w) := by
  subst h
  have ma : ¬ (0 : Int) > b := by omega
  go_enter Try.func7, Try.ntmps7
  go_wp2_with (first
    | (go_at_call 16; refine (works_any _).mono ?_; rintro e w1 ⟨rfl, h1⟩)
    | (go_at_call 14; refine (c _ _ (by omega) (by omega)).mono ?_; rintro e w2 ⟨rfl, h2⟩))
  go_ret
  exact ⟨rfl, Res.ofTrue h1 (by assumption) h2⟩

set_option maxHeartbeats 1000000 in
theorem rises_nn (g : Int → Int) (c : ∀ (n : Int) (w : World), 0 ≤ n → n ≤ 9223372036854775807 → Calls Try.prog 14 #[.int .i64 n] w (Res (.int .u64 (g n)) w)) (a b : Int) (ha' : a ≤ 9223372036854775807) (hb' : b ≤ 9223372036854775807) (h0 : a < 0) (h : b < 0) (w : World) :
    Calls Try.prog 7 #[.int .i64 a, .int .i64 b] w (Res (.bool true) w) := by
  have ma : (0 : Int) > a := by omega
  have mb : (0 : Int) > b := by omega
  go_enter Try.func7, Try.ntmps7
  go_wp2_with (first
    | (go_at_call 16; refine (works_any _).mono ?_; rintro e w1 ⟨rfl, h1⟩)
    | (go_at_call 14; refine (c _ _ (by omega) (by omega)).mono ?_; rintro e w2 ⟨rfl, h2⟩))
  go_ret
  exact ⟨rfl, Res.ofTrue h1 (by assumption) h2⟩

set_option maxHeartbeats 1000000 in
theorem rises_nz (g : Int → Int) (c : ∀ (n : Int) (w : World), 0 ≤ n → n ≤ 9223372036854775807 → Calls Try.prog 14 #[.int .i64 n] w (Res (.int .u64 (g n)) w)) (a b : Int) (ha' : a ≤ 9223372036854775807) (hb' : b ≤ 9223372036854775807) (h0 : a < 0) (h : b = 0) (w : World) :
    Calls Try.prog 7 #[.int .i64 a, .int .i64 b] w (Res (.bool true) w) := by
  subst h
  have ma : (0 : Int) > a := by omega
  go_enter Try.func7, Try.ntmps7
  go_wp2_with (first
    | (go_at_call 16; refine (works_any _).mono ?_; rintro e w1 ⟨rfl, h1⟩)
    | (go_at_call 14; refine (c _ _ (by omega) (by omega)).mono ?_; rintro e w2 ⟨rfl, h2⟩))
  go_ret
  exact ⟨rfl, Res.ofTrue h1 (by assumption) h2⟩

set_option maxHeartbeats 1000000 in
theorem rises_zn (g : Int → Int) (c : ∀ (n : Int) (w : World), 0 ≤ n → n ≤ 9223372036854775807 → Calls Try.prog 14 #[.int .i64 n] w (Res (.int .u64 (g n)) w)) (a b : Int) (ha' : a ≤ 9223372036854775807) (hb' : b ≤ 9223372036854775807) (h0 : b < 0) (h : a = 0) (w : World) :
    Calls Try.prog 7 #[.int .i64 a, .int .i64 b] w (Res (.bool true) w) := by
  subst h
  have mb : (0 : Int) > b := by omega
  go_enter Try.func7, Try.ntmps7
  go_wp2_with (first
    | (go_at_call 16; refine (works_any _).mono ?_; rintro e w1 ⟨rfl, h1⟩)
    | (go_at_call 14; refine (c _ _ (by omega) (by omega)).mono ?_; rintro e w2 ⟨rfl, h2⟩))
  go_ret
  exact ⟨rfl, Res.ofTrue h1 (by assumption) h2⟩

theorem rises_any (a b : Int) (ha : a ≤ 9223372036854775807) (hb : b ≤ 9223372036854775807) (w : World) :
    Calls Try.prog 7 #[.int .i64 a, .int .i64 b] w (Res (.bool true) w) := by
  have c : ∀ (n : Int) (w : World), 0 ≤ n → n ≤ 9223372036854775807 → Calls Try.prog 14 #[.int .i64 n] w (Res (.int .u64 ((fun n => cost (n + 64)) n)) w) := fun n w h h' => bound_any n (n + 64) h rfl h' w
  have r : ∀ x y : Int, 0 ≤ x → x < y → y ≤ 9223372036854775807 → cost (x + 64) < cost (y + 64) ∨ (cost (x + 64) = 18446744073709551615 ∧ cost (y + 64) = 18446744073709551615) := fun x y h1 h2 h3 => cost_rises (by omega) (by omega) (by omega)
  rcases Int.lt_or_le a 0 with h0 | h0
  · rcases Int.lt_trichotomy b 0 with h | h | h
    · exact rises_nn _ c a b ha hb h0 h w
    · exact rises_nz _ c a b ha hb h0 h w
    · rcases r 0 b (by decide) h hb with k | k
      · exact rises_np _ c a b ha hb h0 h k w
      · exact rises_np_most _ c a b ha hb h0 h k.1 k.2 w
  · rcases Int.lt_or_le b 0 with h1 | h1
    · rcases Int.lt_or_le 0 a with h | h
      · rcases r 0 a (by decide) h ha with k | k
        · exact rises_pn _ c a b ha hb h1 h k w
        · exact rises_pn_most _ c a b ha hb h1 h k.1 k.2 w
      · exact rises_zn _ c a b ha hb h1 (by omega) w
    · rcases Int.lt_trichotomy a b with h | h | h
      · rcases r a b h0 h hb with k | k
        · exact rises_lt _ c a b ha hb h0 h k w
        · exact rises_lt_most _ c a b ha hb h0 h k.1 k.2 w
      · exact rises_eq _ c a b ha hb h0 h.symm w
      · rcases r b a h1 h ha with k | k
        · exact rises_gt _ c a b ha hb h1 h k w
        · exact rises_gt_most _ c a b ha hb h1 h k.1 k.2 w

end Go.Proofs.Ytioijfmamdnhnaa
