/- Contracts of package tally's sums and products, and of the reference's. -/
import Derived.Test.YtioijfmamdnhnaaRows
import Derived.WalkKit
import Derived.WalkSpells
import Derived.WalkLawsBesides
import Derived.Deep.QuietTactic
import Derived.BigQuiet
import Derived.Lib.Hide
namespace Go.Proofs.Ytioijfmamdnhnaa
open Go.RowKit

def addV (a b : Int) : Int := if a + b ≤ 18446744073709551615 then a + b else 0
def addE (a b : Int) : Int := if a + b ≤ 18446744073709551615 then 0 else 9
def mulV (a b : Int) : Int := if a * b ≤ 18446744073709551615 then a * b else 0
def mulE (a b : Int) : Int := if a * b ≤ 18446744073709551615 then 0 else 9

theorem ret2_int {j k : IntKind} {a b c d : Int} (h : a = b) (h' : c = d) : Ending.returned (.tuple #[.int j a, .int k c]) = .returned (.tuple #[.int j b, .int k d]) := by rw [h, h']

def Res (v : Value) (w : World) (e : Ending) (w' : World) : Prop := e = .returned v ∧ Below w.heap.size w w'

theorem u64_in (x : Int) (h : 0 ≤ x) (h' : x ≤ 18446744073709551615) : IntKind.u64.wrap x = x := by
  simp only [IntKind.wrap, IntKind.bits, IntKind.signed]
  simp
  omega

theorem over_iff {a b : Int} (hb : 0 < b) : a ≤ 18446744073709551615 / b ↔ a * b ≤ 18446744073709551615 :=
  Int.le_ediv_iff_mul_le hb

set_option maxHeartbeats 400000 in
theorem add_any (a b : Int) (ha : 0 ≤ a) (ha' : a ≤ 18446744073709551615) (hb : 0 ≤ b) (hb' : b ≤ 18446744073709551615) (w : World) :
    Calls Try.prog 10 #[.int .u64 a, .int .u64 b] w (Res (.tuple #[.int .u64 (addV a b), .int .i64 (addE a b)]) w) := by
  go_enter Try.func10, Try.ntmps10
  go_wp2
  · go_ret2
    exact ⟨ret2_int (by unfold addV; rw [if_neg (by omega)]) (by unfold addE; rw [if_neg (by omega)]), ((Below.refl _ _).alloc (Nat.le_refl _) _).alloc (by simp) _⟩
  · go_ret2
    exact ⟨ret2_int (by unfold addV; rw [if_pos (by omega)]) (by unfold addE; rw [if_pos (by omega)]), ((Below.refl _ _).alloc (Nat.le_refl _) _).alloc (by simp) _⟩

set_option maxHeartbeats 400000 in
theorem radd_any (a b : Int) (ha : 0 ≤ a) (ha' : a ≤ 18446744073709551615) (hb : 0 ≤ b) (hb' : b ≤ 18446744073709551615) (w : World) :
    Calls Try.prog 11 #[.int .u64 a, .int .u64 b] w (Res (.tuple #[.int .u64 (addV a b), .int .i64 (addE a b)]) w) := by
  go_enter Try.func11, Try.ntmps11
  go_wp2
  · go_ret2
    exact ⟨ret2_int (by unfold addV; rw [if_neg (by omega)]) (by unfold addE; rw [if_neg (by omega)]), (Below.refl _ _)⟩
  · go_ret2
    exact ⟨ret2_int (by unfold addV; rw [if_pos (by omega)]) (by unfold addE; rw [if_pos (by omega)]), (Below.refl _ _)⟩

set_option maxHeartbeats 400000 in
theorem mul_any (a b : Int) (ha : 0 ≤ a) (ha' : a ≤ 18446744073709551615) (hb : 0 ≤ b) (hb' : b ≤ 18446744073709551615) (w : World) :
    Calls Try.prog 12 #[.int .u64 a, .int .u64 b] w (Res (.tuple #[.int .u64 (mulV a b), .int .i64 (mulE a b)]) w) := by
  by_cases h0 : b = 0
  · subst h0
    go_enter Try.func12, Try.ntmps12
    go_wp2
    go_quiet (fail)
    go_wp2
    go_ret2
    exact ⟨ret2_int (by simp [mulV]) (by simp [mulE]), below_drewN (((Below.refl _ _).alloc (Nat.le_refl _) _).alloc (by simp) _) _⟩
  · have hne : (b != 0) = true := by simpa using h0
    have hiff := over_iff (a := a) (b := b) (by omega)
    by_cases h1 : a ≤ 18446744073709551615 / b
    · have h2 := hiff.1 h1
      have h3 : ¬ 18446744073709551615 / b < a := by omega
      have H2 := Lib.hid h2
      clear hiff h2
      go_enter Try.func12, Try.ntmps12
      go_wp2
      go_quiet (fail)
      go_wp2
      go_ret2
      exact ⟨ret2_int (by unfold mulV; rw [if_pos H2.out]; exact u64_in _ (Int.mul_nonneg ha hb) H2.out) (by unfold mulE; rw [if_pos H2.out]), below_drewN (((Below.refl _ _).alloc (Nat.le_refl _) _).alloc (by simp) _) _⟩
    · have h2 : ¬ a * b ≤ 18446744073709551615 := fun h => h1 (hiff.2 h)
      have h3 : 18446744073709551615 / b < a := by omega
      have H2 := Lib.hid h2
      clear hiff h2 h1
      go_enter Try.func12, Try.ntmps12
      go_wp2
      go_quiet (fail)
      go_wp2
      go_ret2
      exact ⟨ret2_int (by unfold mulV; rw [if_neg (Int.not_le.2 H2.out)]) (by unfold mulE; rw [if_neg (Int.not_le.2 H2.out)]), below_drewN (((Below.refl _ _).alloc (Nat.le_refl _) _).alloc (by simp) _) _⟩

end Go.Proofs.Ytioijfmamdnhnaa
