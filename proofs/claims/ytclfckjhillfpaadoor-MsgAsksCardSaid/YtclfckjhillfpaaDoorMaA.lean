/- May a request be? What stands in which kind, and how long it may be. -/
import Derived.Test.YtclfckjhillfpaaDoorMaP
set_option maxRecDepth 100000
namespace Go.Proofs.YtclfckjhillfpaaDoor.mq
open Go Ev

/-- What is told of texts of such lengths, where these are the most; 0: there is none. -/
def chkL (A B C : Nat) (a b c : List UInt8) : Int :=
  if (A = 0 ∧ a.length ≠ 0) ∨ (B = 0 ∧ b.length ≠ 0) ∨ (C = 0 ∧ c.length ≠ 0) then 2 else if a.length > A ∨ b.length > B ∨ c.length > C then 3 else 0

def limA (k : Int) : Nat := if k = 1 then 0 else 64
def limB (k : Int) : Nat := if k = 3 ∨ k = 4 ∨ k = 5 ∨ k = 6 ∨ k = 9 then 200 else 0
def limC (k : Int) : Nat := if k = 1 ∨ k = 3 ∨ k = 5 ∨ k = 9 then 5000 else 0
def chk (k : Int) (a b c : List UInt8) : Int := if k < 1 ∨ 9 < k then 2 else chkL (limA k) (limB k) (limC k) a b c

theorem chk2 {A B C : Nat} {a b c : List UInt8} (h : (A = 0 ∧ a.length ≠ 0) ∨ (B = 0 ∧ b.length ≠ 0) ∨ (C = 0 ∧ c.length ≠ 0)) : chkL A B C a b c = 2 := if_pos h
theorem chk3 {A B C : Nat} {a b c : List UInt8} (h : ¬((A = 0 ∧ a.length ≠ 0) ∨ (B = 0 ∧ b.length ≠ 0) ∨ (C = 0 ∧ c.length ≠ 0))) (h3 : a.length > A ∨ b.length > B ∨ c.length > C) : chkL A B C a b c = 3 := by
  unfold chkL
  rw [if_neg h, if_pos h3]
theorem chk0 {A B C : Nat} {a b c : List UInt8} (h : ¬((A = 0 ∧ a.length ≠ 0) ∨ (B = 0 ∧ b.length ≠ 0) ∨ (C = 0 ∧ c.length ≠ 0))) (h3 : ¬(a.length > A ∨ b.length > B ∨ c.length > C)) : chkL A B C a b c = 0 := by
  unfold chkL
  rw [if_neg h, if_neg h3]

theorem neT {a : List UInt8} (h : (!a == ([] : List UInt8)) = true) : a.length ≠ 0 := by
  rintro e
  rw [List.length_eq_zero_iff.1 e] at h
  cases h
theorem neF {a : List UInt8} (h : (!a == ([] : List UInt8)) = false) : a.length = 0 := by
  cases a with
  | nil => rfl
  | cons x r => cases h

end Go.Proofs.YtclfckjhillfpaaDoor.mq
