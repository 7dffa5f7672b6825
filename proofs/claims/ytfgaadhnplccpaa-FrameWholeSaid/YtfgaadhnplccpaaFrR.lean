/- FrameWhole: the second loop's rounds. -/
import Derived.Test.YtfgaadhnplccpaaFrO
set_option maxRecDepth 100000
namespace Go.Proofs.Ytfgaadhnplccpaa.frw
open Go Ev frm

section
variable {po pl pc : Nat} {pf : Nat → Int} {kw : Nat} {gw : Nat → List UInt8}

/-- How many bytes are taken. -/
theorem took (A : List UInt8) (x : Int) (hx : 0 ≤ x ∧ x < 256) : ∃ N : Nat, (if decide (IntKind.i64.wrap x < (↑A.length : Int)) = true then IntKind.i64.wrap x else (↑A.length : Int)) = (N : Int) ∧ N ≤ A.length := by
  rw [IntWalk.i64_in x (by omega)]
  by_cases h : x < (A.length : Int)
  · rw [decide_eq_true h, if_pos rfl]
    exact ⟨x.toNat, by omega, by omega⟩
  · rw [decide_eq_false h, if_neg Bool.false_ne_true]
    exact ⟨A.length, rfl, Nat.le_refl _⟩

theorem taken_ok (A : List UInt8) (N : Nat) : AV.str (List.take ((((N : Nat) : Int)).toNat - (0 : Nat)) (List.drop (0 : Nat) A)) = AV.str (A.take N) := by
  rw [Int.toNat_natCast, Nat.sub_zero, List.drop_zero]

theorem choose_N0 {A : List UInt8} {j : Nat} (hA : A ≠ []) (hplc : pl ≤ pc) (hpf : ∀ i, po ≤ i → i < po + pc → 0 ≤ pf i ∧ pf i < 256)
    (hE : ∀ N : Nat, N ≤ A.length → (¬ (j < pl ∧ j < 200) → N = A.length) → Goal P 0 4 Q (EsN0 po pl pc pf A (j : Nat) (N : Nat) (A.take N) kw gw)) : Goal P 0 4 Q (SsN0 po pl pc pf A (j : Nat) kw gw) := by
  have hl : 0 < A.length := List.length_pos_iff.2 hA
  have L0 : decide ((↑A.length : Int) > (0 : Int)) = true := decide_eq_true (by omega)
  by_cases h1 : j < pl
  · have L1 : decide (((j : Nat) : Int) < (↑pl : Int)) = true := decide_eq_true (by omega)
    by_cases h2 : j < 200
    · have L2 : decide (((j : Nat) : Int) < (200 : Int)) = true := decide_eq_true (by omega)
      have L3 : (0 : Int) ≤ ((j : Nat) : Int) ∧ ((j : Nat) : Int) < (↑pl : Int) := by omega
      have L4 : po ≤ po + (((j : Nat) : Int)).toNat * 1 ∧ po + (((j : Nat) : Int)).toNat * 1 + (1 : Nat) ≤ po + pc := by rw [Int.toNat_natCast]; omega
      obtain ⟨N, hN, hNl⟩ := took A (pf (po + (((j : Nat) : Int)).toNat * 1)) (hpf _ L4.1 (by omega))
      refine Obl.goal (K := Goal P 0 4 Q) mix (fun _ h => h) (cast (c1N0 0 0 0 po pl pc (rowF []) pf A [] (A.take N) [] 0 (j : Nat) 0 (N : Nat) (nb []) (nb []) 0 0 0 0 0 0 0 0 kw (rowF []) (rowF []) (rowF []) gw _).symm ⟨L0, L1, L2, L3, L4, congrArg (AV.int IntKind.i64) hN, by rw [hN]; omega, by rw [hN]; exact taken_ok A N, plain_str _, hE N hNl (fun h => absurd ⟨h1, h2⟩ h)⟩)
    · have L2 : decide (((j : Nat) : Int) < (200 : Int)) = false := decide_eq_false (by omega)
      exact Obl.goal (K := Goal P 0 4 Q) mix (fun _ h => h) (cast (c2N0 0 0 0 po pl pc (rowF []) pf A [] (A.take A.length) [] 0 (j : Nat) 0 (A.length : Nat) (nb []) (nb []) 0 0 0 0 0 0 0 0 kw (rowF []) (rowF []) (rowF []) gw _).symm ⟨L0, L1, L2, rfl, by omega, taken_ok A A.length, plain_str _, hE A.length (Nat.le_refl _) (fun _ => rfl)⟩)
  · have L1 : decide (((j : Nat) : Int) < (↑pl : Int)) = false := decide_eq_false (by omega)
    exact Obl.goal (K := Goal P 0 4 Q) mix (fun _ h => h) (cast (c3N0 0 0 0 po pl pc (rowF []) pf A [] (A.take A.length) [] 0 (j : Nat) 0 (A.length : Nat) (nb []) (nb []) 0 0 0 0 0 0 0 0 kw (rowF []) (rowF []) (rowF []) gw _).symm ⟨L0, L1, rfl, by omega, taken_ok A A.length, plain_str _, hE A.length (Nat.le_refl _) (fun _ => rfl)⟩)

theorem choose_N1 {A : List UInt8} {j : Nat} (k : Nat) (g : Nat → List UInt8) (hA : A ≠ []) (hplc : pl ≤ pc) (hpf : ∀ i, po ≤ i → i < po + pc → 0 ≤ pf i ∧ pf i < 256)
    (hE : ∀ N : Nat, N ≤ A.length → (¬ (j < pl ∧ j < 200) → N = A.length) → Goal P 0 4 Q (EsN1 po pl pc pf A (j : Nat) (N : Nat) (A.take N) kw gw k g)) : Goal P 0 4 Q (SsN1 po pl pc pf A (j : Nat) kw gw k g) := by
  have hl : 0 < A.length := List.length_pos_iff.2 hA
  have L0 : decide ((↑A.length : Int) > (0 : Int)) = true := decide_eq_true (by omega)
  by_cases h1 : j < pl
  · have L1 : decide (((j : Nat) : Int) < (↑pl : Int)) = true := decide_eq_true (by omega)
    by_cases h2 : j < 200
    · have L2 : decide (((j : Nat) : Int) < (200 : Int)) = true := decide_eq_true (by omega)
      have L3 : (0 : Int) ≤ ((j : Nat) : Int) ∧ ((j : Nat) : Int) < (↑pl : Int) := by omega
      have L4 : po ≤ po + (((j : Nat) : Int)).toNat * 1 ∧ po + (((j : Nat) : Int)).toNat * 1 + (1 : Nat) ≤ po + pc := by rw [Int.toNat_natCast]; omega
      obtain ⟨N, hN, hNl⟩ := took A (pf (po + (((j : Nat) : Int)).toNat * 1)) (hpf _ L4.1 (by omega))
      refine Obl.goal (K := Goal P 0 4 Q) mix (fun _ h => h) (cast (c1N1 0 0 0 po pl pc (rowF []) pf A [] (A.take N) [] 0 (j : Nat) 0 (N : Nat) (nb []) (nb []) 0 0 0 0 k 0 0 0 kw g (rowF []) (rowF []) gw _).symm ⟨L0, L1, L2, L3, L4, congrArg (AV.int IntKind.i64) hN, by rw [hN]; omega, by rw [hN]; exact taken_ok A N, plain_str _, plain_str _, hE N hNl (fun h => absurd ⟨h1, h2⟩ h)⟩)
    · have L2 : decide (((j : Nat) : Int) < (200 : Int)) = false := decide_eq_false (by omega)
      exact Obl.goal (K := Goal P 0 4 Q) mix (fun _ h => h) (cast (c2N1 0 0 0 po pl pc (rowF []) pf A [] (A.take A.length) [] 0 (j : Nat) 0 (A.length : Nat) (nb []) (nb []) 0 0 0 0 k 0 0 0 kw g (rowF []) (rowF []) gw _).symm ⟨L0, L1, L2, rfl, by omega, taken_ok A A.length, plain_str _, plain_str _, hE A.length (Nat.le_refl _) (fun _ => rfl)⟩)
  · have L1 : decide (((j : Nat) : Int) < (↑pl : Int)) = false := decide_eq_false (by omega)
    exact Obl.goal (K := Goal P 0 4 Q) mix (fun _ h => h) (cast (c3N1 0 0 0 po pl pc (rowF []) pf A [] (A.take A.length) [] 0 (j : Nat) 0 (A.length : Nat) (nb []) (nb []) 0 0 0 0 k 0 0 0 kw g (rowF []) (rowF []) gw _).symm ⟨L0, L1, rfl, by omega, taken_ok A A.length, plain_str _, plain_str _, hE A.length (Nat.le_refl _) (fun _ => rfl)⟩)

theorem choose_G0 {A : List UInt8} {j : Nat} (b : Nat → Int) (n : Nat) (hA : A ≠ []) (hplc : pl ≤ pc) (hpf : ∀ i, po ≤ i → i < po + pc → 0 ≤ pf i ∧ pf i < 256)
    (hE : ∀ N : Nat, N ≤ A.length → (¬ (j < pl ∧ j < 200) → N = A.length) → Goal P 0 4 Q (EsG0 po pl pc pf A (j : Nat) (N : Nat) (A.take N) kw gw b n)) : Goal P 0 4 Q (SsG0 po pl pc pf A (j : Nat) kw gw b n) := by
  have hl : 0 < A.length := List.length_pos_iff.2 hA
  have L0 : decide ((↑A.length : Int) > (0 : Int)) = true := decide_eq_true (by omega)
  by_cases h1 : j < pl
  · have L1 : decide (((j : Nat) : Int) < (↑pl : Int)) = true := decide_eq_true (by omega)
    by_cases h2 : j < 200
    · have L2 : decide (((j : Nat) : Int) < (200 : Int)) = true := decide_eq_true (by omega)
      have L3 : (0 : Int) ≤ ((j : Nat) : Int) ∧ ((j : Nat) : Int) < (↑pl : Int) := by omega
      have L4 : po ≤ po + (((j : Nat) : Int)).toNat * 1 ∧ po + (((j : Nat) : Int)).toNat * 1 + (1 : Nat) ≤ po + pc := by rw [Int.toNat_natCast]; omega
      obtain ⟨N, hN, hNl⟩ := took A (pf (po + (((j : Nat) : Int)).toNat * 1)) (hpf _ L4.1 (by omega))
      refine Obl.goal (K := Goal P 0 4 Q) mix (fun _ h => h) (cast (c1G0 0 0 0 po pl pc (rowF []) pf A [] (A.take N) [] 0 (j : Nat) 0 (N : Nat) b (nb []) 0 n 0 0 0 0 0 0 kw (rowF []) (rowF []) (rowF []) gw _).symm ⟨L0, L1, L2, L3, L4, congrArg (AV.int IntKind.i64) hN, by rw [hN]; omega, by rw [hN]; exact taken_ok A N, plain_str _, plain_int _, hE N hNl (fun h => absurd ⟨h1, h2⟩ h)⟩)
    · have L2 : decide (((j : Nat) : Int) < (200 : Int)) = false := decide_eq_false (by omega)
      exact Obl.goal (K := Goal P 0 4 Q) mix (fun _ h => h) (cast (c2G0 0 0 0 po pl pc (rowF []) pf A [] (A.take A.length) [] 0 (j : Nat) 0 (A.length : Nat) b (nb []) 0 n 0 0 0 0 0 0 kw (rowF []) (rowF []) (rowF []) gw _).symm ⟨L0, L1, L2, rfl, by omega, taken_ok A A.length, plain_str _, plain_int _, hE A.length (Nat.le_refl _) (fun _ => rfl)⟩)
  · have L1 : decide (((j : Nat) : Int) < (↑pl : Int)) = false := decide_eq_false (by omega)
    exact Obl.goal (K := Goal P 0 4 Q) mix (fun _ h => h) (cast (c3G0 0 0 0 po pl pc (rowF []) pf A [] (A.take A.length) [] 0 (j : Nat) 0 (A.length : Nat) b (nb []) 0 n 0 0 0 0 0 0 kw (rowF []) (rowF []) (rowF []) gw _).symm ⟨L0, L1, rfl, by omega, taken_ok A A.length, plain_str _, plain_int _, hE A.length (Nat.le_refl _) (fun _ => rfl)⟩)

theorem choose_G1 {A : List UInt8} {j : Nat} (k : Nat) (g : Nat → List UInt8) (b : Nat → Int) (n : Nat) (hA : A ≠ []) (hplc : pl ≤ pc) (hpf : ∀ i, po ≤ i → i < po + pc → 0 ≤ pf i ∧ pf i < 256)
    (hE : ∀ N : Nat, N ≤ A.length → (¬ (j < pl ∧ j < 200) → N = A.length) → Goal P 0 4 Q (EsG1 po pl pc pf A (j : Nat) (N : Nat) (A.take N) kw gw k g b n)) : Goal P 0 4 Q (SsG1 po pl pc pf A (j : Nat) kw gw k g b n) := by
  have hl : 0 < A.length := List.length_pos_iff.2 hA
  have L0 : decide ((↑A.length : Int) > (0 : Int)) = true := decide_eq_true (by omega)
  by_cases h1 : j < pl
  · have L1 : decide (((j : Nat) : Int) < (↑pl : Int)) = true := decide_eq_true (by omega)
    by_cases h2 : j < 200
    · have L2 : decide (((j : Nat) : Int) < (200 : Int)) = true := decide_eq_true (by omega)
      have L3 : (0 : Int) ≤ ((j : Nat) : Int) ∧ ((j : Nat) : Int) < (↑pl : Int) := by omega
      have L4 : po ≤ po + (((j : Nat) : Int)).toNat * 1 ∧ po + (((j : Nat) : Int)).toNat * 1 + (1 : Nat) ≤ po + pc := by rw [Int.toNat_natCast]; omega
      obtain ⟨N, hN, hNl⟩ := took A (pf (po + (((j : Nat) : Int)).toNat * 1)) (hpf _ L4.1 (by omega))
      refine Obl.goal (K := Goal P 0 4 Q) mix (fun _ h => h) (cast (c1G1 0 0 0 po pl pc (rowF []) pf A [] (A.take N) [] 0 (j : Nat) 0 (N : Nat) b (nb []) 0 n 0 0 k 0 0 0 kw g (rowF []) (rowF []) gw _).symm ⟨L0, L1, L2, L3, L4, congrArg (AV.int IntKind.i64) hN, by rw [hN]; omega, by rw [hN]; exact taken_ok A N, plain_str _, plain_str _, plain_int _, hE N hNl (fun h => absurd ⟨h1, h2⟩ h)⟩)
    · have L2 : decide (((j : Nat) : Int) < (200 : Int)) = false := decide_eq_false (by omega)
      exact Obl.goal (K := Goal P 0 4 Q) mix (fun _ h => h) (cast (c2G1 0 0 0 po pl pc (rowF []) pf A [] (A.take A.length) [] 0 (j : Nat) 0 (A.length : Nat) b (nb []) 0 n 0 0 k 0 0 0 kw g (rowF []) (rowF []) gw _).symm ⟨L0, L1, L2, rfl, by omega, taken_ok A A.length, plain_str _, plain_str _, plain_int _, hE A.length (Nat.le_refl _) (fun _ => rfl)⟩)
  · have L1 : decide (((j : Nat) : Int) < (↑pl : Int)) = false := decide_eq_false (by omega)
    exact Obl.goal (K := Goal P 0 4 Q) mix (fun _ h => h) (cast (c3G1 0 0 0 po pl pc (rowF []) pf A [] (A.take A.length) [] 0 (j : Nat) 0 (A.length : Nat) b (nb []) 0 n 0 0 k 0 0 0 kw g (rowF []) (rowF []) gw _).symm ⟨L0, L1, rfl, by omega, taken_ok A A.length, plain_str _, plain_str _, plain_int _, hE A.length (Nat.le_refl _) (fun _ => rfl)⟩)

theorem choose_C0 {A : List UInt8} {j : Nat} (b : Nat → Int) (o n m : Nat) (hA : A ≠ []) (hplc : pl ≤ pc) (hpf : ∀ i, po ≤ i → i < po + pc → 0 ≤ pf i ∧ pf i < 256)
    (hE : ∀ N : Nat, N ≤ A.length → (¬ (j < pl ∧ j < 200) → N = A.length) → Goal P 0 4 Q (EsC0 po pl pc pf A (j : Nat) (N : Nat) (A.take N) kw gw b o n m)) : Goal P 0 4 Q (SsC0 po pl pc pf A (j : Nat) kw gw b o n m) := by
  have hl : 0 < A.length := List.length_pos_iff.2 hA
  have L0 : decide ((↑A.length : Int) > (0 : Int)) = true := decide_eq_true (by omega)
  by_cases h1 : j < pl
  · have L1 : decide (((j : Nat) : Int) < (↑pl : Int)) = true := decide_eq_true (by omega)
    by_cases h2 : j < 200
    · have L2 : decide (((j : Nat) : Int) < (200 : Int)) = true := decide_eq_true (by omega)
      have L3 : (0 : Int) ≤ ((j : Nat) : Int) ∧ ((j : Nat) : Int) < (↑pl : Int) := by omega
      have L4 : po ≤ po + (((j : Nat) : Int)).toNat * 1 ∧ po + (((j : Nat) : Int)).toNat * 1 + (1 : Nat) ≤ po + pc := by rw [Int.toNat_natCast]; omega
      obtain ⟨N, hN, hNl⟩ := took A (pf (po + (((j : Nat) : Int)).toNat * 1)) (hpf _ L4.1 (by omega))
      refine Obl.goal (K := Goal P 0 4 Q) mix (fun _ h => h) (cast (c1C0 0 0 0 po pl pc (rowF []) pf A [] (A.take N) [] 0 (j : Nat) 0 (N : Nat) b (nb []) o n m 0 0 0 0 0 kw (rowF []) (rowF []) (rowF []) gw _).symm ⟨L0, L1, L2, L3, L4, congrArg (AV.int IntKind.i64) hN, by rw [hN]; omega, by rw [hN]; exact taken_ok A N, plain_str _, plain_int _, hE N hNl (fun h => absurd ⟨h1, h2⟩ h)⟩)
    · have L2 : decide (((j : Nat) : Int) < (200 : Int)) = false := decide_eq_false (by omega)
      exact Obl.goal (K := Goal P 0 4 Q) mix (fun _ h => h) (cast (c2C0 0 0 0 po pl pc (rowF []) pf A [] (A.take A.length) [] 0 (j : Nat) 0 (A.length : Nat) b (nb []) o n m 0 0 0 0 0 kw (rowF []) (rowF []) (rowF []) gw _).symm ⟨L0, L1, L2, rfl, by omega, taken_ok A A.length, plain_str _, plain_int _, hE A.length (Nat.le_refl _) (fun _ => rfl)⟩)
  · have L1 : decide (((j : Nat) : Int) < (↑pl : Int)) = false := decide_eq_false (by omega)
    exact Obl.goal (K := Goal P 0 4 Q) mix (fun _ h => h) (cast (c3C0 0 0 0 po pl pc (rowF []) pf A [] (A.take A.length) [] 0 (j : Nat) 0 (A.length : Nat) b (nb []) o n m 0 0 0 0 0 kw (rowF []) (rowF []) (rowF []) gw _).symm ⟨L0, L1, rfl, by omega, taken_ok A A.length, plain_str _, plain_int _, hE A.length (Nat.le_refl _) (fun _ => rfl)⟩)

theorem choose_C1 {A : List UInt8} {j : Nat} (k : Nat) (g : Nat → List UInt8) (b : Nat → Int) (o n m : Nat) (hA : A ≠ []) (hplc : pl ≤ pc) (hpf : ∀ i, po ≤ i → i < po + pc → 0 ≤ pf i ∧ pf i < 256)
    (hE : ∀ N : Nat, N ≤ A.length → (¬ (j < pl ∧ j < 200) → N = A.length) → Goal P 0 4 Q (EsC1 po pl pc pf A (j : Nat) (N : Nat) (A.take N) kw gw k g b o n m)) : Goal P 0 4 Q (SsC1 po pl pc pf A (j : Nat) kw gw k g b o n m) := by
  have hl : 0 < A.length := List.length_pos_iff.2 hA
  have L0 : decide ((↑A.length : Int) > (0 : Int)) = true := decide_eq_true (by omega)
  by_cases h1 : j < pl
  · have L1 : decide (((j : Nat) : Int) < (↑pl : Int)) = true := decide_eq_true (by omega)
    by_cases h2 : j < 200
    · have L2 : decide (((j : Nat) : Int) < (200 : Int)) = true := decide_eq_true (by omega)
      have L3 : (0 : Int) ≤ ((j : Nat) : Int) ∧ ((j : Nat) : Int) < (↑pl : Int) := by omega
      have L4 : po ≤ po + (((j : Nat) : Int)).toNat * 1 ∧ po + (((j : Nat) : Int)).toNat * 1 + (1 : Nat) ≤ po + pc := by rw [Int.toNat_natCast]; omega
      obtain ⟨N, hN, hNl⟩ := took A (pf (po + (((j : Nat) : Int)).toNat * 1)) (hpf _ L4.1 (by omega))
      refine Obl.goal (K := Goal P 0 4 Q) mix (fun _ h => h) (cast (c1C1 0 0 0 po pl pc (rowF []) pf A [] (A.take N) [] 0 (j : Nat) 0 (N : Nat) b (nb []) o n m 0 k 0 0 0 kw g (rowF []) (rowF []) gw _).symm ⟨L0, L1, L2, L3, L4, congrArg (AV.int IntKind.i64) hN, by rw [hN]; omega, by rw [hN]; exact taken_ok A N, plain_str _, plain_str _, plain_int _, hE N hNl (fun h => absurd ⟨h1, h2⟩ h)⟩)
    · have L2 : decide (((j : Nat) : Int) < (200 : Int)) = false := decide_eq_false (by omega)
      exact Obl.goal (K := Goal P 0 4 Q) mix (fun _ h => h) (cast (c2C1 0 0 0 po pl pc (rowF []) pf A [] (A.take A.length) [] 0 (j : Nat) 0 (A.length : Nat) b (nb []) o n m 0 k 0 0 0 kw g (rowF []) (rowF []) gw _).symm ⟨L0, L1, L2, rfl, by omega, taken_ok A A.length, plain_str _, plain_str _, plain_int _, hE A.length (Nat.le_refl _) (fun _ => rfl)⟩)
  · have L1 : decide (((j : Nat) : Int) < (↑pl : Int)) = false := decide_eq_false (by omega)
    exact Obl.goal (K := Goal P 0 4 Q) mix (fun _ h => h) (cast (c3C1 0 0 0 po pl pc (rowF []) pf A [] (A.take A.length) [] 0 (j : Nat) 0 (A.length : Nat) b (nb []) o n m 0 k 0 0 0 kw g (rowF []) (rowF []) gw _).symm ⟨L0, L1, rfl, by omega, taken_ok A A.length, plain_str _, plain_str _, plain_int _, hE A.length (Nat.le_refl _) (fun _ => rfl)⟩)

theorem sround {A T : List UInt8} {j : Nat} (hA : A ≠ []) (hplc : pl ≤ pc) (hpf : ∀ i, po ≤ i → i < po + pc → 0 ≤ pf i ∧ pf i < 256) (hj : j < 2 ^ 39) (hlen : T.length + A.length < 2 ^ 38) (hbad : ∀ N, (cut (T ++ A.take N)).bad = false) {M : AM} (hM : SHead po pl pc pf kw gw A j T M)
    (hn : ∀ N : Nat, N ≤ A.length → (¬ (j < pl ∧ j < 200) → N = A.length) → ∀ M, SHead po pl pc pf kw gw (A.drop N) (j + 1) (T ++ A.take N) M → Goal P 0 4 Q M) : Goal P 0 4 Q M := by
  have hT : (cut T).bad = false := by
    have := hbad 0
    rwa [List.take_zero, List.append_nil] at this
  have hle := left_le T
  cases hM with
  | none hlf =>
    cases hl : (cut T).fs with
    | nil =>
      refine choose_N0 hA hplc hpf fun N hN hN2 => ?_
      have hul : (A.take N).length ≤ A.length := by rw [List.length_take]; omega
      have hb := hbad N
      have hn2 := hn N hN hN2
      have hs : (T ++ A.take N).length < 2 ^ 39 := by rw [List.length_append]; omega
      obtain ⟨R1, R2⟩ := rest_ok A N hN
      generalize A.take N = u at hul hb hn2 hs
      by_cases h0 : u = []
      · subst h0
        rw [List.append_nil] at hn2
        have hd : SHead po pl pc pf kw gw (A.drop N) (j + 1) T _ := .none hlf
        rw [hl] at hd
        refine Obl.goal (K := Goal P 0 4 Q) mix (fun _ h => h) (cast (hN0 0 0 0 po pl pc (rowF []) pf A [] [] (A.drop N) 0 (j : Nat) 0 (N : Nat) (nb []) (nb []) 0 0 0 0 0 0 0 0 kw (rowF []) (rowF []) (rowF []) gw _).symm ⟨R1, R2, plain_str _, ?_⟩)
        rw [next_j j (by omega)]; exact hn2 _ hd
      · have hp : 0 < u.length := List.length_pos_iff.2 h0
        obtain ⟨p, hp'⟩ : ∃ p, u.length = p + 1 := ⟨u.length - 1, by omega⟩
        have hL := loop_grown .leaf u (nb u) p hp' (holds_nb u) (by omega)
        have hq := yDoneW (po := po) (pl := pl) (pc := pc) (pf := pf) (kw := kw) (gw := gw) (A := A) (N := N) (j := j) (u := u) hT hb hs hj hN (by rw [hlf]; exact hL) hn2
        rw [hl] at hq
        refine Obl.goal (K := Goal P 0 4 Q) mix (fun _ h => h) (cast (gN0 0 0 0 po pl pc (rowF []) pf A [] u [] 0 (j : Nat) 0 (N : Nat) (nb []) (nb u) 0 0 0 (p + 1) 0 0 0 0 kw (rowF []) (rowF []) (rowF []) gw _).symm ⟨⟨Nat.le_refl _, hp, room1 (by omega)⟩, rfl, tells_int fun k _ => rfl, by omega, plain_str _, plain_int _, ?_⟩)
        rw [hp']; exact hq
    | cons x r =>
      refine choose_N1 _ _ hA hplc hpf fun N hN hN2 => ?_
      have hul : (A.take N).length ≤ A.length := by rw [List.length_take]; omega
      have hb := hbad N
      have hn2 := hn N hN hN2
      have hs : (T ++ A.take N).length < 2 ^ 39 := by rw [List.length_append]; omega
      obtain ⟨R1, R2⟩ := rest_ok A N hN
      generalize A.take N = u at hul hb hn2 hs
      by_cases h0 : u = []
      · subst h0
        rw [List.append_nil] at hn2
        have hd : SHead po pl pc pf kw gw (A.drop N) (j + 1) T _ := .none hlf
        rw [hl] at hd
        refine Obl.goal (K := Goal P 0 4 Q) mix (fun _ h => h) (cast (hN1 0 0 0 po pl pc (rowF []) pf A [] [] (A.drop N) 0 (j : Nat) 0 (N : Nat) (nb []) (nb []) 0 0 0 0 (x :: r).length 0 0 0 kw (rowF (x :: r)) (rowF []) (rowF []) gw _).symm ⟨R1, R2, plain_str _, plain_str _, ?_⟩)
        rw [next_j j (by omega)]; exact hn2 _ hd
      · have hp : 0 < u.length := List.length_pos_iff.2 h0
        obtain ⟨p, hp'⟩ : ∃ p, u.length = p + 1 := ⟨u.length - 1, by omega⟩
        have hL := loop_grown .leaf u (nb u) p hp' (holds_nb u) (by omega)
        have hq := yDoneW (po := po) (pl := pl) (pc := pc) (pf := pf) (kw := kw) (gw := gw) (A := A) (N := N) (j := j) (u := u) hT hb hs hj hN (by rw [hlf]; exact hL) hn2
        rw [hl] at hq
        refine Obl.goal (K := Goal P 0 4 Q) mix (fun _ h => h) (cast (gN1 0 0 0 po pl pc (rowF []) pf A [] u [] 0 (j : Nat) 0 (N : Nat) (nb []) (nb u) 0 0 0 (p + 1) (x :: r).length 0 0 0 kw (rowF (x :: r)) (rowF []) (rowF []) gw _).symm ⟨⟨Nat.le_refl _, hp, room1 (by omega)⟩, rfl, tells_int fun k _ => rfl, by omega, plain_str _, plain_str _, plain_int _, ?_⟩)
        rw [hp']; exact hq
  | grown b n h1 h2 =>
    cases hl : (cut T).fs with
    | nil =>
      refine choose_G0 b n hA hplc hpf fun N hN hN2 => ?_
      have hul : (A.take N).length ≤ A.length := by rw [List.length_take]; omega
      have hb := hbad N
      have hn2 := hn N hN hN2
      have hs : (T ++ A.take N).length < 2 ^ 39 := by rw [List.length_append]; omega
      obtain ⟨R1, R2⟩ := rest_ok A N hN
      generalize A.take N = u at hul hb hn2 hs
      by_cases h0 : u = []
      · subst h0
        have hL := loop_grown .leaf (cut T).left b n h1 h2 (by omega)
        have hq := yDoneW (po := po) (pl := pl) (pc := pc) (pf := pf) (kw := kw) (gw := gw) (A := A) (N := N) (j := j) (u := []) hT hb hs hj hN (by rw [List.append_nil]; exact hL) hn2
        rw [hl] at hq
        exact Obl.goal (K := Goal P 0 4 Q) mix (fun _ h => h) (cast (hG0 0 0 0 po pl pc (rowF []) pf A [] [] [] 0 (j : Nat) 0 (N : Nat) b (nb []) 0 n 0 0 0 0 0 0 kw (rowF []) (rowF []) (rowF []) gw _).symm ⟨plain_str _, plain_int _, hq⟩)
      · have hp : 0 < u.length := List.length_pos_iff.2 h0
        have hl2 : ((cut T).left ++ u).length = n + u.length + 1 := by rw [List.length_append]; omega
        have hL := loop_grown .leaf ((cut T).left ++ u) (nb ((cut T).left ++ u)) (n + u.length) hl2 (holds_nb _) (by omega)
        have hq := yDoneW (po := po) (pl := pl) (pc := pc) (pf := pf) (kw := kw) (gw := gw) (A := A) (N := N) (j := j) (u := u) hT hb hs hj hN hL hn2
        rw [hl] at hq
        refine Obl.goal (K := Goal P 0 4 Q) mix (fun _ h => h) (cast (gG0 0 0 0 po pl pc (rowF []) pf A [] u [] 0 (j : Nat) 0 (N : Nat) b (nb ((cut T).left ++ u)) 0 n 0 (n + u.length + 1) 0 0 0 0 kw (rowF []) (rowF []) (rowF []) gw _).symm ⟨⟨Nat.le_refl _, hp, by omega, by omega, rfl, room1 (by omega), by omega⟩, rfl, tells_cat _ u b h1 h2 (by omega), by omega, plain_str _, plain_int _, ?_⟩)
        rw [show n + 1 + u.length = n + u.length + 1 by omega]; exact hq
    | cons x r =>
      refine choose_G1 _ _ b n hA hplc hpf fun N hN hN2 => ?_
      have hul : (A.take N).length ≤ A.length := by rw [List.length_take]; omega
      have hb := hbad N
      have hn2 := hn N hN hN2
      have hs : (T ++ A.take N).length < 2 ^ 39 := by rw [List.length_append]; omega
      obtain ⟨R1, R2⟩ := rest_ok A N hN
      generalize A.take N = u at hul hb hn2 hs
      by_cases h0 : u = []
      · subst h0
        have hL := loop_grown .leaf (cut T).left b n h1 h2 (by omega)
        have hq := yDoneW (po := po) (pl := pl) (pc := pc) (pf := pf) (kw := kw) (gw := gw) (A := A) (N := N) (j := j) (u := []) hT hb hs hj hN (by rw [List.append_nil]; exact hL) hn2
        rw [hl] at hq
        exact Obl.goal (K := Goal P 0 4 Q) mix (fun _ h => h) (cast (hG1 0 0 0 po pl pc (rowF []) pf A [] [] [] 0 (j : Nat) 0 (N : Nat) b (nb []) 0 n 0 0 (x :: r).length 0 0 0 kw (rowF (x :: r)) (rowF []) (rowF []) gw _).symm ⟨plain_str _, plain_str _, plain_int _, hq⟩)
      · have hp : 0 < u.length := List.length_pos_iff.2 h0
        have hl2 : ((cut T).left ++ u).length = n + u.length + 1 := by rw [List.length_append]; omega
        have hL := loop_grown .leaf ((cut T).left ++ u) (nb ((cut T).left ++ u)) (n + u.length) hl2 (holds_nb _) (by omega)
        have hq := yDoneW (po := po) (pl := pl) (pc := pc) (pf := pf) (kw := kw) (gw := gw) (A := A) (N := N) (j := j) (u := u) hT hb hs hj hN hL hn2
        rw [hl] at hq
        refine Obl.goal (K := Goal P 0 4 Q) mix (fun _ h => h) (cast (gG1 0 0 0 po pl pc (rowF []) pf A [] u [] 0 (j : Nat) 0 (N : Nat) b (nb ((cut T).left ++ u)) 0 n 0 (n + u.length + 1) (x :: r).length 0 0 0 kw (rowF (x :: r)) (rowF []) (rowF []) gw _).symm ⟨⟨Nat.le_refl _, hp, by omega, by omega, rfl, room1 (by omega), by omega⟩, rfl, tells_cat _ u b h1 h2 (by omega), by omega, plain_str _, plain_str _, plain_int _, ?_⟩)
        rw [show n + 1 + u.length = n + u.length + 1 by omega]; exact hq
  | rest b o n m h1 h2 h3 =>
    cases hl : (cut T).fs with
    | nil =>
      refine choose_C0 b o n m hA hplc hpf fun N hN hN2 => ?_
      have hul : (A.take N).length ≤ A.length := by rw [List.length_take]; omega
      have hb := hbad N
      have hn2 := hn N hN hN2
      have hs : (T ++ A.take N).length < 2 ^ 39 := by rw [List.length_append]; omega
      obtain ⟨R1, R2⟩ := rest_ok A N hN
      generalize A.take N = u at hul hb hn2 hs
      by_cases h0 : u = []
      · subst h0
        rw [List.append_nil] at hn2
        subst h1
        have hL := loop_rest .leaf _ (cut T).left [] b o m (Nat.lt_succ_self _) h2 h3 (by simp only [List.length_nil]; omega)
        have hq := zDoneW (po := po) (pl := pl) (pc := pc) (pf := pf) (kw := kw) (gw := gw) (A := A) (N := N) (j := j) hT hj hN hL hn2
        rw [hl] at hq
        exact Obl.goal (K := Goal P 0 4 Q) mix (fun _ h => h) (cast (hC0 0 0 0 po pl pc (rowF []) pf A [] [] [] 0 (j : Nat) 0 (N : Nat) b b o (cut T).left.length m m 0 0 0 0 kw (rowF []) (rowF []) (rowF []) gw _).symm ⟨⟨Nat.le_refl _, Nat.le_refl _, by omega, Nat.zero_le _, trivial⟩, rfl, tells_same b, rfl, plain_str _, plain_int _, hq⟩)
      · have hp : 0 < u.length := List.length_pos_iff.2 h0
        have hl2 : ((cut T).left ++ u).length = (n + u.length - 1) + 1 := by rw [List.length_append]; omega
        have hL := loop_grown .leaf ((cut T).left ++ u) (nb ((cut T).left ++ u)) (n + u.length - 1) hl2 (holds_nb _) (by omega)
        have hq := yDoneW (po := po) (pl := pl) (pc := pc) (pf := pf) (kw := kw) (gw := gw) (A := A) (N := N) (j := j) (u := u) hT hb hs hj hN hL hn2
        rw [hl] at hq
        refine Obl.goal (K := Goal P 0 4 Q) mix (fun _ h => h) (cast (gC0 0 0 0 po pl pc (rowF []) pf A [] u [] 0 (j : Nat) 0 (N : Nat) b (nb ((cut T).left ++ u)) o n m (n + u.length - 1 + 1) 0 0 0 0 kw (rowF []) (rowF []) (rowF []) gw _).symm ⟨⟨Nat.le_refl _, ⟨by omega, fun k _ => ⟨_, rfl, rfl⟩⟩, hp, by omega, room1 (by omega)⟩, rfl, tells_moved _ u b h1 h3, by omega, plain_str _, plain_int _, ?_⟩)
        rw [show n + u.length = n + u.length - 1 + 1 by omega]; exact hq
    | cons x r =>
      refine choose_C1 _ _ b o n m hA hplc hpf fun N hN hN2 => ?_
      have hul : (A.take N).length ≤ A.length := by rw [List.length_take]; omega
      have hb := hbad N
      have hn2 := hn N hN hN2
      have hs : (T ++ A.take N).length < 2 ^ 39 := by rw [List.length_append]; omega
      obtain ⟨R1, R2⟩ := rest_ok A N hN
      generalize A.take N = u at hul hb hn2 hs
      by_cases h0 : u = []
      · subst h0
        rw [List.append_nil] at hn2
        subst h1
        have hL := loop_rest .leaf _ (cut T).left [] b o m (Nat.lt_succ_self _) h2 h3 (by simp only [List.length_nil]; omega)
        have hq := zDoneW (po := po) (pl := pl) (pc := pc) (pf := pf) (kw := kw) (gw := gw) (A := A) (N := N) (j := j) hT hj hN hL hn2
        rw [hl] at hq
        exact Obl.goal (K := Goal P 0 4 Q) mix (fun _ h => h) (cast (hC1 0 0 0 po pl pc (rowF []) pf A [] [] [] 0 (j : Nat) 0 (N : Nat) b b o (cut T).left.length m m (x :: r).length 0 0 0 kw (rowF (x :: r)) (rowF []) (rowF []) gw _).symm ⟨⟨Nat.le_refl _, Nat.le_refl _, by omega, Nat.zero_le _, trivial⟩, rfl, tells_same b, rfl, plain_str _, plain_str _, plain_int _, hq⟩)
      · have hp : 0 < u.length := List.length_pos_iff.2 h0
        have hl2 : ((cut T).left ++ u).length = (n + u.length - 1) + 1 := by rw [List.length_append]; omega
        have hL := loop_grown .leaf ((cut T).left ++ u) (nb ((cut T).left ++ u)) (n + u.length - 1) hl2 (holds_nb _) (by omega)
        have hq := yDoneW (po := po) (pl := pl) (pc := pc) (pf := pf) (kw := kw) (gw := gw) (A := A) (N := N) (j := j) (u := u) hT hb hs hj hN hL hn2
        rw [hl] at hq
        refine Obl.goal (K := Goal P 0 4 Q) mix (fun _ h => h) (cast (gC1 0 0 0 po pl pc (rowF []) pf A [] u [] 0 (j : Nat) 0 (N : Nat) b (nb ((cut T).left ++ u)) o n m (n + u.length - 1 + 1) (x :: r).length 0 0 0 kw (rowF (x :: r)) (rowF []) (rowF []) gw _).symm ⟨⟨Nat.le_refl _, ⟨by omega, fun k _ => ⟨_, rfl, rfl⟩⟩, hp, by omega, room1 (by omega)⟩, rfl, tells_moved _ u b h1 h3, by omega, plain_str _, plain_str _, plain_int _, ?_⟩)
        rw [show n + u.length = n + u.length - 1 + 1 by omega]; exact hq

end


theorem lw_ok (k : Nat) (g : Nat → List UInt8) (hk : k < 2 ^ 39) (d : Nat) : ∀ i : Nat, i + d = k → Goal P 0 4 Q (LPW k g g (i : Nat)) := by
  induction d with
  | zero =>
    intro i hi
    exact Obl.goal (K := fun _ => False) mix (fun _ h => h.elim) (cast (lwn 0 0 0 0 0 0 g (nb []) [] [] [] [] (i : Nat) 0 0 0 (nb []) (nb []) 0 0 0 0 k 0 0 0 0 g g g g _).symm ⟨decide_eq_false (by omega), rfl⟩)
  | succ d ih =>
    intro i hi
    refine Obl.goal (K := Goal P 0 4 Q) mix (fun _ h => h) (cast (lwyn 0 0 0 0 0 0 g (nb []) [] [] [] [] (i : Nat) 0 0 0 (nb []) (nb []) 0 0 0 0 k 0 0 0 0 g g g g _).symm ⟨decide_eq_true (by omega), by omega, by omega, by omega, by omega, by simp, plain_str _, plain_str _, ?_⟩)
    rw [next_j i (by omega)]; exact ih (i + 1) (by omega)

theorem prefix_ok {X Y : List UInt8} (h : (cut (X ++ Y)).bad = false) : (cut X).bad = false := by
  cases hb : (cut X).bad with
  | false => rfl
  | true =>
    rw [cut_append, if_pos hb, hb] at h
    exact h

theorem second_s {po pl pc : Nat} {pf : Nat → Int} (hplc : pl ≤ pc) (hpf : ∀ i, po ≤ i → i < po + pc → 0 ≤ pf i ∧ pf i < 256) {A0 : List UInt8} {x : List UInt8} {r : List (List UInt8)} (h0 : cut A0 = ⟨x :: r, [], false⟩) (hA0 : A0.length ≤ 30 * 8194) (d : Nat) :
    ∀ (j : Nat) (T A : List UInt8) (M : AM), (200 - j) + A.length < d → T ++ A = A0 → (A ≠ [] → j ≤ 200) → SHead po pl pc pf (x :: r).length (rowF (x :: r)) A j T M → Goal P 0 4 Q M := by
  induction d with
  | zero => exact fun j T A M h => absurd h (Nat.not_lt_zero _)
  | succ d ih =>
    intro j T A M hd hTA hj hM
    have hfl := fs_le A0
    rw [h0] at hfl
    have hfl' : (x :: r).length ≤ A0.length := hfl
    by_cases hA : A = []
    · subst hA
      rw [List.append_nil] at hTA
      subst hTA
      have hw := lw_ok (x :: r).length (rowF (x :: r)) (by omega) (x :: r).length 0 (Nat.zero_add _)
      cases hM with
      | none _ =>
        rw [h0]
        exact Obl.goal (K := Goal P 0 4 Q) mix (fun _ h => h) (cast (xN 0 0 0 po pl pc (rowF []) pf [] [] [] [] 0 (j : Nat) 0 0 (nb []) (nb []) 0 0 0 0 0 0 0 0 (x :: r).length (rowF (x :: r)) (rowF []) (rowF []) (rowF (x :: r)) _).symm ⟨by simp, plain_str _, plain_str _, hw⟩)
      | grown b n h1 h2 => rw [h0] at h1; cases h1
      | rest b o n m h1 h2 h3 =>
        rw [h0]
        exact Obl.goal (K := Goal P 0 4 Q) mix (fun _ h => h) (cast (xC 0 0 0 po pl pc (rowF []) pf [] [] [] [] 0 (j : Nat) 0 0 b (nb []) o n m 0 0 0 0 0 (x :: r).length (rowF (x :: r)) (rowF []) (rowF []) (rowF (x :: r)) _).symm ⟨by simp, plain_str _, plain_str _, hw⟩)
    · have hl : 0 < A.length := List.length_pos_iff.2 hA
      have hj2 := hj hA
      have hlen : T.length + A.length = A0.length := by rw [← hTA, List.length_append]
      refine sround hA hplc hpf (by omega) (by omega) (fun N => ?_) hM fun N hN hN2 M hM => ?_
      · refine prefix_ok (Y := A.drop N) ?_
        rw [List.append_assoc, List.take_append_drop, hTA, h0]
      · refine ih (j + 1) (T ++ A.take N) (A.drop N) M ?_ (by rw [List.append_assoc, List.take_append_drop, hTA]) (fun hne => ?_) hM
        · rw [List.length_drop]
          by_cases hc : j < pl ∧ j < 200
          · omega
          · have := hN2 hc
            omega
        · by_cases hc : j < pl ∧ j < 200
          · omega
          · have := hN2 hc
            subst this
            exact absurd List.drop_length hne

theorem full_s {po pl pc : Nat} {pf : Nat → Int} (hplc : pl ≤ pc) (hpf : ∀ i, po ≤ i → i < po + pc → 0 ≤ pf i ∧ pf i < 256) (A : List UInt8) (x : List UInt8) (r : List (List UInt8)) (hA : A.length ≤ 30 * 8194) (h0 : cut A = ⟨x :: r, [], false⟩) :
    Goal P 0 4 Q (SsN0 po pl pc pf A (0 : Nat) (x :: r).length (rowF (x :: r))) := by
  refine second_s hplc hpf h0 hA _ 0 [] A _ (Nat.lt_succ_self _) rfl (fun _ => Nat.zero_le _) ?_
  have := SHead.none (po := po) (pl := pl) (pc := pc) (pf := pf) (kw := (x :: r).length) (gw := rowF (x :: r)) (A := A) (j := 0) (T := []) rfl
  exact this

theorem full_n (A : List UInt8) (x : List UInt8) (r : List (List UInt8)) (hA : A.length ≤ 30 * 8194) (h0 : cut A = ⟨x :: r, [], false⟩) : Goal P 0 4 Q (SnN0 A (0 : Nat) (x :: r).length (rowF (x :: r))) := by
  have hne : A ≠ [] := fun h => by
    subst h
    have : (cut []).fs = x :: r := by rw [h0]
    cases this
  have hl : 0 < A.length := List.length_pos_iff.2 hne
  have hfl := fs_le A
  rw [h0] at hfl
  have hfl' : (x :: r).length ≤ A.length := hfl
  obtain ⟨p, hp'⟩ : ∃ p, A.length = p + 1 := ⟨A.length - 1, by omega⟩
  obtain ⟨w, hw, hg⟩ := loop_grown .leaf A (nb A) p hp' (holds_nb A) (by omega)
  rw [h0] at hw hg
  have hlw := lw_ok (x :: r).length (rowF (x :: r)) (by omega) (x :: r).length 0 (Nat.zero_add _)
  have R := rest_ok A A.length (Nat.le_refl _)
  rw [List.drop_length] at R
  refine Obl.goal (K := Goal P 0 4 Q) mix (fun _ h => h) (cast (c3n 0 0 0 0 0 0 (rowF []) (nb []) A [] A [] 0 (0 : Nat) 0 (A.length : Nat) (nb []) (nb []) 0 0 0 0 0 0 0 0 (x :: r).length (rowF []) (rowF []) (rowF []) (rowF (x :: r)) _).symm ⟨decide_eq_true (by omega), by decide, rfl, by omega, by rw [taken_ok, List.take_length], plain_str _, ?_⟩)
  refine Obl.goal (K := Goal P 0 4 Q) mix (fun _ h => h) (cast (gn 0 0 0 0 0 0 (rowF []) (nb []) A [] A [] 0 (0 : Nat) 0 (A.length : Nat) (nb []) (nb A) 0 0 0 (p + 1) 0 0 0 0 (x :: r).length (rowF []) (rowF []) (rowF []) (rowF (x :: r)) _).symm ⟨⟨Nat.le_refl _, hl, room1 (by omega)⟩, rfl, tells_int fun k _ => rfl, by omega, plain_str _, plain_int _, ?_⟩)
  rw [show AV.slg 3 0 0 A.length 0 = AV.slg 3 0 0 (p + 1) 0 by rw [hp']]
  cases hw with
  | grown n h1 h2 h3 => cases h1
  | rest o n h1 h2 h3 =>
    exact Obl.goal (K := Goal P 0 4 Q) mix (fun _ h => h) (cast (knR 0 0 0 0 0 0 (rowF []) (nb []) A [] [] [] 0 (0 : Nat) 0 (A.length : Nat) (nb A) (nb []) o n (p + 1) 0 0 0 0 p (x :: r).length (rowF []) (rowF (x :: r)) (rowF (x :: r)) (rowF (x :: r)) _).symm ⟨plain_int _, plain_int _, plain_str _, hg, fresh_ok _ (Nat.succ_pos _) (by omega), R.1, R.2, fresh_tells _ _, by omega, by simp, plain_str _, plain_str _, hlw⟩)

theorem full_e (A : List UInt8) (x : List UInt8) (r : List (List UInt8)) (hA : A.length ≤ 30 * 8194) (h0 : cut A = ⟨x :: r, [], false⟩) : Goal P 0 4 Q (SeN0 A (0 : Nat) (x :: r).length (rowF (x :: r))) := by
  have hne : A ≠ [] := fun h => by
    subst h
    have : (cut []).fs = x :: r := by rw [h0]
    cases this
  have hl : 0 < A.length := List.length_pos_iff.2 hne
  have hfl := fs_le A
  rw [h0] at hfl
  have hfl' : (x :: r).length ≤ A.length := hfl
  obtain ⟨p, hp'⟩ : ∃ p, A.length = p + 1 := ⟨A.length - 1, by omega⟩
  obtain ⟨w, hw, hg⟩ := loop_grown .leaf A (nb A) p hp' (holds_nb A) (by omega)
  rw [h0] at hw hg
  have hlw := lw_ok (x :: r).length (rowF (x :: r)) (by omega) (x :: r).length 0 (Nat.zero_add _)
  have R := rest_ok A A.length (Nat.le_refl _)
  rw [List.drop_length] at R
  refine Obl.goal (K := Goal P 0 4 Q) mix (fun _ h => h) (cast (c3e 0 0 0 0 0 0 (rowF []) (nb []) A [] A [] 0 (0 : Nat) 0 (A.length : Nat) (nb []) (nb []) 0 0 0 0 0 0 0 0 (x :: r).length (rowF []) (rowF []) (rowF []) (rowF (x :: r)) _).symm ⟨decide_eq_true (by omega), by decide, rfl, by omega, by rw [taken_ok, List.take_length], plain_str _, ?_⟩)
  refine Obl.goal (K := Goal P 0 4 Q) mix (fun _ h => h) (cast (ge 0 0 0 0 0 0 (rowF []) (nb []) A [] A [] 0 (0 : Nat) 0 (A.length : Nat) (nb []) (nb A) 0 0 0 (p + 1) 0 0 0 0 (x :: r).length (rowF []) (rowF []) (rowF []) (rowF (x :: r)) _).symm ⟨⟨Nat.le_refl _, hl, room1 (by omega)⟩, rfl, tells_int fun k _ => rfl, by omega, plain_str _, plain_int _, ?_⟩)
  rw [show AV.slg 3 0 0 A.length 0 = AV.slg 3 0 0 (p + 1) 0 by rw [hp']]
  cases hw with
  | grown n h1 h2 h3 => cases h1
  | rest o n h1 h2 h3 =>
    exact Obl.goal (K := Goal P 0 4 Q) mix (fun _ h => h) (cast (keR 0 0 0 0 0 0 (rowF []) (nb []) A [] [] [] 0 (0 : Nat) 0 (A.length : Nat) (nb A) (nb []) o n (p + 1) 0 0 0 0 p (x :: r).length (rowF []) (rowF (x :: r)) (rowF (x :: r)) (rowF (x :: r)) _).symm ⟨plain_int _, plain_int _, plain_str _, hg, fresh_ok _ (Nat.succ_pos _) (by omega), R.1, R.2, fresh_tells _ _, by omega, by simp, plain_str _, plain_str _, hlw⟩)


end Go.Proofs.Ytfgaadhnplccpaa.frw
