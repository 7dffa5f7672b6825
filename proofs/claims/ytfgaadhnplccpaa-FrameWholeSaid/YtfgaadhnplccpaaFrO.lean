/- FrameWhole: what is packed, and its first loop. -/
import Derived.Test.YtfgaadhnplccpaaFrN
set_option maxRecDepth 100000
namespace Go.Proofs.Ytfgaadhnplccpaa.frw
open Go Ev frm

/-- A body's frame. -/
def pack (s : List UInt8) : List UInt8 := [UInt8.ofNat (IntKind.u8.wrap (↑s.length : Int)).toNat, UInt8.ofNat (IntKind.u8.wrap ((↑s.length : Int).fdiv ((2 : Int) ^ min (Int.toNat (8 : Int)) IntKind.i64.bits))).toNat].reverse ++ s
/-- May it be packed? -/
def Fits (s : List UInt8) : Prop := 1 ≤ s.length ∧ s.length ≤ 8192

theorem pack_eq (s : List UInt8) (h : s.length ≤ 8192) : pack s = UInt8.ofNat (s.length / 256) :: UInt8.ofNat (s.length % 256) :: s := by
  unfold pack
  have e0 : min (Int.toNat (8 : Int)) IntKind.i64.bits = 8 := by decide
  have e1 : (IntKind.u8.wrap (↑s.length : Int)).toNat = s.length % 256 := by rw [IntKind.wrap_u8]; omega
  have e2 : (IntKind.u8.wrap ((↑s.length : Int).fdiv ((2 : Int) ^ 8))).toNat = s.length / 256 := by
    rw [Int.fdiv_eq_ediv_of_nonneg _ (by decide), IntKind.wrap_u8, show ((2 : Int) ^ 8) = 256 by decide]
    omega
  rw [e0, e1, e2]
  rfl

theorem pack_len (s : List UInt8) (h : s.length ≤ 8192) : (pack s).length = s.length + 2 := by rw [pack_eq s h]; rfl

theorem pack_hd (s : List UInt8) (h : s.length ≤ 8192) : hdn (pack s) = s.length := by
  rw [pack_eq s h]
  show 256 * (UInt8.ofNat (s.length / 256)).toNat + (UInt8.ofNat (s.length % 256)).toNat = _
  rw [UInt8.toNat_ofNat', UInt8.toNat_ofNat']
  omega

theorem cut_pack (s : List UInt8) (h : Fits s) : cut (pack s) = ⟨[s], [], false⟩ := by
  have hl := pack_len s h.2
  have hh := pack_hd s h.2
  obtain ⟨h1, h2⟩ := h
  rw [cut_more (by omega) (by omega) (by omega), hh]
  have ed : (pack s).drop 2 = s := by rw [pack_eq s h2]; rfl
  have e2 : (pack s).drop (2 + s.length) = [] := List.drop_eq_nil_of_le (by omega)
  rw [ed, e2, List.take_of_length_le (Nat.le_refl _), cut_short (by decide)]

theorem cut_packed {A : List UInt8} {l : List (List UInt8)} (hA : cut A = ⟨l, [], false⟩) (s : List UInt8) (h : Fits s) : cut (A ++ pack s) = ⟨l ++ [s], [], false⟩ := by
  rw [cut_more_fed (by rw [hA]), hA]
  simp only [List.nil_append, cut_pack s h]

theorem pack_ok (s : List UInt8) (h : Fits s) : Goal P 0 13 (fun x _ => x = .tup [.str (pack s), .int .i64 0]) (startM P 13 [.str s] .leaf) := by
  obtain ⟨h1, h2⟩ := h
  have hl := pack_len s h2
  refine Obl.goal (K := fun _ => False) mix (fun _ h => h.elim) (cast (pknn s _ _).symm ⟨by rw [beq_eq_false_iff_ne]; omega, decide_eq_false (by omega), ?_, rfl⟩)
  have : (pack s).length < 1099511627776 := by omega
  unfold pack at this
  rwa [List.length_append] at this

theorem pack_no (s : List UInt8) (h : ¬ Fits s) : ∃ c : Int, (c == 0) = false ∧ Goal P 0 13 (fun x _ => x = .tup [.str [], .int .i64 c]) (startM P 13 [.str s] .leaf) := by
  by_cases h0 : s.length = 0
  · exact ⟨2, by decide, Obl.goal (K := fun _ => False) mix (fun _ h => h.elim) (cast (pky s _ _).symm ⟨by rw [beq_iff_eq]; omega, rfl⟩)⟩
  · exact ⟨3, by decide, Obl.goal (K := fun _ => False) mix (fun _ h => h.elim) (cast (pkny s _ _).symm ⟨by rw [beq_eq_false_iff_ne]; omega, decide_eq_true (by
      have : ¬ s.length ≤ 8192 := fun hh => h ⟨by omega, hh⟩
      omega), rfl⟩)⟩

instance (s : List UInt8) : Decidable (Fits s) := inferInstanceAs (Decidable (_ ∧ _))


section
variable {off len cap : Nat} {f : Nat → List UInt8}

noncomputable def Wnf (off len cap : Nat) (f : Nat → List UInt8) (i : Int) (A : List UInt8) : List (List UInt8) → AM
  | [] => Wn0 off len cap f i
  | x :: r => Wn1 off len cap f i A (x :: r).length (rowF (x :: r))

theorem first_n (hlc : len ≤ cap) (hn : ∀ (A : List UInt8) (x : List UInt8) (r : List (List UInt8)), A.length ≤ 30 * 8194 → cut A = ⟨x :: r, [], false⟩ → Goal P 0 4 Q (SnN0 A (0 : Nat) (x :: r).length (rowF (x :: r)))) (d : Nat) :
    ∀ (i : Nat) (A : List UInt8) (l : List (List UInt8)), i + d = 30 → A.length ≤ i * 8194 → l.length ≤ i → cut A = ⟨l, [], false⟩ → (l = [] → A = []) → Goal P 0 4 Q (Wnf off len cap f (i : Nat) A l) := by
  induction d with
  | zero =>
    intro i A l hi hA hl hc h0
    by_cases hil : i < len
    · have L1 : decide (((i : Nat) : Int) < (len : Int)) = true := decide_eq_true (by omega)
      have L2 : decide (((i : Nat) : Int) < 30) = false := decide_eq_false (by omega)
      cases l with
      | nil => exact Obl.goal (K := fun _ => False) mix (fun _ h => h.elim) (cast (wbn0 off len cap 0 0 0 f (nb []) A [] [] (i : Nat) 0 0 (nb []) (nb []) 0 0 0 0 0 0 0 0 (rowF []) (rowF []) (rowF []) _).symm ⟨L1, L2, rfl⟩)
      | cons x r => exact Obl.goal (K := Goal P 0 4 Q) mix (fun _ h => h) (cast (wbn1 off len cap 0 0 0 f (nb []) A [] [] (i : Nat) 0 0 (nb []) (nb []) 0 0 0 0 (x :: r).length 0 0 0 (rowF (x :: r)) (rowF []) (rowF []) _).symm ⟨L1, L2, plain_str _, hn A x r (by omega) hc⟩)
    · have L1 : decide (((i : Nat) : Int) < (len : Int)) = false := decide_eq_false (by omega)
      cases l with
      | nil => exact Obl.goal (K := fun _ => False) mix (fun _ h => h.elim) (cast (wan0 off len cap 0 0 0 f (nb []) A [] [] (i : Nat) 0 0 (nb []) (nb []) 0 0 0 0 0 0 0 0 (rowF []) (rowF []) (rowF []) _).symm ⟨L1, rfl⟩)
      | cons x r => exact Obl.goal (K := Goal P 0 4 Q) mix (fun _ h => h) (cast (wan1 off len cap 0 0 0 f (nb []) A [] [] (i : Nat) 0 0 (nb []) (nb []) 0 0 0 0 (x :: r).length 0 0 0 (rowF (x :: r)) (rowF []) (rowF []) _).symm ⟨L1, plain_str _, hn A x r (by omega) hc⟩)
  | succ d ih =>
    intro i A l hi hA hl hc h0
    by_cases hil : i < len
    · have L1 : decide (((i : Nat) : Int) < (len : Int)) = true := decide_eq_true (by omega)
      have L2 : decide (((i : Nat) : Int) < 30) = true := decide_eq_true (by omega)
      have L3 : (0 : Int) ≤ ((i : Nat) : Int) ∧ ((i : Nat) : Int) < (len : Int) := by omega
      have L4 : off ≤ off + (((i : Nat) : Int)).toNat * 1 ∧ off + (((i : Nat) : Int)).toNat * 1 + 1 ≤ off + cap := by rw [Int.toNat_natCast]; omega
      have eI := next_j i (by omega)
      by_cases hf : Fits (f (off + (((i : Nat) : Int)).toNat * 1))
      · have hp := pack_ok _ hf
        have hpl := pack_len _ hf.2
        have hc2 := cut_packed hc _ hf
        have hf2 := hf.2
        cases l with
        | nil =>
          obtain rfl := h0 rfl
          have hn2 := ih (i + 1) ([] ++ pack (f (off + (((i : Nat) : Int)).toNat * 1))) ([] ++ [f (off + (((i : Nat) : Int)).toNat * 1)]) (by omega) (by rw [List.length_append]; omega) (by simp) hc2 (by simp)
          refine Obl.goal (K := Goal P 0 4 Q) mix (fun _ h => h) (cast (wYn0 off len cap 0 0 0 f (nb []) [] (pack (f (off + (((i : Nat) : Int)).toNat * 1))) [] (i : Nat) 0 0 (nb []) (nb []) 0 0 0 0 0 0 0 0 (rowF []) (rowF []) (rowF [f (off + (((i : Nat) : Int)).toNat * 1)]) _).symm ⟨L1, L2, L3, L4, hp, by omega, L3, L4, tells_one _ rfl, rfl, plain_str _, ?_⟩)
          rw [eI]; exact hn2
        | cons x r =>
          have hn2 := ih (i + 1) (A ++ pack (f (off + (((i : Nat) : Int)).toNat * 1))) (x :: r ++ [f (off + (((i : Nat) : Int)).toNat * 1)]) (by omega) (by rw [List.length_append]; omega) (by rw [List.length_append]; simp only [List.length_cons, List.length_nil] at hl ⊢; omega) hc2 (by simp)
          refine Obl.goal (K := Goal P 0 4 Q) mix (fun _ h => h) (cast (wYn1 off len cap 0 0 0 f (nb []) A (pack (f (off + (((i : Nat) : Int)).toNat * 1))) [] (i : Nat) 0 0 (nb []) (nb []) 0 0 0 0 (x :: r).length 0 0 0 (rowF (x :: r)) (rowF []) (rowF (x :: r ++ [f (off + (((i : Nat) : Int)).toNat * 1)])) _).symm ⟨L1, L2, L3, L4, hp, by omega, L3, L4, grow_ok _ rfl (by omega), tells_grow _ _ (rowF_last _ _) (rowF_old _ _), by omega, plain_str _, ?_⟩)
          rw [eI]
          have hm : Wnf off len cap f ((i + 1 : Nat) : Int) (A ++ pack (f (off + (((i : Nat) : Int)).toNat * 1))) (x :: r ++ [f (off + (((i : Nat) : Int)).toNat * 1)]) = Wn1 off len cap f ((i + 1 : Nat) : Int) (A ++ pack (f (off + (((i : Nat) : Int)).toNat * 1))) ((x :: r).length + 1) (rowF (x :: r ++ [f (off + (((i : Nat) : Int)).toNat * 1)])) := by
            show Wn1 _ _ _ _ _ _ (x :: r ++ [f (off + (((i : Nat) : Int)).toNat * 1)]).length _ = _
            rw [List.length_append]; rfl
          rw [← hm]; exact hn2
      · obtain ⟨c, hc0, hp⟩ := pack_no _ hf
        have hn2 := ih (i + 1) A l (by omega) (by omega) (by omega) hc h0
        cases l with
        | nil =>
          refine Obl.goal (K := Goal P 0 4 Q) mix (fun _ h => h) (cast (wNn0 off len cap 0 0 0 f (nb []) A [] [] (i : Nat) 0 c (nb []) (nb []) 0 0 0 0 0 0 0 0 (rowF []) (rowF []) (rowF []) _).symm ⟨L1, L2, L3, L4, hp, hc0, ?_⟩)
          rw [eI]; exact hn2
        | cons x r =>
          refine Obl.goal (K := Goal P 0 4 Q) mix (fun _ h => h) (cast (wNn1 off len cap 0 0 0 f (nb []) A [] [] (i : Nat) 0 c (nb []) (nb []) 0 0 0 0 (x :: r).length 0 0 0 (rowF (x :: r)) (rowF []) (rowF []) _).symm ⟨L1, L2, L3, L4, hp, hc0, plain_str _, ?_⟩)
          rw [eI]; exact hn2
    · have L1 : decide (((i : Nat) : Int) < (len : Int)) = false := decide_eq_false (by omega)
      cases l with
      | nil => exact Obl.goal (K := fun _ => False) mix (fun _ h => h.elim) (cast (wan0 off len cap 0 0 0 f (nb []) A [] [] (i : Nat) 0 0 (nb []) (nb []) 0 0 0 0 0 0 0 0 (rowF []) (rowF []) (rowF []) _).symm ⟨L1, rfl⟩)
      | cons x r => exact Obl.goal (K := Goal P 0 4 Q) mix (fun _ h => h) (cast (wan1 off len cap 0 0 0 f (nb []) A [] [] (i : Nat) 0 0 (nb []) (nb []) 0 0 0 0 (x :: r).length 0 0 0 (rowF (x :: r)) (rowF []) (rowF []) _).symm ⟨L1, plain_str _, hn A x r (by omega) hc⟩)

end

section
variable {off len cap : Nat} {f : Nat → List UInt8}

noncomputable def Wef (off len cap : Nat) (f : Nat → List UInt8) (i : Int) (A : List UInt8) : List (List UInt8) → AM
  | [] => We0 off len cap f i
  | x :: r => We1 off len cap f i A (x :: r).length (rowF (x :: r))

theorem first_e (hlc : len ≤ cap) (hn : ∀ (A : List UInt8) (x : List UInt8) (r : List (List UInt8)), A.length ≤ 30 * 8194 → cut A = ⟨x :: r, [], false⟩ → Goal P 0 4 Q (SeN0 A (0 : Nat) (x :: r).length (rowF (x :: r)))) (d : Nat) :
    ∀ (i : Nat) (A : List UInt8) (l : List (List UInt8)), i + d = 30 → A.length ≤ i * 8194 → l.length ≤ i → cut A = ⟨l, [], false⟩ → (l = [] → A = []) → Goal P 0 4 Q (Wef off len cap f (i : Nat) A l) := by
  induction d with
  | zero =>
    intro i A l hi hA hl hc h0
    by_cases hil : i < len
    · have L1 : decide (((i : Nat) : Int) < (len : Int)) = true := decide_eq_true (by omega)
      have L2 : decide (((i : Nat) : Int) < 30) = false := decide_eq_false (by omega)
      cases l with
      | nil => exact Obl.goal (K := fun _ => False) mix (fun _ h => h.elim) (cast (wbe0 off len cap 0 0 0 f (nb []) A [] [] (i : Nat) 0 0 (nb []) (nb []) 0 0 0 0 0 0 0 0 (rowF []) (rowF []) (rowF []) _).symm ⟨L1, L2, rfl⟩)
      | cons x r => exact Obl.goal (K := Goal P 0 4 Q) mix (fun _ h => h) (cast (wbe1 off len cap 0 0 0 f (nb []) A [] [] (i : Nat) 0 0 (nb []) (nb []) 0 0 0 0 (x :: r).length 0 0 0 (rowF (x :: r)) (rowF []) (rowF []) _).symm ⟨L1, L2, plain_str _, hn A x r (by omega) hc⟩)
    · have L1 : decide (((i : Nat) : Int) < (len : Int)) = false := decide_eq_false (by omega)
      cases l with
      | nil => exact Obl.goal (K := fun _ => False) mix (fun _ h => h.elim) (cast (wae0 off len cap 0 0 0 f (nb []) A [] [] (i : Nat) 0 0 (nb []) (nb []) 0 0 0 0 0 0 0 0 (rowF []) (rowF []) (rowF []) _).symm ⟨L1, rfl⟩)
      | cons x r => exact Obl.goal (K := Goal P 0 4 Q) mix (fun _ h => h) (cast (wae1 off len cap 0 0 0 f (nb []) A [] [] (i : Nat) 0 0 (nb []) (nb []) 0 0 0 0 (x :: r).length 0 0 0 (rowF (x :: r)) (rowF []) (rowF []) _).symm ⟨L1, plain_str _, hn A x r (by omega) hc⟩)
  | succ d ih =>
    intro i A l hi hA hl hc h0
    by_cases hil : i < len
    · have L1 : decide (((i : Nat) : Int) < (len : Int)) = true := decide_eq_true (by omega)
      have L2 : decide (((i : Nat) : Int) < 30) = true := decide_eq_true (by omega)
      have L3 : (0 : Int) ≤ ((i : Nat) : Int) ∧ ((i : Nat) : Int) < (len : Int) := by omega
      have L4 : off ≤ off + (((i : Nat) : Int)).toNat * 1 ∧ off + (((i : Nat) : Int)).toNat * 1 + 1 ≤ off + cap := by rw [Int.toNat_natCast]; omega
      have eI := next_j i (by omega)
      by_cases hf : Fits (f (off + (((i : Nat) : Int)).toNat * 1))
      · have hp := pack_ok _ hf
        have hpl := pack_len _ hf.2
        have hc2 := cut_packed hc _ hf
        have hf2 := hf.2
        cases l with
        | nil =>
          obtain rfl := h0 rfl
          have hn2 := ih (i + 1) ([] ++ pack (f (off + (((i : Nat) : Int)).toNat * 1))) ([] ++ [f (off + (((i : Nat) : Int)).toNat * 1)]) (by omega) (by rw [List.length_append]; omega) (by simp) hc2 (by simp)
          refine Obl.goal (K := Goal P 0 4 Q) mix (fun _ h => h) (cast (wYe0 off len cap 0 0 0 f (nb []) [] (pack (f (off + (((i : Nat) : Int)).toNat * 1))) [] (i : Nat) 0 0 (nb []) (nb []) 0 0 0 0 0 0 0 0 (rowF []) (rowF []) (rowF [f (off + (((i : Nat) : Int)).toNat * 1)]) _).symm ⟨L1, L2, L3, L4, hp, by omega, L3, L4, tells_one _ rfl, rfl, plain_str _, ?_⟩)
          rw [eI]; exact hn2
        | cons x r =>
          have hn2 := ih (i + 1) (A ++ pack (f (off + (((i : Nat) : Int)).toNat * 1))) (x :: r ++ [f (off + (((i : Nat) : Int)).toNat * 1)]) (by omega) (by rw [List.length_append]; omega) (by rw [List.length_append]; simp only [List.length_cons, List.length_nil] at hl ⊢; omega) hc2 (by simp)
          refine Obl.goal (K := Goal P 0 4 Q) mix (fun _ h => h) (cast (wYe1 off len cap 0 0 0 f (nb []) A (pack (f (off + (((i : Nat) : Int)).toNat * 1))) [] (i : Nat) 0 0 (nb []) (nb []) 0 0 0 0 (x :: r).length 0 0 0 (rowF (x :: r)) (rowF []) (rowF (x :: r ++ [f (off + (((i : Nat) : Int)).toNat * 1)])) _).symm ⟨L1, L2, L3, L4, hp, by omega, L3, L4, grow_ok _ rfl (by omega), tells_grow _ _ (rowF_last _ _) (rowF_old _ _), by omega, plain_str _, ?_⟩)
          rw [eI]
          have hm : Wef off len cap f ((i + 1 : Nat) : Int) (A ++ pack (f (off + (((i : Nat) : Int)).toNat * 1))) (x :: r ++ [f (off + (((i : Nat) : Int)).toNat * 1)]) = We1 off len cap f ((i + 1 : Nat) : Int) (A ++ pack (f (off + (((i : Nat) : Int)).toNat * 1))) ((x :: r).length + 1) (rowF (x :: r ++ [f (off + (((i : Nat) : Int)).toNat * 1)])) := by
            show We1 _ _ _ _ _ _ (x :: r ++ [f (off + (((i : Nat) : Int)).toNat * 1)]).length _ = _
            rw [List.length_append]; rfl
          rw [← hm]; exact hn2
      · obtain ⟨c, hc0, hp⟩ := pack_no _ hf
        have hn2 := ih (i + 1) A l (by omega) (by omega) (by omega) hc h0
        cases l with
        | nil =>
          refine Obl.goal (K := Goal P 0 4 Q) mix (fun _ h => h) (cast (wNe0 off len cap 0 0 0 f (nb []) A [] [] (i : Nat) 0 c (nb []) (nb []) 0 0 0 0 0 0 0 0 (rowF []) (rowF []) (rowF []) _).symm ⟨L1, L2, L3, L4, hp, hc0, ?_⟩)
          rw [eI]; exact hn2
        | cons x r =>
          refine Obl.goal (K := Goal P 0 4 Q) mix (fun _ h => h) (cast (wNe1 off len cap 0 0 0 f (nb []) A [] [] (i : Nat) 0 c (nb []) (nb []) 0 0 0 0 (x :: r).length 0 0 0 (rowF (x :: r)) (rowF []) (rowF []) _).symm ⟨L1, L2, L3, L4, hp, hc0, plain_str _, ?_⟩)
          rw [eI]; exact hn2
    · have L1 : decide (((i : Nat) : Int) < (len : Int)) = false := decide_eq_false (by omega)
      cases l with
      | nil => exact Obl.goal (K := fun _ => False) mix (fun _ h => h.elim) (cast (wae0 off len cap 0 0 0 f (nb []) A [] [] (i : Nat) 0 0 (nb []) (nb []) 0 0 0 0 0 0 0 0 (rowF []) (rowF []) (rowF []) _).symm ⟨L1, rfl⟩)
      | cons x r => exact Obl.goal (K := Goal P 0 4 Q) mix (fun _ h => h) (cast (wae1 off len cap 0 0 0 f (nb []) A [] [] (i : Nat) 0 0 (nb []) (nb []) 0 0 0 0 (x :: r).length 0 0 0 (rowF (x :: r)) (rowF []) (rowF []) _).symm ⟨L1, plain_str _, hn A x r (by omega) hc⟩)

end

section
variable {off len cap : Nat} {f : Nat → List UInt8} {po pl pc : Nat} {pf : Nat → Int}

noncomputable def Wsf (off len cap : Nat) (f : Nat → List UInt8) (po pl pc : Nat) (pf : Nat → Int) (i : Int) (A : List UInt8) : List (List UInt8) → AM
  | [] => Ws0 off len cap f po pl pc pf i
  | x :: r => Ws1 off len cap f po pl pc pf i A (x :: r).length (rowF (x :: r))

theorem first_s (hlc : len ≤ cap) (hn : ∀ (A : List UInt8) (x : List UInt8) (r : List (List UInt8)), A.length ≤ 30 * 8194 → cut A = ⟨x :: r, [], false⟩ → Goal P 0 4 Q (SsN0 po pl pc pf A (0 : Nat) (x :: r).length (rowF (x :: r)))) (d : Nat) :
    ∀ (i : Nat) (A : List UInt8) (l : List (List UInt8)), i + d = 30 → A.length ≤ i * 8194 → l.length ≤ i → cut A = ⟨l, [], false⟩ → (l = [] → A = []) → Goal P 0 4 Q (Wsf off len cap f po pl pc pf (i : Nat) A l) := by
  induction d with
  | zero =>
    intro i A l hi hA hl hc h0
    by_cases hil : i < len
    · have L1 : decide (((i : Nat) : Int) < (len : Int)) = true := decide_eq_true (by omega)
      have L2 : decide (((i : Nat) : Int) < 30) = false := decide_eq_false (by omega)
      cases l with
      | nil => exact Obl.goal (K := fun _ => False) mix (fun _ h => h.elim) (cast (wbs0 off len cap po pl pc f pf A [] [] (i : Nat) 0 0 (nb []) (nb []) 0 0 0 0 0 0 0 0 (rowF []) (rowF []) (rowF []) _).symm ⟨L1, L2, rfl⟩)
      | cons x r => exact Obl.goal (K := Goal P 0 4 Q) mix (fun _ h => h) (cast (wbs1 off len cap po pl pc f pf A [] [] (i : Nat) 0 0 (nb []) (nb []) 0 0 0 0 (x :: r).length 0 0 0 (rowF (x :: r)) (rowF []) (rowF []) _).symm ⟨L1, L2, plain_str _, hn A x r (by omega) hc⟩)
    · have L1 : decide (((i : Nat) : Int) < (len : Int)) = false := decide_eq_false (by omega)
      cases l with
      | nil => exact Obl.goal (K := fun _ => False) mix (fun _ h => h.elim) (cast (was0 off len cap po pl pc f pf A [] [] (i : Nat) 0 0 (nb []) (nb []) 0 0 0 0 0 0 0 0 (rowF []) (rowF []) (rowF []) _).symm ⟨L1, rfl⟩)
      | cons x r => exact Obl.goal (K := Goal P 0 4 Q) mix (fun _ h => h) (cast (was1 off len cap po pl pc f pf A [] [] (i : Nat) 0 0 (nb []) (nb []) 0 0 0 0 (x :: r).length 0 0 0 (rowF (x :: r)) (rowF []) (rowF []) _).symm ⟨L1, plain_str _, hn A x r (by omega) hc⟩)
  | succ d ih =>
    intro i A l hi hA hl hc h0
    by_cases hil : i < len
    · have L1 : decide (((i : Nat) : Int) < (len : Int)) = true := decide_eq_true (by omega)
      have L2 : decide (((i : Nat) : Int) < 30) = true := decide_eq_true (by omega)
      have L3 : (0 : Int) ≤ ((i : Nat) : Int) ∧ ((i : Nat) : Int) < (len : Int) := by omega
      have L4 : off ≤ off + (((i : Nat) : Int)).toNat * 1 ∧ off + (((i : Nat) : Int)).toNat * 1 + 1 ≤ off + cap := by rw [Int.toNat_natCast]; omega
      have eI := next_j i (by omega)
      by_cases hf : Fits (f (off + (((i : Nat) : Int)).toNat * 1))
      · have hp := pack_ok _ hf
        have hpl := pack_len _ hf.2
        have hc2 := cut_packed hc _ hf
        have hf2 := hf.2
        cases l with
        | nil =>
          obtain rfl := h0 rfl
          have hn2 := ih (i + 1) ([] ++ pack (f (off + (((i : Nat) : Int)).toNat * 1))) ([] ++ [f (off + (((i : Nat) : Int)).toNat * 1)]) (by omega) (by rw [List.length_append]; omega) (by simp) hc2 (by simp)
          refine Obl.goal (K := Goal P 0 4 Q) mix (fun _ h => h) (cast (wYs0 off len cap po pl pc f pf [] (pack (f (off + (((i : Nat) : Int)).toNat * 1))) [] (i : Nat) 0 0 (nb []) (nb []) 0 0 0 0 0 0 0 0 (rowF []) (rowF []) (rowF [f (off + (((i : Nat) : Int)).toNat * 1)]) _).symm ⟨L1, L2, L3, L4, hp, by omega, L3, L4, tells_one _ rfl, rfl, plain_str _, ?_⟩)
          rw [eI]; exact hn2
        | cons x r =>
          have hn2 := ih (i + 1) (A ++ pack (f (off + (((i : Nat) : Int)).toNat * 1))) (x :: r ++ [f (off + (((i : Nat) : Int)).toNat * 1)]) (by omega) (by rw [List.length_append]; omega) (by rw [List.length_append]; simp only [List.length_cons, List.length_nil] at hl ⊢; omega) hc2 (by simp)
          refine Obl.goal (K := Goal P 0 4 Q) mix (fun _ h => h) (cast (wYs1 off len cap po pl pc f pf A (pack (f (off + (((i : Nat) : Int)).toNat * 1))) [] (i : Nat) 0 0 (nb []) (nb []) 0 0 0 0 (x :: r).length 0 0 0 (rowF (x :: r)) (rowF []) (rowF (x :: r ++ [f (off + (((i : Nat) : Int)).toNat * 1)])) _).symm ⟨L1, L2, L3, L4, hp, by omega, L3, L4, grow_ok _ rfl (by omega), tells_grow _ _ (rowF_last _ _) (rowF_old _ _), by omega, plain_str _, ?_⟩)
          rw [eI]
          have hm : Wsf off len cap f po pl pc pf ((i + 1 : Nat) : Int) (A ++ pack (f (off + (((i : Nat) : Int)).toNat * 1))) (x :: r ++ [f (off + (((i : Nat) : Int)).toNat * 1)]) = Ws1 off len cap f po pl pc pf ((i + 1 : Nat) : Int) (A ++ pack (f (off + (((i : Nat) : Int)).toNat * 1))) ((x :: r).length + 1) (rowF (x :: r ++ [f (off + (((i : Nat) : Int)).toNat * 1)])) := by
            show Ws1 _ _ _ _ _ _ _ _ _ _ (x :: r ++ [f (off + (((i : Nat) : Int)).toNat * 1)]).length _ = _
            rw [List.length_append]; rfl
          rw [← hm]; exact hn2
      · obtain ⟨c, hc0, hp⟩ := pack_no _ hf
        have hn2 := ih (i + 1) A l (by omega) (by omega) (by omega) hc h0
        cases l with
        | nil =>
          refine Obl.goal (K := Goal P 0 4 Q) mix (fun _ h => h) (cast (wNs0 off len cap po pl pc f pf A [] [] (i : Nat) 0 c (nb []) (nb []) 0 0 0 0 0 0 0 0 (rowF []) (rowF []) (rowF []) _).symm ⟨L1, L2, L3, L4, hp, hc0, ?_⟩)
          rw [eI]; exact hn2
        | cons x r =>
          refine Obl.goal (K := Goal P 0 4 Q) mix (fun _ h => h) (cast (wNs1 off len cap po pl pc f pf A [] [] (i : Nat) 0 c (nb []) (nb []) 0 0 0 0 (x :: r).length 0 0 0 (rowF (x :: r)) (rowF []) (rowF []) _).symm ⟨L1, L2, L3, L4, hp, hc0, plain_str _, ?_⟩)
          rw [eI]; exact hn2
    · have L1 : decide (((i : Nat) : Int) < (len : Int)) = false := decide_eq_false (by omega)
      cases l with
      | nil => exact Obl.goal (K := fun _ => False) mix (fun _ h => h.elim) (cast (was0 off len cap po pl pc f pf A [] [] (i : Nat) 0 0 (nb []) (nb []) 0 0 0 0 0 0 0 0 (rowF []) (rowF []) (rowF []) _).symm ⟨L1, rfl⟩)
      | cons x r => exact Obl.goal (K := Goal P 0 4 Q) mix (fun _ h => h) (cast (was1 off len cap po pl pc f pf A [] [] (i : Nat) 0 0 (nb []) (nb []) 0 0 0 0 (x :: r).length 0 0 0 (rowF (x :: r)) (rowF []) (rowF []) _).symm ⟨L1, plain_str _, hn A x r (by omega) hc⟩)

end


section
variable {po pl pc : Nat} {pf : Nat → Int} {kw : Nat} {gw : Nat → List UInt8}

noncomputable def SNf (po pl pc : Nat) (pf : Nat → Int) (kw : Nat) (gw : Nat → List UInt8) (A : List UInt8) (j : Int) : List (List UInt8) → AM
  | [] => SsN0 po pl pc pf A j kw gw
  | x :: r => SsN1 po pl pc pf A j kw gw (x :: r).length (rowF (x :: r))
noncomputable def SGf (po pl pc : Nat) (pf : Nat → Int) (kw : Nat) (gw : Nat → List UInt8) (A : List UInt8) (j : Int) (b : Nat → Int) (n : Nat) : List (List UInt8) → AM
  | [] => SsG0 po pl pc pf A j kw gw b n
  | x :: r => SsG1 po pl pc pf A j kw gw (x :: r).length (rowF (x :: r)) b n
noncomputable def SCf (po pl pc : Nat) (pf : Nat → Int) (kw : Nat) (gw : Nat → List UInt8) (A : List UInt8) (j : Int) (b : Nat → Int) (o n m : Nat) : List (List UInt8) → AM
  | [] => SsC0 po pl pc pf A j kw gw b o n m
  | x :: r => SsC1 po pl pc pf A j kw gw (x :: r).length (rowF (x :: r)) b o n m
noncomputable def Yf (po pl pc : Nat) (pf : Nat → Int) (kw : Nat) (gw : Nat → List UInt8) (A : List UInt8) (j y : Int) (p : Nat) (b : Nat → Int) (m : Nat) : List (List UInt8) → AM
  | [] => Ys0 po pl pc pf A j y kw gw (.slg 4 0 0 (p + 1) 0) b m
  | x :: r => Ys1 po pl pc pf A j y kw gw (x :: r).length (rowF (x :: r)) (.slg 5 0 0 (p + 1) 0) b m
noncomputable def Zf (po pl pc : Nat) (pf : Nat → Int) (kw : Nat) (gw : Nat → List UInt8) (A : List UInt8) (j y : Int) (l p : Nat) (b : Nat → Int) (m : Nat) : List (List UInt8) → AM
  | [] => Ys0 po pl pc pf A j y kw gw (.slc 4 0 l p p) b m
  | x :: r => Ys1 po pl pc pf A j y kw gw (x :: r).length (rowF (x :: r)) (.slc 5 0 l p p) b m

theorem SGf_cons {A : List UInt8} {j : Int} {b : Nat → Int} {n : Nat} {l : List (List UInt8)} (h : l ≠ []) : SGf po pl pc pf kw gw A j b n l = SsG1 po pl pc pf A j kw gw l.length (rowF l) b n := by
  cases l with
  | nil => exact absurd rfl h
  | cons x r => rfl
theorem SCf_cons {A : List UInt8} {j : Int} {b : Nat → Int} {o n m : Nat} {l : List (List UInt8)} (h : l ≠ []) : SCf po pl pc pf kw gw A j b o n m l = SsC1 po pl pc pf A j kw gw l.length (rowF l) b o n m := by
  cases l with
  | nil => exact absurd rfl h
  | cons x r => rfl

/-- What stands at the loop's head: T was fed, A is left. -/
inductive SHead (po pl pc : Nat) (pf : Nat → Int) (kw : Nat) (gw : Nat → List UInt8) (A : List UInt8) (j : Nat) (T : List UInt8) : AM → Prop where
  | none : (cut T).left = [] → SHead po pl pc pf kw gw A j T (SNf po pl pc pf kw gw A (j : Nat) (cut T).fs)
  | grown (b : Nat → Int) (n : Nat) : (cut T).left.length = n + 1 → Holds b 0 (cut T).left → SHead po pl pc pf kw gw A j T (SGf po pl pc pf kw gw A (j : Nat) b n (cut T).fs)
  | rest (b : Nat → Int) (o n m : Nat) : (cut T).left.length = n → o + n ≤ m → Holds b o (cut T).left → SHead po pl pc pf kw gw A j T (SCf po pl pc pf kw gw A (j : Nat) b o n m (cut T).fs)

theorem SHead.ofLV {A : List UInt8} {j m : Nat} {b : Nat → Int} {T : List UInt8} {w : AV} (hb : (cut T).bad = false) (hw : LV b m (cut T).left (cut T).bad w) :
    (∃ n, w = .slg 2 0 0 (n + 1) 0 ∧ m = n + 1 ∧ SHead po pl pc pf kw gw A j T (SGf po pl pc pf kw gw A (j : Nat) b n (cut T).fs)) ∨
    (∃ o n, w = .slc 2 0 o n n ∧ SHead po pl pc pf kw gw A j T (SCf po pl pc pf kw gw A (j : Nat) b o n m (cut T).fs)) := by
  rw [hb] at hw
  cases hw with
  | grown n h1 h2 h3 => exact .inl ⟨n, rfl, h2, .grown b n h1 h3⟩
  | rest o n h1 h2 h3 => exact .inr ⟨o, n, rfl, .rest b o n m h1 h2 h3⟩

/-- What is taken off. -/
theorem rest_ok (A : List UInt8) (N : Nat) (h : N ≤ A.length) : ((0 : Int) ≤ ((N : Nat) : Int) ∧ ((N : Nat) : Int) ≤ (↑A.length : Int)) ∧ AV.str (List.take (A.length - (((N : Nat) : Int)).toNat) (List.drop (((N : Nat) : Int)).toNat A)) = AV.str (A.drop N) := by
  refine ⟨by omega, ?_⟩
  rw [Int.toNat_natCast, List.take_of_length_le (by rw [List.length_drop]; omega)]

theorem yDoneW {A T u : List UInt8} {j N p m : Nat} {b : Nat → Int} (hT : (cut T).bad = false) (hTu : (cut (T ++ u)).bad = false) (hs : (T ++ u).length < 2 ^ 39) (hj : j < 2 ^ 39) (hN : N ≤ A.length)
    (hL : LoopOk .leaf b m [] (cut ((cut T).left ++ u)) (MF0 (.slg 2 0 0 (p + 1) 0) b m .leaf))
    (hn : ∀ M, SHead po pl pc pf kw gw (A.drop N) (j + 1) (T ++ u) M → Goal P 0 4 Q M) : Goal P 0 4 Q (Yf po pl pc pf kw gw A (j : Nat) (N : Nat) p b m (cut T).fs) := by
  obtain ⟨w, hw, hg⟩ := hL
  have e := cut_more_fed (s := u) hT
  have eI := next_j j (by omega)
  obtain ⟨L1, L2⟩ := rest_ok A N hN
  have eb : (cut (T ++ u)).bad = (cut ((cut T).left ++ u)).bad := by rw [e]
  have el : (cut (T ++ u)).left = (cut ((cut T).left ++ u)).left := by rw [e]
  have ef : (cut (T ++ u)).fs = (cut T).fs ++ (cut ((cut T).left ++ u)).fs := by rw [e]
  rw [← eb, ← el] at hw
  rw [← eb, hTu] at hg
  have hfl := fs_le (T ++ u)
  rw [ef, List.length_append] at hfl
  generalize (cut ((cut T).left ++ u)).fs = c at ef hg hfl
  by_cases h0 : c = []
  · subst h0
    rw [List.append_nil] at ef
    rcases SHead.ofLV (po := po) (pl := pl) (pc := pc) (pf := pf) (kw := kw) (gw := gw) (A := A.drop N) (j := j + 1) hTu hw with ⟨n, rfl, rfl, hd⟩ | ⟨o, n, rfl, hd⟩
    · rw [ef] at hd
      cases hl : (cut T).fs with
      | nil =>
        rw [hl] at hd
        refine Obl.goal (K := Goal P 0 4 Q) mix (fun _ h => h) (cast (kNG0 0 0 0 po pl pc (rowF []) pf A [] [] (A.drop N) 0 (j : Nat) 0 (N : Nat) b b 0 n 0 0 0 0 0 p kw (rowF []) (rowF []) (rowF []) gw _).symm ⟨plain_int b, plain_int b, hg, L1, L2, plain_str _, plain_int b, ?_⟩)
        rw [eI]; exact hn _ hd
      | cons x r =>
        rw [hl] at hd
        refine Obl.goal (K := Goal P 0 4 Q) mix (fun _ h => h) (cast (kNG1 0 0 0 po pl pc (rowF []) pf A [] [] (A.drop N) 0 (j : Nat) 0 (N : Nat) b b 0 n 0 0 (x :: r).length 0 0 p kw (rowF (x :: r)) (rowF []) (rowF []) gw _).symm ⟨plain_int b, plain_int b, hg, L1, L2, plain_str _, plain_str _, plain_int b, ?_⟩)
        rw [eI]; exact hn _ hd
    · rw [ef] at hd
      cases hl : (cut T).fs with
      | nil =>
        rw [hl] at hd
        refine Obl.goal (K := Goal P 0 4 Q) mix (fun _ h => h) (cast (kNR0 0 0 0 po pl pc (rowF []) pf A [] [] (A.drop N) 0 (j : Nat) 0 (N : Nat) b b o n m 0 0 0 0 p kw (rowF []) (rowF []) (rowF []) gw _).symm ⟨plain_int b, plain_int b, hg, L1, L2, plain_str _, plain_int b, ?_⟩)
        rw [eI]; exact hn _ hd
      | cons x r =>
        rw [hl] at hd
        refine Obl.goal (K := Goal P 0 4 Q) mix (fun _ h => h) (cast (kNR1 0 0 0 po pl pc (rowF []) pf A [] [] (A.drop N) 0 (j : Nat) 0 (N : Nat) b b o n m 0 (x :: r).length 0 0 p kw (rowF (x :: r)) (rowF []) (rowF []) gw _).symm ⟨plain_int b, plain_int b, hg, L1, L2, plain_str _, plain_str _, plain_int b, ?_⟩)
        rw [eI]; exact hn _ hd
  · have hp : 0 < c.length := List.length_pos_iff.2 h0
    have hne : (cut (T ++ u)).fs ≠ [] := by rw [ef]; simp [h0]
    have hg' : Goal P 3 8 (fun v h => v = .slg 3 0 0 c.length 0 ∧ h = HK1 w false b m c.length (rowF c) .leaf) (MF0 (.slg 2 0 0 (p + 1) 0) b m .leaf) := by
      cases c with
      | nil => exact absurd rfl h0
      | cons x r => exact hg
    rcases SHead.ofLV (po := po) (pl := pl) (pc := pc) (pf := pf) (kw := kw) (gw := gw) (A := A.drop N) (j := j + 1) hTu hw with ⟨n, rfl, rfl, hd⟩ | ⟨o, n, rfl, hd⟩
    · rw [SGf_cons hne, ef, List.length_append] at hd
      cases hl : (cut T).fs with
      | nil =>
        rw [hl, List.nil_append, List.length_nil, Nat.zero_add] at hd
        refine Obl.goal (K := Goal P 0 4 Q) mix (fun _ h => h) (cast (kCG0 0 0 0 po pl pc (rowF []) pf A [] [] (A.drop N) 0 (j : Nat) 0 (N : Nat) b b 0 n 0 0 0 c.length 0 p kw (rowF []) (rowF c) (rowF c) gw _).symm ⟨plain_int b, plain_int b, plain_str _, hg', fresh_ok _ hp (by omega), L1, L2, fresh_tells _ _, by omega, plain_str _, plain_str _, plain_int b, ?_⟩)
        rw [eI]; exact hn _ hd
      | cons x r =>
        rw [hl] at hd hfl
        refine Obl.goal (K := Goal P 0 4 Q) mix (fun _ h => h) (cast (kCG1 0 0 0 po pl pc (rowF []) pf A [] [] (A.drop N) 0 (j : Nat) 0 (N : Nat) b b 0 n 0 0 (x :: r).length c.length 0 p kw (rowF (x :: r)) (rowF c) (rowF (x :: r ++ c)) gw _).symm ⟨plain_int b, plain_int b, plain_str _, hg', growR_ok _ hp (by omega), L1, L2, growR_tells _ _, by omega, plain_str _, plain_str _, plain_int b, ?_⟩)
        rw [eI]; exact hn _ hd
    · rw [SCf_cons hne, ef, List.length_append] at hd
      cases hl : (cut T).fs with
      | nil =>
        rw [hl, List.nil_append, List.length_nil, Nat.zero_add] at hd
        refine Obl.goal (K := Goal P 0 4 Q) mix (fun _ h => h) (cast (kCR0 0 0 0 po pl pc (rowF []) pf A [] [] (A.drop N) 0 (j : Nat) 0 (N : Nat) b b o n m 0 0 c.length 0 p kw (rowF []) (rowF c) (rowF c) gw _).symm ⟨plain_int b, plain_int b, plain_str _, hg', fresh_ok _ hp (by omega), L1, L2, fresh_tells _ _, by omega, plain_str _, plain_str _, plain_int b, ?_⟩)
        rw [eI]; exact hn _ hd
      | cons x r =>
        rw [hl] at hd hfl
        refine Obl.goal (K := Goal P 0 4 Q) mix (fun _ h => h) (cast (kCR1 0 0 0 po pl pc (rowF []) pf A [] [] (A.drop N) 0 (j : Nat) 0 (N : Nat) b b o n m 0 (x :: r).length c.length 0 p kw (rowF (x :: r)) (rowF c) (rowF (x :: r ++ c)) gw _).symm ⟨plain_int b, plain_int b, plain_str _, hg', growR_ok _ hp (by omega), L1, L2, growR_tells _ _, by omega, plain_str _, plain_str _, plain_int b, ?_⟩)
        rw [eI]; exact hn _ hd

theorem zDoneW {A T : List UInt8} {j N l0 p m : Nat} {b : Nat → Int} (hT : (cut T).bad = false) (hj : j < 2 ^ 39) (hN : N ≤ A.length)
    (hL : LoopOk .leaf b m [] (cut (cut T).left) (MF0 (.slc 2 0 l0 p p) b m .leaf))
    (hn : ∀ M, SHead po pl pc pf kw gw (A.drop N) (j + 1) T M → Goal P 0 4 Q M) : Goal P 0 4 Q (Zf po pl pc pf kw gw A (j : Nat) (N : Nat) l0 p b m (cut T).fs) := by
  rw [cut_left T hT] at hL
  obtain ⟨w, hw, hg⟩ := hL
  have eI := next_j j (by omega)
  obtain ⟨L1, L2⟩ := rest_ok A N hN
  change LV b m (cut T).left false w at hw
  rw [← hT] at hw
  rcases SHead.ofLV (po := po) (pl := pl) (pc := pc) (pf := pf) (kw := kw) (gw := gw) (A := A.drop N) (j := j + 1) hT hw with ⟨n, rfl, rfl, hd⟩ | ⟨o, n, rfl, hd⟩
  · cases hl : (cut T).fs with
    | nil =>
      rw [hl] at hd
      refine Obl.goal (K := Goal P 0 4 Q) mix (fun _ h => h) (cast (zG0 0 0 0 po pl pc (rowF []) pf A [] [] (A.drop N) 0 (j : Nat) 0 (N : Nat) b b 0 n 0 0 0 l0 0 p kw (rowF []) (rowF []) (rowF []) gw _).symm ⟨plain_int b, plain_int b, hg, L1, L2, plain_str _, plain_int b, ?_⟩)
      rw [eI]; exact hn _ hd
    | cons x r =>
      rw [hl] at hd
      refine Obl.goal (K := Goal P 0 4 Q) mix (fun _ h => h) (cast (zG1 0 0 0 po pl pc (rowF []) pf A [] [] (A.drop N) 0 (j : Nat) 0 (N : Nat) b b 0 n 0 0 (x :: r).length l0 0 p kw (rowF (x :: r)) (rowF []) (rowF []) gw _).symm ⟨plain_int b, plain_int b, hg, L1, L2, plain_str _, plain_str _, plain_int b, ?_⟩)
      rw [eI]; exact hn _ hd
  · cases hl : (cut T).fs with
    | nil =>
      rw [hl] at hd
      refine Obl.goal (K := Goal P 0 4 Q) mix (fun _ h => h) (cast (zR0 0 0 0 po pl pc (rowF []) pf A [] [] (A.drop N) 0 (j : Nat) 0 (N : Nat) b b o n m 0 0 l0 0 p kw (rowF []) (rowF []) (rowF []) gw _).symm ⟨plain_int b, plain_int b, hg, L1, L2, plain_str _, plain_int b, ?_⟩)
      rw [eI]; exact hn _ hd
    | cons x r =>
      rw [hl] at hd
      refine Obl.goal (K := Goal P 0 4 Q) mix (fun _ h => h) (cast (zR1 0 0 0 po pl pc (rowF []) pf A [] [] (A.drop N) 0 (j : Nat) 0 (N : Nat) b b o n m 0 (x :: r).length l0 0 p kw (rowF (x :: r)) (rowF []) (rowF []) gw _).symm ⟨plain_int b, plain_int b, hg, L1, L2, plain_str _, plain_str _, plain_int b, ?_⟩)
      rw [eI]; exact hn _ hd

end

end Go.Proofs.Ytfgaadhnplccpaa.frw
